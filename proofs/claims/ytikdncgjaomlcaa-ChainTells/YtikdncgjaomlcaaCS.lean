/- cutwaterref.SameChain answers true where two chains hold the same. -/
import Derived.Test.YtikdncgjaomlcaaC3
namespace Go.Proofs.Ytikdncgjaomlcaa
open Go.RowKit

theorem run_neqCell (t j : Bool) (s : ByteArray) (w : World) : (binOp .neq 54 (.agg #[.bool t, .bool j, .string s]) (.agg #[.bool t, .bool j, .string s])).run Try.prog w = .ok (.bool false) w := by
  simp [go_sem]
set_option maxHeartbeats 4000000 in
theorem sameChain_any (c : Ch) (a a' : Option Addr) (cap cap' : Nat) (w : World) (hc : CellsAt w a cap c.cells) (hc' : CellsAt w a' cap' c.cells) :
    Calls Try.prog 53 #[c.val a cap, c.val a' cap'] w fun e w' => e = .returned (.bool true) ∧ Grow w w' := by
  obtain ⟨ep, se, cu, cs⟩ := c
  unfold Ch.val
  simp only at hc hc' ⊢
  have HC : Hid (CellsAt w a cap cs) := hc
  have HD : Hid (CellsAt w a' cap' cs) := hc'
  have hl := hc.1
  clear hc hc'
  go_enter Try.func53, Try.ntmps53
  go_wp2
  go_loopw [5] (fun i wr => ∃ k : Nat, k ≤ cs.length ∧ i = .int .i64 k ∧ Grow ((w.alloc (Obj.cells #[.int .i64 ep, .bool se, .int .i64 cu, .slice a cs.length cap] 42)).alloc (Obj.cells #[.int .i64 ep, .bool se, .int .i64 cu, .slice a' cs.length cap'] 42)) wr) (fun i _ => cs.length - (intOf i).toNat)
  case atStart => exact ⟨0, Nat.zero_le _, rfl, Grow.refl _⟩
  case round =>
    obtain ⟨k, hk, rfl, hg⟩ := hrel
    have e3 := cell_grow hg (a := ⟨w.heap.size, 3, none⟩) (v := .slice a cs.length cap) (by simp)
    have f3 := cell_grow hg (a := ⟨w.heap.size + 1, 3, none⟩) (v := .slice a' cs.length cap') (by simp)
    have hG : Grow w wr := (((Grow.refl w).alloc _).alloc _).trans hg
    by_cases hlt : k < cs.length
    · have hck : cs[k]? = some cs[k] := List.getElem?_eq_getElem hlt
      generalize cs[k] = c at hck
      obtain ⟨b, off, rfl, d0, d1, d2, hs⟩ := (HC.out.grow hG).at hck
      obtain ⟨b', off', rfl, d0', d1', d2', hs'⟩ := (HD.out.grow hG).at hck
      have hlt' : (k : Int) < (cs.length : Int) := by omega
      have hne := run_neqCell c.there c.junk c.text
      have G := fun n => hg.drewN n
      clear hck hG hs hs' hg
      go_wp2
      go_quiet (fail)
      go_wp2
      go_roundw
      case rel => exact ⟨k + 1, by omega, by go_num, G _⟩
      case measure => simp [intOf]; omega
    · have hkl : k = cs.length := by omega
      subst hkl
      go_wp2
      go_ret
      exact ⟨rfl, hG⟩
end Go.Proofs.Ytikdncgjaomlcaa
