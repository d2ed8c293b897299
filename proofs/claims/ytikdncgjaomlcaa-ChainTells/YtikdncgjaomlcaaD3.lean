/- cutwaterlaw.chainIs answers true where a chain is what it must be. -/
import Derived.Test.YtikdncgjaomlcaaCS
namespace Go.Proofs.Ytikdncgjaomlcaa
open Go.RowKit

theorem quiet {p : Prop} (h : p) : Hid p := h
set_option maxHeartbeats 4000000 in
theorem chainIs_any (c d : Ch) (a a' : Option Addr) (cap cap' : Nat) (x : Int) (w : World) (hc : CellsAt w a cap c.cells) (hd : CellsAt w a' cap' d.cells) (h0 : x = 0 → c = d) (h1 : x ≠ 0 → c = zeroCh) :
    Calls Try.prog 32 #[c.val a cap, .int .i64 x, .int .i64 x, d.val a' cap'] w fun e w' => e = .returned (.bool true) ∧ Grow w w' := by
  have HC := quiet hc
  have HD := quiet hd
  clear hc hd
  by_cases hx : x = 0
  · obtain rfl := h0 hx
    subst hx
    clear h0 h1
    have g0 : Grow w ((w.alloc (Obj.cells #[.int .i64 c.epoch, .bool c.sealed, .int .i64 c.cut, .slice a c.cells.length cap] 42)).alloc (Obj.cells #[.int .i64 c.epoch, .bool c.sealed, .int .i64 c.cut, .slice a' c.cells.length cap'] 42)) := ((Grow.refl w).alloc _).alloc _
    unfold Ch.val
    go_enter Try.func32, Try.ntmps32
    go_wp2_with fail
    refine (sameChain_any c a a' cap cap' _ (HC.out.grow g0) (HD.out.grow g0)).mono ?_
    rintro e w1 ⟨rfl, g1⟩
    have G := g0.trans g1
    go_wp2
    go_ret
    exact ⟨rfl, G⟩
  · obtain rfl := h1 hx
    have hx0 : (x == 0) = false := by simpa using hx
    have hx1 : (x != 0) = true := by simpa using hx
    clear h0 h1 hx HD
    have g0 : Grow w ((w.alloc (Obj.cells #[.int .i64 0, .bool false, .int .i64 0, .slice a 0 cap] 42)).alloc (Obj.cells #[.int .i64 0, .bool false, .int .i64 0, .slice none 0 0] 42)) := ((Grow.refl w).alloc _).alloc _
    unfold Ch.val zeroCh
    simp only [List.length_nil]
    go_enter Try.func32, Try.ntmps32
    go_wp2_with fail
    refine (sameChain_any zeroCh a none cap 0 _ ?_ ?_).mono ?_
    · simp [CellsAt, zeroCh]
    · simp [CellsAt, zeroCh]
    rintro e w1 ⟨rfl, g1⟩
    have G := g0.trans g1
    go_wp2
    go_ret
    exact ⟨rfl, G⟩
end Go.Proofs.Ytikdncgjaomlcaa
