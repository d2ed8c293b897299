/- The document's answers for chains: cutwaterref.CellAt, CheckChain and ReadOf. -/
import Derived.Test.YtikdncgjaomlcaaCC
namespace Go.Proofs.Ytikdncgjaomlcaa
open Go.RowKit

def betw (n a b : Int) : Bool := decide (a ≤ n) && decide (n ≤ b)
theorem between_any (n a b : Int) (w : World) : Calls Try.prog 36 #[.int .i64 n, .int .i64 a, .int .i64 b] w fun e w' => e = .returned (.bool (betw n a b)) ∧ w' = w := by
  by_cases h : a ≤ n
  · have h' : decide (a ≤ n) = true := by simpa using h
    go_enter Try.func36, Try.ntmps36
    go_wp2
    go_ret
    exact ⟨by simp [betw, h], rfl⟩
  · have h' : decide (a ≤ n) = false := by simpa using h
    go_enter Try.func36, Try.ntmps36
    go_wp2
    go_ret
    exact ⟨by simp [betw, h'], rfl⟩
/-- What the document's CellAt answers. -/
def Ch.look (c : Ch) (p : Int) : Cl := if p < c.cut then zeroCl else c.at (p - c.cut).toNat
set_option maxHeartbeats 2000000 in
theorem refCellAt_any (c : Ch) (a : Option Addr) (cap : Nat) (p : Int) (w : World) (hc : CellsAt w a cap c.cells) (hl : c.cells.length ≤ 30) (h0 : 0 ≤ c.cut ∧ c.cut ≤ 30) :
    Calls Try.prog 50 #[c.val a cap, .int .i64 p] w fun e w' => e = .returned (c.look p).val ∧ Grow w w' := by
  obtain ⟨ep, se, cu, cs⟩ := c
  unfold Ch.val Ch.look Ch.at
  simp only at hc hl h0 ⊢
  have HC : Hid (CellsAt w a cap cs) := hc
  clear hc
  have hadd : IntKind.i64.wrap (cu + (cs.length : Int)) = cu + (cs.length : Int) := by rw [IntKind.wrap_i64]; omega
  have hadd' : wrap64 (cu + (cs.length : Int)) = cu + (cs.length : Int) := by unfold wrap64; omega
  by_cases hp : p < cu
  · rw [if_pos hp]
    unfold Cl.val zeroCl
    have hp' : decide (p < cu) = true := by simpa using hp
    clear hadd hadd'
    go_enter Try.func50, Try.ntmps50
    go_wp2
    exact bodyPost_ret (v := .agg #[.bool false, .bool false, .string ⟨#[]⟩]) (by simp [results, Try.results50, go_sem]) rfl ⟨rfl, ((Grow.refl w).alloc _).alloc _⟩
  · rw [if_neg hp]
    obtain ⟨i, hi⟩ : ∃ i : Nat, p = cu + i := ⟨(p - cu).toNat, by omega⟩
    have hin : (p - cu).toNat = i := by omega
    rw [hin]
    subst hi
    clear hin
    have hp' : decide (cu + (i : Int) < cu) = false := by simpa using hp
    by_cases hlt : i < cs.length
    · have hck : cs[i]? = some cs[i] := List.getElem?_eq_getElem hlt
      generalize cs[i] = x at hck
      rw [hck, Option.getD_some]
      unfold Cl.val
      obtain ⟨b, off, rfl, d0, d1, d2, hs⟩ := (HC.out.grow (((Grow.refl w).alloc (Obj.cells #[.int .i64 ep, .bool se, .int .i64 cu, .slice a cs.length cap] 42)).alloc (Obj.cells #[.bool false, .bool false, .string ⟨#[]⟩] 54))).at hck
      have hlt' : (i : Int) < (cs.length : Int) := by omega
      have hge : decide (cu + (cs.length : Int) ≤ cu + (i : Int)) = false := by simp; omega
      have hsub : IntKind.i64.wrap (cu + (i : Int) - cu) = (i : Int) := by rw [IntKind.wrap_i64]; omega
      have hsub' : wrap64 (cu + (i : Int) - cu) = (i : Int) := by unfold wrap64; omega
      clear hck hp
      go_enter Try.func50, Try.ntmps50
      go_wp2
      exact bodyPost_ret (v := .agg #[.bool x.there, .bool x.junk, .string x.text]) (by simp [results, Try.results50, go_sem]) rfl ⟨rfl, ((Grow.refl w).alloc _).alloc _⟩
    · have hck : cs[i]? = none := List.getElem?_eq_none (by omega)
      rw [hck, Option.getD_none]
      unfold Cl.val zeroCl
      have hge : decide (cu + (cs.length : Int) ≤ cu + (i : Int)) = true := by simp; omega
      clear hck hp
      go_enter Try.func50, Try.ntmps50
      go_wp2
      exact bodyPost_ret (v := .agg #[.bool false, .bool false, .string ⟨#[]⟩]) (by simp [results, Try.results50, go_sem]) rfl ⟨rfl, ((Grow.refl w).alloc _).alloc _⟩
set_option maxHeartbeats 2000000 in
theorem refRead_any (c : Ch) (a : Option Addr) (cap : Nat) (p : Int) (w : World) (hc : CellsAt w a cap c.cells) (he : c.err = 0) :
    Calls Try.prog 28 #[c.val a cap, .int .i64 p] w fun e w' => e = .returned (.tuple #[.string (c.read p).1, .int .i64 (c.read p).2]) ∧ Grow w w' := by
  have HC : Hid (CellsAt w a cap c.cells) := hc
  clear hc
  obtain ⟨_, hcut, hlen, _⟩ := Ch.fine he
  have hlen' : c.cells.length ≤ 30 := by omega
  have R1 : c.read p = if p < 0 ∨ 30 ≤ p then (⟨#[]⟩, 3) else if p < c.cut then (⟨#[]⟩, 4) else
      if (c.look p).junk then (⟨#[]⟩, 7) else if (c.look p).there then ((c.look p).text, 0) else (⟨#[]⟩, 5) := by
    rw [Ch.read, if_neg (by simp [he])]
    unfold Ch.look
    by_cases h : p < c.cut
    · simp [h]
    · simp [h]
  have T1 : Hid (c.read p = if p < 0 ∨ 30 ≤ p then (⟨#[]⟩, 3) else if p < c.cut then (⟨#[]⟩, 4) else
      if (c.look p).junk then (⟨#[]⟩, 7) else if (c.look p).there then ((c.look p).text, 0) else (⟨#[]⟩, 5)) := R1
  clear R1 he
  have g0 : Grow w (w.alloc (Obj.cells #[.int .i64 c.epoch, .bool c.sealed, .int .i64 c.cut, .slice a c.cells.length cap] 42)) := (Grow.refl w).alloc _
  unfold Ch.val
  go_enter Try.func28, Try.ntmps28
  go_wp2_with fail
  refine (refCellAt_any c a cap p _ (HC.out.grow g0) hlen' hcut).mono ?_
  rintro e w1 ⟨rfl, g1⟩
  have q2 := cell_grow g1 (a := ⟨w.heap.size, 2, none⟩) (v := .int .i64 c.cut) (by simp)
  have G1 := g0.trans g1
  clear g0 g1
  generalize c.look p = x at T1 ⊢
  obtain ⟨t, j, s⟩ := x
  unfold Cl.val
  simp only at T1 ⊢
  have G2 := G1.alloc (Obj.cells #[.bool t, .bool j, .string s] 54)
  have q3 := cell_grow ((Grow.refl w1).alloc (Obj.cells #[.bool t, .bool j, .string s] 54)) q2
  clear q2 G1
  go_wp2_with fail
  refine (between_any _ _ _ _).mono ?_
  rintro e w2 ⟨rfl, rfl⟩
  cases h2 : betw p 0 29
  · have hp : p < 0 ∨ 30 ≤ p := by simp [betw] at h2; omega
    rw [if_pos hp] at T1
    clear hp
    go_wp2
    go_ret2
    exact ⟨by rw [T1.out]; rfl, G2⟩
  · have hp : ¬ (p < 0 ∨ 30 ≤ p) := by simp [betw] at h2; omega
    rw [if_neg hp] at T1
    clear hp
    by_cases h3 : p < c.cut
    · rw [if_pos h3] at T1
      go_wp2
      go_ret2
      exact ⟨by rw [T1.out]; rfl, G2⟩
    · rw [if_neg h3] at T1
      cases j
      all_goals
        cases t
        all_goals
          go_wp2
          go_ret2
          exact ⟨by rw [T1.out]; rfl, G2⟩
end Go.Proofs.Ytikdncgjaomlcaa
