/- skeenBegun: what must be in any case. -/
import Derived.Test.YtlpdoloolagcbabSL
namespace Go.Proofs.Ytlpdoloolagcbab
open Go.RowKit

theorem SvAt.vals {w : World} {s : Sv} {r : Rs} (h : SvAt w s r.val) : r.clock = s.clock ∧ r.nW = s.waits.length ∧ r.nD = s.done.length := by
  obtain ⟨aW, cW, aD, cD, e, _⟩ := h
  obtain ⟨c', aW', nW', cW', aD', nD', cD'⟩ := r
  cases e
  exact ⟨rfl, rfl, rfl⟩
theorem SvAt.bare (w : World) (c : Int) : SvAt w ⟨c, [], []⟩ (.agg #[.int .i64 c, .slice none 0 0, .slice none 0 0]) := ⟨none, 0, none, 0, rfl, RowAt.nil _ _ _, RowAt.nil _ _ _⟩
theorem rowAt_block {α : Type} {enc : α → List Value} {k : Nat} (hk : ∀ x, (enc x).length = k) {w : World} {b cap : Nat} {xs : List α} {t : TypeId} (h : w.heap[b]? = some (.cells (flat enc xs).toArray t (0, 0))) (hl : xs.length ≤ 9223372036854775807) (hc : xs.length ≤ cap) : RowAt enc k w (some ⟨b, 0, none⟩) cap xs :=
  ⟨hl, hc, .inr ⟨b, 0, rfl, fun i x hi r v hv => cell_of_block h (by rw [List.getElem?_toArray, Nat.zero_add]; exact flat_get hk xs i r x v hi hv)⟩⟩
def rs3 : List Rs := [⟨3, none, 0, 0, none, 0, 0⟩, ⟨0, none, 0, 0, none, 0, 0⟩, ⟨1, none, 0, 0, none, 0, 0⟩]
def sv4 : Sv := ⟨4, [], []⟩
def sv5 : Sv := ⟨5, [⟨7, 5, false⟩], []⟩
def sv9 : Sv := ⟨9, [], [7]⟩
def svs3 : List Sv := [⟨3, [], []⟩, ⟨0, [], []⟩, ⟨1, [], []⟩]
theorem begun1 : sv4.propE 7 = 0 := by kernel_rfl
theorem begun2 : sv4.propR 7 = sv5 := by kernel_rfl
theorem begun3 : sv5.commE 7 9 = 0 := by kernel_rfl
theorem begun4 : sv5.commR 7 9 = sv9 := by kernel_rfl
theorem begun5 : allE svs3 2 5 = 0 := by kernel_rfl
theorem begun6 : allR svs3 2 5 = [⟨4, [], [2]⟩, ⟨0, [], []⟩, ⟨4, [], [2]⟩] := by kernel_rfl
theorem begun7 : sv5.err = 0 := by kernel_rfl
set_option maxHeartbeats 4000000 in
theorem skeenBegun_any (w : World) : Calls Try.prog 26 #[] w fun e w' => e = .returned (.bool true) ∧ Grow w w' := by
  go_enter Try.func26, Try.ntmps26
  go_wp2_with fail
  refine (sprop_any sv4 _ 7 _ (SvAt.bare _ 4)).mono ?_
  rintro e w1 ⟨v1, rfl, s1, g1, _⟩
  rw [begun1, begun2] at *
  obtain ⟨r1, rfl, s1⟩ := s1.raw
  have S1 := hid s1
  clear s1
  unfold Rs.val
  have ga : Grow w1 (w1.alloc (Obj.cells #[.int .i64 r1.clock, .slice r1.aW r1.nW r1.cW, .slice r1.aD r1.nD r1.cD] 43)) := (Grow.refl w1).alloc _
  have ka := hid (heap_alloc_new w1 (Obj.cells #[.int .i64 r1.clock, .slice r1.aW r1.nW r1.cW, .slice r1.aD r1.nD r1.cD] 43 (0, 0)))
  have Sa := hid (S1.out.grow ga)
  have Ga := hid (g1.trans ga)
  clear ga g1
  go_wp2_with fail
  refine (scomm_any sv5 _ 7 9 _ Sa.out).mono ?_
  rintro e w2 ⟨v2, rfl, s2, g2, _⟩
  rw [begun3, begun4] at *
  obtain ⟨r2, rfl, s2⟩ := s2.raw
  obtain ⟨q1, q2, q3⟩ := s2.vals
  obtain ⟨c2, aW2, nW2, cW2, aD2, nD2, cD2⟩ := r2
  simp only [sv9, List.length_nil, List.length_cons, Nat.zero_add] at q1 q2 q3
  subst q1
  subst q2
  subst q3
  clear s2
  unfold Rs.val
  simp only
  have ka2 := hid (grow_block g2 ka.out)
  have Sa2 := hid (Sa.out.grow g2)
  have Ga2 := hid (Ga.out.trans g2)
  have gb : Grow w2 ((w2.alloc (Obj.cells #[.int .i64 9, .slice aW2 0 cW2, .slice aD2 1 cD2] 43)).alloc (Obj.cells #[.int .i64 3, .slice none 0 0, .slice none 0 0, .int .i64 0, .slice none 0 0, .slice none 0 0, .int .i64 1, .slice none 0 0, .slice none 0 0] 43)) := ((Grow.refl w2).alloc _).alloc _
  have kb : Hid (((w2.alloc (Obj.cells #[.int .i64 9, .slice aW2 0 cW2, .slice aD2 1 cD2] 43)).alloc (Obj.cells #[.int .i64 3, .slice none 0 0, .slice none 0 0, .int .i64 0, .slice none 0 0, .slice none 0 0, .int .i64 1, .slice none 0 0, .slice none 0 0] 43)).heap[w2.heap.size]? = some (Obj.cells #[.int .i64 9, .slice aW2 0 cW2, .slice aD2 1 cD2] 43 (0, 0))) := (Below.heap_alloc _ _ _ (by simp)).trans (heap_alloc_new w2 _)
  have kl : Hid (((w2.alloc (Obj.cells #[.int .i64 9, .slice aW2 0 cW2, .slice aD2 1 cD2] 43)).alloc (Obj.cells #[.int .i64 3, .slice none 0 0, .slice none 0 0, .int .i64 0, .slice none 0 0, .slice none 0 0, .int .i64 1, .slice none 0 0, .slice none 0 0] 43)).heap[w2.heap.size + 1]? = some (Obj.cells (flat Rs.enc rs3).toArray 43 (0, 0))) := by
    have := heap_alloc_new (w2.alloc (Obj.cells #[.int .i64 9, .slice aW2 0 cW2, .slice aD2 1 cD2] 43)) (Obj.cells #[.int .i64 3, .slice none 0 0, .slice none 0 0, .int .i64 0, .slice none 0 0, .slice none 0 0, .int .i64 1, .slice none 0 0, .slice none 0 0] 43 (0, 0))
    have e1 : (w2.alloc (Obj.cells #[.int .i64 9, .slice aW2 0 cW2, .slice aD2 1 cD2] 43)).heap.size = w2.heap.size + 1 := by simp
    rw [e1] at this
    exact this
  have SL : Hid (SvsAt ((w2.alloc (Obj.cells #[.int .i64 9, .slice aW2 0 cW2, .slice aD2 1 cD2] 43)).alloc (Obj.cells #[.int .i64 3, .slice none 0 0, .slice none 0 0, .int .i64 0, .slice none 0 0, .slice none 0 0, .int .i64 1, .slice none 0 0, .slice none 0 0] 43)) (some ⟨w2.heap.size + 1, 0, none⟩) 3 svs3) :=
    ⟨rs3, rowAt_block Rs.enc3 kl.out (by decide) (by decide), by decide, fun i r s hr hs => by
      match i, hr, hs with
      | 0, hr, hs => cases hr; cases hs; exact SvAt.bare _ 3
      | 1, hr, hs => cases hr; cases hs; exact SvAt.bare _ 0
      | 2, hr, hs => cases hr; cases hs; exact SvAt.bare _ 1
      | i + 3, hr, hs => cases hr⟩
  have ka3 := hid (grow_block gb ka2.out)
  have Sa3 := hid (Sa2.out.grow gb)
  have Gb := hid (Ga2.out.trans gb)
  clear g2 gb kl ka ka2 Sa Sa2 Ga Ga2
  go_wp2_with fail
  refine (all_any svs3 2 5 (some ⟨w2.heap.size + 1, 0, none⟩) 3 _ SL.out).mono ?_
  rintro e w4 ⟨a', cap', rfl, s4, g4⟩
  rw [begun5, begun6] at *
  obtain ⟨rs4, row4, lies4⟩ := s4
  have hl4 : rs4.length = 3 := lies4.1
  obtain ⟨r0, x1, x2, rfl⟩ : ∃ r0 r1 r2, rs4 = [r0, r1, r2] := by
    match rs4, hl4 with
    | [a, b, c], _ => exact ⟨a, b, c, rfl⟩
  obtain ⟨u0, u1, u2⟩ := (lies4.2 0 r0 _ rfl rfl).vals
  obtain ⟨v0, v1, v2⟩ := (lies4.2 1 x1 _ rfl rfl).vals
  obtain ⟨t0, t1, t2⟩ := (lies4.2 2 x2 _ rfl rfl).vals
  simp only [List.length_nil, List.length_cons, Nat.zero_add] at u0 u1 u2 v0 v1 v2 t0 t1 t2
  have ka4 := hid (grow_block g4 ka3.out)
  have kb4 := hid (grow_block g4 kb.out)
  have Sa4 := hid (Sa3.out.grow g4)
  have G4 := hid (Gb.out.trans g4)
  have R4 := hid row4
  clear lies4 row4 hl4 g4 ka3 kb Sa3 Gb SL
  have d0 := cell_of_block (o := 0) ka4.out rfl; simp at d0
  have d1 := cell_of_block (o := 1) ka4.out rfl; simp at d1
  have d2 := cell_of_block (o := 2) ka4.out rfl; simp at d2
  have U0 := hid u0
  have U2 := hid u2
  have V2 := hid v2
  have T0 := hid t0
  have T2 := hid t2
  clear u0 u1 u2 v0 v1 v2 t0 t1 t2
  simp only [List.length_cons, List.length_nil, Nat.zero_add, Nat.reduceAdd]
  go_wp2_with fail
  refine (scheck_any sv5 _ _ Sa4.out).mono ?_
  rintro e w5 ⟨rfl, g5⟩
  rw [begun7]
  have kb5 := grow_block g5 kb4.out
  have b0 := cell_of_block (o := 0) kb5 rfl; simp at b0
  have b1 := cell_of_block (o := 1) kb5 rfl; simp at b1
  have b2 := cell_of_block (o := 2) kb5 rfl; simp at b2
  have R5 := R4.out.grow g5
  obtain ⟨bb, off, rfl, l00, l01, l02⟩ := R5.at3r (i := 0) rfl
  obtain ⟨_, _, eq1, l10, l11, l12⟩ := R5.at3r (i := 1) rfl
  cases eq1
  obtain ⟨_, _, eq2, l20, l21, l22⟩ := R5.at3r (i := 2) rfl
  cases eq2
  rw [U0.out] at l00
  rw [U2.out] at l02
  rw [V2.out] at l12
  rw [T0.out] at l20
  rw [T2.out] at l22
  simp only [Nat.zero_mul, Nat.one_mul, Nat.add_zero, Nat.reduceMul] at l00 l02 l12 l20 l22
  clear d0 d1 d2 l01 l10 l11 l21 R5 kb5
  go_wp2
  go_ret
  exact ⟨rfl, G4.out.trans g5⟩
end Go.Proofs.Ytlpdoloolagcbab
