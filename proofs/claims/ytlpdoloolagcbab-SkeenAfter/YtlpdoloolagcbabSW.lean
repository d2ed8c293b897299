/- What a server that came in looks like. -/
import Derived.Test.YtlpdoloolagcbabS4
import Derived.ProofKit
import Derived.OpenShut
import Derived.ChangeOld
import Derived.SizedLaws
import Derived.Lib.SmallJoins
import Derived.Deep.Slices
import Derived.Deep.Strs
namespace Go.Proofs.Ytlpdoloolagcbab
open Go.ChangeShapes Go.WideShapes Go.ChangeAt Go.RowKit Go.Joins

theorem ownT : ownKnob Try.prog.godebug = none := by kernel_rfl
theorem laidT : laidOutB Try.prog = true := by kernel_rfl
theorem cellsOf_server : Try.prog.cellsOf 43 = 3 := by kernel_rfl
theorem cellsOf_wait : Try.prog.cellsOf 64 = 3 := by kernel_rfl
theorem cellsOf_waits : Try.prog.cellsOf 40 = 1 := by kernel_rfl
theorem cellsOf_ints : Try.prog.cellsOf 41 = 1 := by kernel_rfl
theorem cellsOf_int : Try.prog.cellsOf 3 = 1 := by kernel_rfl
theorem cellsOf_bool : Try.prog.cellsOf 4 = 1 := by kernel_rfl

section
variable {H : Type} {enc : TypeId × Value → H} {W : World}
/-- A slice that came in: rows of whatever is told cell by cell. -/
theorem row_of {α : Type} [Inhabited α] {en : α → List Value} {k : Nat} {t e : TypeId} (hk : ∀ x, (en x).length = k) (hu : Try.prog.underlying t = some (.slice e)) (hc : Try.prog.cellsOf e = k)
    (hx : ∀ {n : Nat} {cs : List Value} {x : DataW H × List MemPlace}, DataW.trod enc Try.prog W 0 (fun _ => true) true n e cs = some x → ∃ c : α, cs = en c) (hpos : 0 < k)
    {n : Nat} {cs : List Value} {x : DataW H × List MemPlace} (h : DataW.trod enc Try.prog W 0 (fun _ => true) true n t cs = some x) :
    ∃ a cap l, cs = [.slice a l.length cap] ∧ RowAt en k W a cap l := by
  rcases Go.Deep.open_slice hu h with ⟨rfl, _⟩ | ⟨a, len, cap, m, n', D, Pl, rfl, _, hl, hm, hmm, _, hxs⟩
  · exact ⟨none, 0, [], rfl, RowAt.nil _ _ _⟩
  · have hmc : m = cap := by simpa using hmm
    subst hmc
    have key : ∀ i, ∃ c : α, i < len → ∀ r v, (en c)[r]? = some v → W.cell? ((a.add (i * k)).add r) = some v := by
      intro i
      by_cases hi : i < len
      · obtain ⟨cs', h1, h2⟩ := hxs i (by omega)
        obtain ⟨c, rfl⟩ := hx h2
        rw [hc] at h1
        obtain ⟨_, _, hcc⟩ := World.cells?_some h1
        refine ⟨c, fun _ r v hv => ?_⟩
        have hr : r < k := by rw [← hk c]; exact (List.getElem?_eq_some_iff.1 hv).1
        rw [hcc r hr]
        simpa using hv
      · exact ⟨default, fun h => absurd h hi⟩
    obtain ⟨f, hf⟩ := Classical.axiomOfChoice key
    unfold maxLen at hm
    by_cases h0 : len = 0
    · subst h0
      exact ⟨some a, m, [], rfl, RowAt.nil _ _ _⟩
    · have hv0 : (en (f 0))[0]? = some ((en (f 0))[0]'(by rw [hk]; exact hpos)) := List.getElem?_eq_getElem _
      have hc0 := hf 0 (by omega) 0 _ hv0
      have hspot := World.cell?_spot hc0
      obtain ⟨b, off, spot⟩ := a
      have hs : spot = none := by simpa [Addr.add] using hspot
      subst hs
      have hlen : ((List.range len).map f).length = len := by simp
      refine ⟨_, m, (List.range len).map f, by rw [hlen], by rw [hlen]; omega, by rw [hlen]; omega, .inr ⟨b, off, rfl, fun j c hj r v hv => ?_⟩⟩
      have hj1 : j < len := by
        have := (List.getElem?_eq_some_iff.1 hj).1
        omega
      have hj2 : f j = c := by simpa [hj1] using hj
      subst hj2
      have := hf j hj1 r v hv
      rw [add_at', add_at'] at this
      exact this
instance : Inhabited Wt := ⟨⟨0, 0, false⟩⟩
set_option maxRecDepth 100000 in
theorem wt_cells {n : Nat} {cs : List Value} {x : DataW H × List MemPlace} (h : DataW.trod enc Try.prog W 0 (fun _ => true) true n 64 cs = some x) : ∃ c : Wt, cs = c.enc := by
  obtain ⟨y0, y1, y2, m, _, hl, h0, h1, h2⟩ := Go.Deep.trod_struct3 Try.underlying64 h
  rw [cellsOf_wait] at hl
  obtain ⟨a, e0, -, -⟩ := DataW.trod_int Try.underlying3 h0
  obtain ⟨b, e1, -, -⟩ := DataW.trod_int Try.underlying3 h1
  obtain ⟨s, e2, -⟩ := DataW.trod_bool Try.underlying4 h2
  match cs, hl with
  | [c0, c1, c2], _ =>
    simp [cellsOf_bool, cellsOf_int] at e0 e1 e2
    exact ⟨⟨a, b, s⟩, by rw [e0, e1, e2]; rfl⟩
theorem int_cells {n : Nat} {cs : List Value} {x : DataW H × List MemPlace} (h : DataW.trod enc Try.prog W 0 (fun _ => true) true n 3 cs = some x) : ∃ c : Int, cs = encZ c := by
  obtain ⟨a, e0, -, -⟩ := DataW.trod_int Try.underlying3 h
  exact ⟨a, e0⟩
set_option maxRecDepth 100000 in
theorem server_cells {n : Nat} {cs : List Value} {x : DataW H × List MemPlace} (h : DataW.trod enc Try.prog W 0 (fun _ => true) true n 43 cs = some x) :
    ∃ (s : Sv) (aW : Option Addr) (cW : Nat) (aD : Option Addr) (cD : Nat), cs = [.int .i64 s.clock, .slice aW s.waits.length cW, .slice aD s.done.length cD] ∧ WaitsAt W aW cW s.waits ∧ IntsAt W aD cD s.done := by
  obtain ⟨y0, y1, y2, m, _, hl, h0, h1, h2⟩ := Go.Deep.trod_struct3 Try.underlying43 h
  rw [cellsOf_server] at hl
  obtain ⟨a, e0, -, -⟩ := DataW.trod_int Try.underlying3 h0
  obtain ⟨aW, cW, ws, e1, hw⟩ := row_of Wt.enc3 Try.underlying40 cellsOf_wait wt_cells (by decide) h1
  obtain ⟨aD, cD, ds, e2, hd⟩ := row_of (en := encZ) (fun _ => rfl) Try.underlying41 cellsOf_int int_cells (by decide) h2
  match cs, hl with
  | [c0, c1, c2], _ =>
    simp [cellsOf_waits, cellsOf_ints, cellsOf_int] at e0 e1 e2
    exact ⟨⟨a, ws, ds⟩, aW, cW, aD, cD, by rw [e0, e1, e2], hw, hd⟩
set_option maxRecDepth 100000 in
/-- A server that came in. -/
theorem sv_of {base : Nat} {v : Value} {d : DataW H} {p : List MemPlace} (hv : Value.okWide Try.prog W .any base 43 v) (h : DataW.Trod enc Try.prog W 0 (fun _ => true) true 43 v d p) : ∃ s : Sv, SvAt W s v := by
  obtain ⟨cs, rfl, hsz⟩ := okWide_struct Try.underlying43 hv
  obtain ⟨fuel, hf⟩ := h
  obtain ⟨l⟩ := cs
  obtain ⟨s, aW, cW, aD, cD, e, hw, hd⟩ := server_cells hf
  simp [Value.cells] at e
  exact ⟨s, aW, cW, aD, cD, by rw [e], hw, hd⟩
end
end Go.Proofs.Ytlpdoloolagcbab
