/- What a chain, a number or a text that came in looks like. -/
import Derived.Test.YtikdncgjaomlcaaC2
import Derived.ProofKit
import Derived.OpenShut
import Derived.ShutString
import Derived.ChangeOld
import Derived.SizedLaws
import Derived.Lib.SmallJoins
import Derived.Deep.Slices
import Derived.Deep.Strs
namespace Go.Proofs.Ytikdncgjaomlcaa
open Go.ChangeShapes Go.WideShapes Go.ChangeAt Go.RowKit Go.Joins
open Go.ChangeMaps (open_string shut_string)

theorem ownT : ownKnob Try.prog.godebug = none := by kernel_rfl
theorem laidT : laidOutB Try.prog = true := by kernel_rfl
theorem cellsOf_chain : Try.prog.cellsOf 42 = 4 := by kernel_rfl
theorem cellsOf_cell : Try.prog.cellsOf 54 = 3 := by kernel_rfl
theorem cellsOf_cells : Try.prog.cellsOf 40 = 1 := by kernel_rfl
theorem cellsOf_int : Try.prog.cellsOf 3 = 1 := by kernel_rfl
theorem cellsOf_bool : Try.prog.cellsOf 4 = 1 := by kernel_rfl
theorem cellsOf_string : Try.prog.cellsOf 9 = 1 := by kernel_rfl

section
variable {H : Type} {enc : TypeId × Value → H} {W : World}

/-- The three values of a cell. -/
theorem cl_cells {n : Nat} {cs : List Value} {x : DataW H × List MemPlace} (h : DataW.trod enc Try.prog W 0 (fun _ => true) true n 54 cs = some x) :
    ∃ c : Cl, cs = [.bool c.there, .bool c.junk, .string c.text] ∧ c.text.size ≤ 9223372036854775807 := by
  obtain ⟨y0, y1, y2, m, _, hl, h0, h1, h2⟩ := Go.Deep.trod_struct3 Try.underlying54 h
  rw [cellsOf_cell] at hl
  obtain ⟨a, e0, -⟩ := DataW.trod_bool Try.underlying4 h0
  obtain ⟨b, e1, -⟩ := DataW.trod_bool Try.underlying4 h1
  obtain ⟨s, e2, -, hs⟩ := DataW.trod_string Try.underlying9 h2
  match cs, hl with
  | [c0, c1, c2], _ =>
    simp [cellsOf_bool, cellsOf_string] at e0 e1 e2
    exact ⟨⟨a, b, s⟩, by rw [e0, e1, e2], hs⟩
theorem add_plain {b off : Nat} (i : Nat) : (⟨b, off, none⟩ : Addr).add i = ⟨b, off + i, none⟩ := by unfold Addr.add; split <;> simp_all
/-- A slice of cells that came in. -/
theorem cells_of {n : Nat} {cs : List Value} {x : DataW H × List MemPlace} (h : DataW.trod enc Try.prog W 0 (fun _ => true) true n 40 cs = some x) :
    ∃ a cap l, cs = [.slice a l.length cap] ∧ CellsAt W a cap l := by
  rcases Go.Deep.open_slice Try.underlying40 h with ⟨rfl, _⟩ | ⟨a, len, cap, m, n', D, Pl, rfl, _, hl, hm, hmm, _, hx⟩
  · exact ⟨none, 0, [], rfl, by decide, by decide, .inl rfl⟩
  · have hmc : m = cap := by simpa using hmm
    subst hmc
    have key : ∀ i, ∃ c : Cl, i < len → W.cell? (a.add (i * 3)) = some (.bool c.there) ∧ W.cell? ((a.add (i * 3)).add 1) = some (.bool c.junk) ∧ W.cell? ((a.add (i * 3)).add 2) = some (.string c.text) ∧ c.text.size ≤ 9223372036854775807 := by
      intro i
      by_cases hi : i < len
      · obtain ⟨cs', h1, h2⟩ := hx i (by omega)
        obtain ⟨c, rfl, hs⟩ := cl_cells h2
        rw [cellsOf_cell] at h1
        obtain ⟨_, _, hc⟩ := World.cells?_some h1
        refine ⟨c, fun _ => ⟨?_, ?_, ?_, hs⟩⟩
        · have := hc 0 (by omega)
          simpa [Addr.add] using this
        · simpa using hc 1 (by omega)
        · simpa using hc 2 (by omega)
      · exact ⟨zeroCl, fun h => absurd h hi⟩
    obtain ⟨f, hf⟩ := Classical.axiomOfChoice key
    unfold maxLen at hm
    by_cases h0 : len = 0
    · subst h0
      exact ⟨some a, m, [], rfl, by decide, by simp, .inl rfl⟩
    · have hc := (hf 0 (by omega)).1
      have hspot := World.cell?_spot hc
      obtain ⟨b, off, spot⟩ := a
      have hs : spot = none := by simpa [Addr.add] using hspot
      subst hs
      have hlen : ((List.range len).map f).length = len := by simp
      refine ⟨_, m, (List.range len).map f, by rw [hlen], by rw [hlen]; omega, by rw [hlen]; omega, .inr ⟨b, off, rfl, fun k c hk => ?_⟩⟩
      have hk1 : k < len := by
        have := (List.getElem?_eq_some_iff.1 hk).1
        omega
      have hk2 : f k = c := by simpa [hk1] using hk
      subst hk2
      obtain ⟨q0, q1, q2, q3⟩ := hf k hk1
      rw [add_plain] at q0
      rw [add_plain, add_plain] at q1 q2
      exact ⟨q0, q1, q2, q3⟩
/-- A chain that came in. -/
theorem chain_of {base : Nat} {v : Value} {d : DataW H} {p : List MemPlace} (hv : Value.okWide Try.prog W .any base 42 v) (h : DataW.Trod enc Try.prog W 0 (fun _ => true) true 42 v d p) :
    ∃ (c : Ch) (a : Option Addr) (cap : Nat), v = c.val a cap ∧ CellsAt W a cap c.cells := by
  obtain ⟨cs, rfl, hsz⟩ := okWide_struct Try.underlying42 hv
  rw [cellsOf_chain] at hsz
  obtain ⟨fuel, hf⟩ := h
  obtain ⟨y0, y1, y2, y3, m, _, hl, h0, h1, h2, h3⟩ := trod_struct4 Try.underlying42 hf
  obtain ⟨l⟩ := cs
  match l, hsz with
  | [c0, c1, c2, c3], _ =>
    simp [Value.cells, cellsOf_int, cellsOf_bool, cellsOf_cells] at h0 h1 h2 h3
    obtain ⟨x0, e0, -, -⟩ := DataW.trod_int Try.underlying3 h0
    obtain ⟨x1, e1, -⟩ := DataW.trod_bool Try.underlying4 h1
    obtain ⟨x2, e2, -, -⟩ := DataW.trod_int Try.underlying3 h2
    obtain ⟨a, cap, l, e3, hc⟩ := cells_of h3
    simp at e0 e1 e2 e3
    exact ⟨⟨x0, x1, x2, l⟩, a, cap, by rw [e0, e1, e2, e3]; rfl, hc⟩
end
end Go.Proofs.Ytikdncgjaomlcaa
