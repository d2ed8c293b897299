/- How long a chain that came in may be. -/
import Derived.Test.YtikdncgjaomlcaaCW
namespace Go.Proofs.Ytikdncgjaomlcaa
open Go.ChangeShapes Go.WideShapes Go.ChangeAt Go.RowKit Go.Joins

theorem bytesOf_cell : Try.prog.bytesOf 54 = 24 := by kernel_rfl
section
variable {H : Type} {enc : TypeId × Value → H} {W : World}
theorem chain_sized {base : Nat} {v : Value} {d : DataW H} {p : List MemPlace} (hv : Value.okWide Try.prog W .any base 42 v) (h : DataW.Trod enc Try.prog W 0 (fun _ => true) true 42 v d p)
    (hw : ∀ n ∈ DataW.weights Try.prog 42 d, n ≤ reachBytes) :
    ∃ (c : Ch) (a : Option Addr) (cap : Nat), v = c.val a cap ∧ CellsAt W a cap c.cells ∧ c.cells.length ≤ 9223372036854775777 := by
  have h' := h
  obtain ⟨c, a, cap, rfl, hc⟩ := chain_of hv h
  refine ⟨c, a, cap, rfl, hc, ?_⟩
  obtain ⟨fuel, hf⟩ := h'
  obtain ⟨y0, y1, y2, y3, m, hx, hl, h0, h1, h2, h3⟩ := trod_struct4 Try.underlying42 hf
  simp [Ch.val, Value.cells, cellsOf_cells] at h3
  have hd : d = .agg [y0.1, y1.1, y2.1, y3.1] := congrArg Prod.fst hx
  have hw3 : ∀ n ∈ DataW.weights Try.prog 40 y3.1, n ≤ reachBytes := fun n hn => hw n (by rw [hd]; simp [DataW.weights, DataW.weightsEach, Try.underlying42]; exact .inr (.inr (.inr hn)))
  rcases Go.Deep.open_slice Try.underlying40 h3 with ⟨e, _⟩ | ⟨a', len, cap', mm, n', D, Pl, e, _, hl', hm, hmm, hx3, _⟩
  · simp at e
    rw [e.2.1]
    decide
  · simp at e
    have := hw3 ((len + (mm - len)) * 24) (by rw [hx3]; simp [DataW.weights, Try.underlying40, bytesOf_cell])
    unfold reachBytes at this
    omega
end
end Go.Proofs.Ytikdncgjaomlcaa
