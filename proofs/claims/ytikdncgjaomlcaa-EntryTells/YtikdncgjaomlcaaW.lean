/- What an entry, an id or a text that came in looks like. -/
import Derived.Test.YtikdncgjaomlcaaA
import Derived.ProofKit
import Derived.OpenShut
import Derived.ShutString
import Derived.ChangeOld
import Derived.SizedLaws
import Derived.Lib.SmallJoins
import Derived.Deep.Slices
namespace Go.Proofs.Ytikdncgjaomlcaa
open Go.ChangeShapes Go.WideShapes Go.ChangeAt Go.RowKit Go.Joins
open Go.ChangeMaps (open_string shut_string)

theorem ownT : ownKnob Try.prog.godebug = none := by kernel_rfl
theorem laidT : laidOutB Try.prog = true := by kernel_rfl
theorem Try.cellsOf23 : Try.prog.cellsOf 23 = 2 := by kernel_rfl
theorem Try.cellsOf26 : Try.prog.cellsOf 26 = 5 := by kernel_rfl
theorem Try.cellsOf3 : Try.prog.cellsOf 3 = 1 := by kernel_rfl
theorem Try.cellsOf9 : Try.prog.cellsOf 9 = 1 := by kernel_rfl
theorem Try.cellsOf24 : Try.prog.cellsOf 24 = 1 := by kernel_rfl

section
variable {H : Type} {enc : TypeId × Value → H} {W : World}

/-- The cells of an id. -/
theorem id_cells {n : Nat} {cs : List Value} {x : DataW H × List MemPlace} (h : DataW.trod enc Try.prog W 0 (fun _ => true) true n 23 cs = some x) : ∃ r k : Int, cs = [.int .i64 r, .int .i64 k] := by
  obtain ⟨y0, y1, m, _, hl, h0, h1⟩ := trod_struct2 Try.underlying23 h
  rw [Try.cellsOf23] at hl
  obtain ⟨a, e0, -, -⟩ := DataW.trod_int Try.underlying3 h0
  obtain ⟨b, e1, -, -⟩ := DataW.trod_int Try.underlying3 h1
  match cs, hl with
  | [c0, c1], _ =>
    simp [Try.cellsOf3] at e0 e1
    exact ⟨a, b, by rw [e0, e1]⟩
theorem add_plain {b off : Nat} (i : Nat) : (⟨b, off, none⟩ : Addr).add i = ⟨b, off + i, none⟩ := by unfold Addr.add; split <;> simp_all
/-- A slice of ids that came in. -/
theorem ids_of {n : Nat} {cs : List Value} {x : DataW H × List MemPlace} (h : DataW.trod enc Try.prog W 0 (fun _ => true) true n 24 cs = some x) : ∃ a len cap R N, cs = [.slice a len cap] ∧ IdsAt W a len R N := by
  rcases Go.Deep.open_slice Try.underlying24 h with ⟨rfl, _⟩ | ⟨a, len, cap, m, n', D, Pl, rfl, _, hl, hm, hmm, _, hx⟩
  · exact ⟨none, 0, 0, fun _ => 0, fun _ => 0, rfl, by decide, .inl rfl⟩
  · have hmc : m = cap := by simpa using hmm
    subst hmc
    have key : ∀ i, ∃ rn : Int × Int, i < len → W.cell? (a.add (i * 2)) = some (.int .i64 rn.1) ∧ W.cell? ((a.add (i * 2)).add 1) = some (.int .i64 rn.2) := by
      intro i
      by_cases hi : i < len
      · obtain ⟨cs', h1, h2⟩ := hx i (by omega)
        obtain ⟨r, k, rfl⟩ := id_cells h2
        rw [Try.cellsOf23] at h1
        obtain ⟨_, _, hc⟩ := World.cells?_some h1
        refine ⟨(r, k), fun _ => ⟨?_, ?_⟩⟩
        · have := hc 0 (by omega)
          simpa [Addr.add] using this
        · simpa using hc 1 (by omega)
      · exact ⟨(0, 0), fun h => absurd h hi⟩
    obtain ⟨f, hf⟩ := Classical.axiomOfChoice key
    by_cases h0 : len = 0
    · subst h0
      exact ⟨some a, 0, m, fun _ => 0, fun _ => 0, rfl, by decide, .inl rfl⟩
    · have hc := (hf 0 (by omega)).1
      have hspot := World.cell?_spot hc
      obtain ⟨b, off, spot⟩ := a
      have hs : spot = none := by simpa [Addr.add] using hspot
      subst hs
      refine ⟨_, len, m, fun i => (f i).1, fun i => (f i).2, rfl, by unfold maxLen at hm; omega, .inr ⟨b, off, rfl, fun k hk => ?_, fun k hk => ?_⟩⟩
      · have := (hf k hk).1
        rwa [add_plain] at this
      · have := (hf k hk).2
        rwa [add_plain, add_plain] at this
/-- An id that came in. -/
theorem id_of {base : Nat} {v : Value} {d : DataW H} {p : List MemPlace} (hv : Value.okWide Try.prog W .any base 23 v) (h : DataW.Trod enc Try.prog W 0 (fun _ => true) true 23 v d p) : ∃ r n : Int, v = .agg #[.int .i64 r, .int .i64 n] := by
  obtain ⟨cs, rfl, hsz⟩ := okWide_struct Try.underlying23 hv
  obtain ⟨fuel, hf⟩ := h
  obtain ⟨r, k, e⟩ := id_cells hf
  obtain ⟨c0, c1, rfl⟩ := array2 (hsz.trans Try.cellsOf23)
  simp [Value.cells] at e
  exact ⟨r, k, by rw [e.1, e.2]⟩
/-- An entry that came in. -/
theorem entry_of {base : Nat} {v : Value} {d : DataW H} {p : List MemPlace} (hv : Value.okWide Try.prog W .any base 26 v) (h : DataW.Trod enc Try.prog W 0 (fun _ => true) true 26 v d p) :
    ∃ (r n c : Int) (s : ByteArray) (a : Option Addr) (len cap : Nat) (R N : Nat → Int), v = .agg #[.int .i64 r, .int .i64 n, .int .i64 c, .string s, .slice a len cap] ∧ s.size ≤ 9223372036854775807 ∧ IdsAt W a len R N := by
  obtain ⟨cs, rfl, hsz⟩ := okWide_struct Try.underlying26 hv
  rw [Try.cellsOf26] at hsz
  obtain ⟨fuel, hf⟩ := h
  obtain ⟨xs, m, _, _, _, hlen, hx⟩ := DataW.trod_struct Try.underlying26 hf
  obtain ⟨l⟩ := cs
  match l, hsz, xs, hlen with
  | [c0, c1, c2, c3, c4], _, [y0, y1, y2, y3], _ =>
    have f0 := hx 0 _ rfl
    have f1 := hx 1 _ rfl
    have f2 := hx 2 _ rfl
    have f3 := hx 3 _ rfl
    simp [Value.cells, Try.cellsOf23] at f0
    simp [Value.cells, Try.cellsOf3] at f1
    simp [Value.cells, Try.cellsOf9] at f2
    simp [Value.cells, Try.cellsOf24] at f3
    obtain ⟨r, k, e0⟩ := id_cells f0
    obtain ⟨c, e1, -, -⟩ := DataW.trod_int Try.underlying3 f1
    obtain ⟨s, e2, -, hs⟩ := DataW.trod_string Try.underlying9 f2
    obtain ⟨a, len, cap, R, N, e3, hids⟩ := ids_of f3
    simp at e0 e1 e2 e3
    exact ⟨r, k, c, s, a, len, cap, R, N, by rw [e0.1, e0.2, e1, e2, e3], hs, hids⟩
end
end Go.Proofs.Ytikdncgjaomlcaa
