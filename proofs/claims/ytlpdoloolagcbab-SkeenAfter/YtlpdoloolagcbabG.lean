/- Rows of structs in memory: as they lie, and rows of one's own. -/
import Derived.Test.YtlpdoloolagcbabP
import Derived.Laws.CopyRow
import Derived.Laws.OwnMore
import Derived.Lib.SliceRun
namespace Go.Proofs.Ytlpdoloolagcbab
open Go.RowKit

/-- Elements, one value behind another. -/
def flat {α : Type} (enc : α → List Value) (xs : List α) : List Value := xs.flatMap enc
section
variable {α : Type} {enc : α → List Value} {k : Nat}
theorem flat_cons (x : α) (xs : List α) : flat enc (x :: xs) = enc x ++ flat enc xs := rfl
theorem flat_append (xs ys : List α) : flat enc (xs ++ ys) = flat enc xs ++ flat enc ys := by simp [flat]
theorem flat_length (hk : ∀ x, (enc x).length = k) : ∀ xs : List α, (flat enc xs).length = xs.length * k
  | [] => by simp [flat]
  | x :: xs => by rw [flat_cons, List.length_append, hk, flat_length hk xs, List.length_cons, Nat.add_mul, Nat.one_mul, Nat.add_comm]
theorem flat_get (hk : ∀ x, (enc x).length = k) : ∀ (xs : List α) (i r : Nat) (x : α) (v : Value), xs[i]? = some x → (enc x)[r]? = some v → (flat enc xs)[i * k + r]? = some v
  | [], i, r, x, v, h, _ => by cases h
  | y :: ys, 0, r, x, v, h, hv => by
    obtain rfl : y = x := by simpa using h
    rw [flat_cons, Nat.zero_mul, Nat.zero_add, List.getElem?_append_left (List.getElem?_eq_some_iff.1 hv).1, hv]
  | y :: ys, i + 1, r, x, v, h, hv => by
    rw [flat_cons, List.getElem?_append_right (by rw [hk, Nat.add_mul]; omega), hk, show (i + 1) * k + r - k = i * k + r from by rw [Nat.add_mul]; omega]
    exact flat_get hk ys i r x v (by simpa using h) hv
theorem flat_at (hk : ∀ x, (enc x).length = k) : ∀ (xs : List α) (j : Nat) (v : Value), (flat enc xs)[j]? = some v → ∃ i r x, j = i * k + r ∧ xs[i]? = some x ∧ (enc x)[r]? = some v
  | [], j, v, h => by simp [flat] at h
  | y :: ys, j, v, h => by
    rw [flat_cons] at h
    by_cases hj : j < k
    · rw [List.getElem?_append_left (by rw [hk]; exact hj)] at h
      exact ⟨0, j, y, by simp, rfl, h⟩
    · rw [List.getElem?_append_right (by rw [hk]; omega), hk] at h
      obtain ⟨i, r, x, e, hx, hv⟩ := flat_at hk ys (j - k) v h
      exact ⟨i + 1, r, x, by rw [Nat.add_mul]; omega, by simpa using hx, hv⟩
theorem flat_one (h1 : ∀ x, ∀ v ∈ enc x, v.oneCell' = true) (xs : List α) : ∀ v ∈ flat enc xs, v.oneCell' = true := by
  intro v hv
  unfold flat at hv
  rw [List.mem_flatMap] at hv
  obtain ⟨x, _, hv⟩ := hv
  exact h1 x v hv
theorem flat_take (hk : ∀ x, (enc x).length = k) : ∀ (xs : List α) (i : Nat), (flat enc xs).take (i * k) = flat enc (xs.take i)
  | [], i => by simp [flat]
  | x :: xs, 0 => by simp [flat]
  | x :: xs, i + 1 => by
    rw [flat_cons, List.take_succ_cons, flat_cons, Nat.add_mul, Nat.one_mul, Nat.add_comm (i * k) k, ← hk x, List.take_length_add_append, hk x, flat_take hk xs i]
theorem flat_drop (hk : ∀ x, (enc x).length = k) : ∀ (xs : List α) (i : Nat), (flat enc xs).drop (i * k) = flat enc (xs.drop i)
  | [], i => by simp [flat]
  | x :: xs, 0 => by simp
  | x :: xs, i + 1 => by
    rw [flat_cons, List.drop_succ_cons, Nat.add_mul, Nat.one_mul, Nat.add_comm (i * k) k, ← hk x, List.drop_length_add_append, hk x, flat_drop hk xs i]

theorem add_at' {b off : Nat} (i : Nat) : (⟨b, off, none⟩ : Addr).add i = ⟨b, off + i, none⟩ := by unfold Addr.add; split <;> simp_all
/-- A row that lies in memory. -/
def RowAt (enc : α → List Value) (k : Nat) (w : World) (a : Option Addr) (cap : Nat) (xs : List α) : Prop :=
  xs.length ≤ 9223372036854775807 ∧ xs.length ≤ cap ∧ (xs = [] ∨ ∃ b off, a = some ⟨b, off, none⟩ ∧ ∀ i x, xs[i]? = some x → ∀ r v, (enc x)[r]? = some v → w.cell? ⟨b, off + i * k + r, none⟩ = some v)
theorem RowAt.nil (w : World) (a : Option Addr) (cap : Nat) : RowAt enc k w a cap [] := ⟨by simp, by simp, .inl rfl⟩
theorem RowAt.grow {w w' : World} {a : Option Addr} {cap : Nat} {xs : List α} (h : RowAt enc k w a cap xs) (hg : Grow w w') : RowAt enc k w' a cap xs := by
  refine ⟨h.1, h.2.1, h.2.2.imp id ?_⟩
  rintro ⟨b, off, ha, hc⟩
  exact ⟨b, off, ha, fun i x hi r v hv => cell_grow hg (hc i x hi r v hv)⟩
theorem RowAt.at {w : World} {a : Option Addr} {cap : Nat} {xs : List α} (h : RowAt enc k w a cap xs) {i : Nat} {x : α} (hi : xs[i]? = some x) :
    ∃ b off, a = some ⟨b, off, none⟩ ∧ ∀ r v, (enc x)[r]? = some v → w.cell? ⟨b, off + i * k + r, none⟩ = some v := by
  rcases h.2.2 with rfl | ⟨b, off, ha, hc⟩
  · cases hi
  · exact ⟨b, off, ha, hc i x hi⟩
theorem RowAt.news (hk : ∀ x, (enc x).length = k) {w : World} {b off cap : Nat} {xs : List α} (h : RowAt enc k w (some ⟨b, off, none⟩) cap xs) : ∀ j v, (flat enc xs)[j]? = some v → w.cell? ((⟨b, off, none⟩ : Addr).add j) = some v := by
  intro j v hv
  obtain ⟨i, r, x, rfl, hx, hv⟩ := flat_at hk xs j v hv
  obtain ⟨b', off', e, hc⟩ := h.at hx
  cases e
  rw [add_at', ← Nat.add_assoc]
  exact hc r v hv
/-- A row of one's own, as a row that lies in memory. -/
theorem RowAt.of_own (hk : ∀ x, (enc x).length = k) {w : World} {base : Nat} {e : TypeId} {a : Option Addr} {cap : Nat} {xs : List α} (hl : xs.length ≤ 9223372036854775807)
    (h : w.ownsRow base e k (.slice a xs.length cap) xs.length (flat enc xs)) : RowAt enc k w a cap xs := by
  rcases h.2 with ⟨h0, h1⟩ | ⟨g, cap', cur, hv, hb, hg, hle, _⟩
  · rw [List.length_eq_zero_iff.1 h1]
    exact RowAt.nil _ _ _
  · cases hv
    refine ⟨hl, hle, .inr ⟨g, 0, rfl, fun i x hi r v hv => ?_⟩⟩
    have := h.cells (g := g) rfl (i * k + r) v (flat_get hk xs i r x v hi hv)
    rwa [add_at', ← Nat.add_assoc] at this
theorem RowAt.take {w : World} {a : Option Addr} {cap : Nat} {xs : List α} (h : RowAt enc k w a cap xs) (n : Nat) : RowAt enc k w a cap (xs.take n) := by
  refine ⟨by have := h.1; rw [List.length_take]; omega, by have := h.2.1; rw [List.length_take]; omega, h.2.2.imp (fun e => by rw [e]; simp) ?_⟩
  rintro ⟨b, off, ha, hc⟩
  refine ⟨b, off, ha, fun i x hi => hc i x ?_⟩
  rw [List.getElem?_take] at hi
  split at hi
  · exact hi
  · cases hi
theorem grow_of_grown' {w w3 : World} (hg : w.grownBy w3 none) : Grow w w3 :=
  ⟨hg.os, hg.tape, hg.output, hg.size, fun k hk => hg.block k hk (by simp)⟩
/-- What is appended to a row of one's own leaves what lay ahead of it. -/
theorem below_grown {base : Nat} {w w' : World} {row : Option Nat} (hg : w.grownBy w' row) (hr : ∀ g, row = some g → base ≤ g) (hb : base ≤ w.heap.size) : Below base w w' :=
  ⟨hg.os, hg.tape, hg.output, hg.size, fun j hj => hg.block j (by omega) (fun e => by have := hr j e.symm; omega)⟩

/-- Nothing is appended to nothing. -/
theorem wpList_append_none {P : Program} {w : World} {ops : Array Oper} {rest : List Oper} {o : Oper} {a : Act} {Q : Exit → Act → World → Prop} (hgd : o.guard = none) (s x : Operand) (t : TypeId)
    (ho : o.op = .call { callee := .builtin .append, args := #[s, x], argTypes := #[t, t] }) (e : TypeId) (i : TypeInfo) (ht : P.underlying t = some (.slice e)) (hi : P.info? e = some i)
    (hs : a.eval s = .slice none 0 0) (a0 : Option Addr) (cap : Nat) (hx : a.eval x = .slice a0 0 cap) (h : wpList P ops Q rest (a.put o.dst (.slice none 0 0)) w) : wpList P ops Q (o :: rest) a w := by
  refine wpList_plain hgd fun K hK => ?_
  have hrun : (Builtin.append_ #[t, t] o.type #[.slice none 0 0, .slice a0 0 cap]).run P w = .ok (.slice none 0 0) w := by
    cases a0 <;> simp [Builtin.append_, run_underlying ht, sizeOf, typeInfo, hi, loadCells, loadCellsFrom, Builtin.lenOf, Builtin.firstCells]
  unfold Oper.wp
  simp [execOp, ho, resolve, invoke, builtin, hs, hx, hrun, Result.andThen]
  exact hK _ _ h
end
end Go.Proofs.Ytlpdoloolagcbab
