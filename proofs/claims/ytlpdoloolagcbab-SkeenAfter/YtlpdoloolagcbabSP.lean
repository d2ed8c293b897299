/- Servers that are right, and stay so: plain laws. -/
import Derived.Test.YtlpdoloolagcbabSEa
namespace Go.Proofs.Ytlpdoloolagcbab
open Go.RowKit

theorem ahead_irrefl (x : Wt) : x.ahead x = false := by simp [Wt.ahead]
theorem ahead_trans {x y z : Wt} (h1 : x.ahead y = true) (h2 : y.ahead z = true) : x.ahead z = true := by
  unfold Wt.ahead at *
  split at h1 <;> split at h2 <;> split <;> simp at * <;> omega
theorem ahead_total {x y : Wt} (hn : x.number ≠ y.number) (h : x.ahead y = false) : y.ahead x = true := by
  unfold Wt.ahead at *
  split at h <;> split <;> simp at * <;> omega
theorem ahead_not_trans {x y z : Wt} (h1 : x.ahead y = true) (h2 : z.ahead y = false) : z.ahead x = false := by
  cases h : z.ahead x
  · rfl
  · rw [ahead_trans h h1] at h2; cases h2
/-- The first one is ahead of all. -/
theorem firstUpto_least (ws : List Wt) : ∀ k, k ≤ ws.length → 0 < ws.length → ∃ x, ws[firstUpto ws k]? = some x ∧ ∀ j, j < k → ∀ y, ws[j]? = some y → y.ahead x = false
  | 0, _, h => ⟨ws[0], List.getElem?_eq_getElem h, fun j hj => by omega⟩
  | k + 1, hk, h => by
    obtain ⟨x, hx, hl⟩ := firstUpto_least ws k (by omega) h
    have hy : ws[k]? = some ws[k] := List.getElem?_eq_getElem (by omega)
    generalize ws[k] = y at hy
    rw [firstUpto_step hy hx]
    cases ha : y.ahead x
    · refine ⟨x, by simpa using hx, fun j hj z hz => ?_⟩
      by_cases e : j = k
      · subst e; rw [hy] at hz; cases hz; exact ha
      · exact hl j (by omega) z hz
    · refine ⟨y, by simpa using hy, fun j hj z hz => ?_⟩
      by_cases e : j = k
      · subst e; rw [hy] at hz; cases hz; exact ahead_irrefl _
      · exact ahead_not_trans ha (hl j (by omega) z hz)
theorem firstAt_least {ws : List Wt} (h : ws ≠ []) : ∃ x, ws[firstAt ws]? = some x ∧ ∀ y ∈ ws, y.ahead x = false := by
  obtain ⟨x, hx, hl⟩ := firstUpto_least ws ws.length (Nat.le_refl _) (List.length_pos_iff.2 h)
  refine ⟨x, hx, fun y hy => ?_⟩
  obtain ⟨j, hj⟩ := List.mem_iff_getElem?.1 hy
  exact hl j (List.getElem?_eq_some_iff.1 hj).1 y hj
/-- Numbers that rise. -/
def Rises (ws : List Wt) : Prop := ws.Pairwise fun x y => x.number < y.number
theorem Rises.inj {ws : List Wt} (h : Rises ws) {x y : Wt} (hx : x ∈ ws) (hy : y ∈ ws) (hn : x.number = y.number) : x = y := by
  induction ws with
  | nil => cases hx
  | cons z zs ih =>
    unfold Rises at h
    rw [List.pairwise_cons] at h
    rcases List.mem_cons.1 hx with rfl | hx' <;> rcases List.mem_cons.1 hy with rfl | hy'
    · rfl
    · have := h.1 _ hy'; omega
    · have := h.1 _ hx'; omega
    · exact ih h.2 hx' hy'
theorem finalFirst_iff {ws : List Wt} (hr : Rises ws) : finalFirst ws = true ↔ ∃ x ∈ ws, x.final = true ∧ ∀ y ∈ ws, y.ahead x = false := by
  constructor
  · intro h
    obtain ⟨x, hx, hf⟩ := finalFirst_some h
    have hne : ws ≠ [] := by rintro rfl; cases hx
    obtain ⟨x', hx', hl⟩ := firstAt_least hne
    rw [hx] at hx'
    cases hx'
    exact ⟨x, List.mem_of_getElem? hx, hf, hl⟩
  · rintro ⟨x, hx, hf, hl⟩
    have hne : ws ≠ [] := by rintro rfl; cases hx
    obtain ⟨z, hz, hzl⟩ := firstAt_least hne
    have e : z = x := by
      have hzm := List.mem_of_getElem? hz
      by_cases hn : z.number = x.number
      · exact hr.inj hzm hx hn
      · have := ahead_total hn (hl z hzm)
        rw [hzl x hx] at this
        cases this
    rw [finalFirst, hz, e]
    exact hf
/-- A server that is right. -/
structure Right (s : Sv) : Prop where
  clock : 0 ≤ s.clock ∧ s.clock ≤ 999
  len : s.waits.length ≤ 8
  len2 : s.done.length ≤ 30
  waits : ∀ x ∈ s.waits, isNum x.number = true ∧ 1 ≤ x.time ∧ x.time ≤ s.clock
  rises : Rises s.waits
  done : ∀ d ∈ s.done, isNum d = true
  once : s.done.Nodup
  apart : ∀ d ∈ s.done, ∀ x ∈ s.waits, x.number ≠ d
  first : finalFirst s.waits = false
theorem rises_of {ws : List Wt} (h : ∀ i x y, ws[i]? = some x → ws[i + 1]? = some y → x.number < y.number) : Rises ws := by
  induction ws with
  | nil => exact List.Pairwise.nil
  | cons z zs ih =>
    have ih' := ih fun i x y hx hy => h (i + 1) x y (by simpa using hx) (by simpa using hy)
    refine List.pairwise_cons.2 ⟨fun a ha => ?_, ih'⟩
    cases zs with
    | nil => cases ha
    | cons u us =>
      have h0 := h 0 z u rfl rfl
      rcases List.mem_cons.1 ha with rfl | ha
      · exact h0
      · have := (List.pairwise_cons.1 ih').1 a ha
        omega
theorem nodup_of {ds : List Int} (h : ∀ (i : Nat) (d : Int), ds[i]? = some d → d ∉ ds.take i) : ds.Nodup := by
  refine List.pairwise_iff_getElem.2 fun i j hi hj hij e => ?_
  refine h j _ (List.getElem?_eq_getElem hj) ?_
  rw [List.mem_iff_getElem?]
  exact ⟨i, by rw [List.getElem?_take, if_pos hij, List.getElem?_eq_getElem hi, e]⟩
theorem findAt_isSome {ws : List Wt} {n : Int} : (findAt ws n).isSome = true ↔ ∃ x ∈ ws, x.number = n := by
  constructor
  · intro h
    obtain ⟨k, hk⟩ := Option.isSome_iff_exists.1 h
    obtain ⟨x, hx, hn⟩ := findAt_is hk
    exact ⟨x, List.mem_of_getElem? hx, hn⟩
  · rintro ⟨x, hx, hn⟩
    cases hf : findAt ws n with
    | none => exact absurd hn (findAt_not hf x hx)
    | some k => rfl
theorem right_of_err {s : Sv} (h : s.err = 0) : Right s := by
  obtain ⟨h1, h2, h3, h4, h5, h6⟩ := Sv.fine h
  have w1 : ∀ (i : Nat) (x : Wt), s.waits[i]? = some x → ¬ (isNum x.number = false ∨ x.time < 1 ∨ s.clock < x.time) ∧ ∀ (j : Nat) (y : Wt), i = j + 1 → s.waits[j]? = some y → ¬ x.number ≤ y.number := fun i x hx => by
    have h0 := firstErr_all _ _ h4 i (List.getElem?_eq_some_iff.1 hx).1
    rw [waitErr, hx] at h0
    simp only at h0
    split at h0
    · cases h0
    rename_i hb
    refine ⟨hb, fun j y e hy hle => ?_⟩
    subst e
    simp only [hy] at h0
    rw [if_pos hle] at h0
    cases h0
  have d1 : ∀ (i : Nat) (d : Int), s.done[i]? = some d → isNum d = true ∧ d ∉ s.done.take i ∧ (findAt s.waits d).isSome = false := fun i d hd => by
    have h0 := firstErr_all _ _ h5 i (List.getElem?_eq_some_iff.1 hd).1
    rw [doneErr, hd] at h0
    simp only at h0
    split at h0
    · cases h0
    rename_i hb
    split at h0
    · cases h0
    rename_i hc
    refine ⟨by simpa using hb, fun hm => hc (.inl hm), ?_⟩
    cases hf : (findAt s.waits d).isSome
    · rfl
    · exact absurd (.inr hf) hc
  refine ⟨h1, h2, h3, fun x hx => ?_, rises_of fun i x y hx hy => ?_, fun d hd => ?_, nodup_of fun i d hd => (d1 i d hd).2.1, fun d hd x hx e => ?_, h6⟩
  · obtain ⟨i, hi⟩ := List.mem_iff_getElem?.1 hx
    have hb := (w1 i x hi).1
    refine ⟨?_, by omega, by omega⟩
    cases hn : isNum x.number
    · exact absurd (.inl hn) hb
    · rfl
  · have := (w1 (i + 1) y hy).2 i x rfl hx
    omega
  · obtain ⟨i, hi⟩ := List.mem_iff_getElem?.1 hd
    exact (d1 i d hi).1
  · obtain ⟨i, hi⟩ := List.mem_iff_getElem?.1 hd
    have := (d1 i d hi).2.2
    rw [findAt_isSome.2 ⟨x, hx, e⟩] at this
    cases this
theorem err_of_right {s : Sv} (h : Right s) : s.err = 0 := by
  have w0 : firstErr (waitErr s.clock s.waits) s.waits.length = 0 := firstErr_zero _ _ fun i hi => by
    have hx : s.waits[i]? = some s.waits[i] := List.getElem?_eq_getElem hi
    generalize s.waits[i] = x at hx
    obtain ⟨a1, a2, a3⟩ := h.waits x (List.mem_of_getElem? hx)
    rw [waitErr, hx]
    simp only
    rw [if_neg (by rw [a1]; rintro (h | h | h); cases h; omega; omega)]
    cases i with
    | zero => rfl
    | succ j =>
      simp only
      have hy : s.waits[j]? = some s.waits[j] := List.getElem?_eq_getElem (by omega)
      have hx' : s.waits[j + 1] = x := by rw [List.getElem?_eq_getElem hi] at hx; exact Option.some.inj hx
      have := List.pairwise_iff_getElem.1 h.rises j (j + 1) (by omega) hi (by omega)
      rw [hx'] at this
      rw [hy]
      simp only
      rw [if_neg (by omega)]
  have d0 : firstErr (doneErr s) s.done.length = 0 := firstErr_zero _ _ fun i hi => by
    have hd : s.done[i]? = some s.done[i] := List.getElem?_eq_getElem hi
    have hdm := List.mem_of_getElem? hd
    rw [doneErr, hd]
    simp only
    rw [if_neg (by rw [h.done _ hdm]; decide), if_neg]
    rintro (hm | hf)
    · obtain ⟨j, hj⟩ := List.mem_iff_getElem?.1 hm
      rw [List.getElem?_take] at hj
      split at hj
      · rename_i hji
        have := List.pairwise_iff_getElem.1 h.once j i (by omega) hi hji
        rw [List.getElem?_eq_getElem (by omega)] at hj
        exact this (Option.some.inj hj)
      · cases hj
    · obtain ⟨x, hx, hn⟩ := findAt_isSome.1 hf
      exact h.apart _ hdm x hx hn
  unfold Sv.err
  rw [if_neg (by have := h.clock; omega), if_neg (by have := h.len; have := h.len2; omega), w0, d0, h.first]
  rfl
end Go.Proofs.Ytlpdoloolagcbab
