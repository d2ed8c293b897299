/- Servers stay right. -/
import Derived.Test.YtlpdoloolagcbabSP
namespace Go.Proofs.Ytlpdoloolagcbab
open Go.RowKit

theorem mem_insertW {ws : List Wt} {x y : Wt} : y ∈ insertW ws x ↔ y = x ∨ y ∈ ws := by
  unfold insertW
  generalize insAt ws x.number = k
  rw [List.mem_append, List.mem_cons]
  constructor
  · rintro (h | rfl | h)
    · exact .inr (List.mem_of_mem_take h)
    · exact .inl rfl
    · exact .inr (List.mem_of_mem_drop h)
  · rintro (rfl | h)
    · exact .inr (.inl rfl)
    · rw [← List.take_append_drop k ws] at h
      exact (List.mem_append.1 h).imp id .inr
theorem insertW_rises : ∀ {ws : List Wt} {x : Wt}, Rises ws → (∀ y ∈ ws, y.number ≠ x.number) → Rises (insertW ws x)
  | [], x, _, _ => by simp [insertW, insAt, Rises]
  | d :: ds, x, h, hn => by
    obtain ⟨h1, h2⟩ := List.pairwise_cons.1 h
    have hd := hn d (List.mem_cons_self ..)
    by_cases hlt : d.number < x.number
    · have e : insertW (d :: ds) x = d :: insertW ds x := by simp [insertW, insAt, hlt]
      rw [e]
      refine List.pairwise_cons.2 ⟨fun y hy => ?_, insertW_rises h2 fun y hy => hn y (List.mem_cons_of_mem _ hy)⟩
      rcases mem_insertW.1 hy with rfl | hy
      · exact hlt
      · exact h1 y hy
    · have e : insertW (d :: ds) x = x :: d :: ds := by simp [insertW, insAt, hlt]
      rw [e]
      refine List.pairwise_cons.2 ⟨fun y hy => ?_, h⟩
      rcases List.mem_cons.1 hy with rfl | hy
      · omega
      · have := h1 y hy; omega
theorem propErr_zero {s : Sv} {n : Int} (h : propErr s n = 0) : isNum n = true ∧ (∀ x ∈ s.waits, x.number ≠ n) ∧ n ∉ s.done ∧ s.waits.length ≠ 8 ∧ s.clock ≠ 999 := by
  unfold propErr at h
  split at h
  · cases h
  rename_i h1
  split at h
  · cases h
  rename_i h2
  split at h
  · cases h
  rename_i h3
  refine ⟨by simpa using h1, fun x hx e => h2 (.inl (findAt_isSome.2 ⟨x, hx, e⟩)), fun hm => h2 (.inr hm), fun e => h3 (.inl e), fun e => h3 (.inr e)⟩
theorem prop_right {s : Sv} {n : Int} (h : Right s) (hp : propErr s n = 0) : Right (propSv s n) := by
  obtain ⟨h1, h2, h3, h4, h5⟩ := propErr_zero hp
  have hc := h.clock
  have hr : Rises (insertW s.waits ⟨n, s.clock + 1, false⟩) := insertW_rises h.rises h2
  refine ⟨⟨by simp only [propSv]; omega, by simp only [propSv]; omega⟩, by simp only [propSv, insertW_length]; have := h.len; omega, h.len2, fun x hx => ?_, hr, h.done, h.once, fun d hd x hx => ?_, ?_⟩
  · rcases mem_insertW.1 hx with rfl | hx
    · exact ⟨h1, by simp only; omega, by simp only [propSv]; omega⟩
    · obtain ⟨a, b, c⟩ := h.waits x hx
      exact ⟨a, b, by simp only [propSv]; omega⟩
  · rcases mem_insertW.1 hx with rfl | hx
    · rintro rfl; exact h3 hd
    · exact h.apart d hd x hx
  · cases hf : finalFirst (propSv s n).waits
    · rfl
    · obtain ⟨x, hx, hxf, hl⟩ := (finalFirst_iff hr).1 hf
      rcases mem_insertW.1 hx with rfl | hx
      · cases hxf
      · have := (finalFirst_iff h.rises).2 ⟨x, hx, hxf, fun y hy => hl y (mem_insertW.2 (.inr hy))⟩
        rw [h.first] at this
        cases this
/-- All but that nothing final is first. -/
structure Right0 (c : Int) (ws : List Wt) (ds : List Int) : Prop where
  clock : 0 ≤ c ∧ c ≤ 999
  len : ws.length ≤ 8
  waits : ∀ x ∈ ws, isNum x.number = true ∧ 1 ≤ x.time ∧ x.time ≤ c
  rises : Rises ws
  done : ∀ d ∈ ds, isNum d = true
  once : ds.Nodup
  apart : ∀ d ∈ ds, ∀ x ∈ ws, x.number ≠ d
theorem rises_erase {ws : List Wt} {k : Nat} {x : Wt} (h : Rises ws) (hx : ws[k]? = some x) : ∀ y ∈ ws.eraseIdx k, y.number ≠ x.number := by
  intro y hy
  obtain ⟨hk, rfl⟩ := List.getElem?_eq_some_iff.1 hx
  rw [List.eraseIdx_eq_take_drop_succ] at hy
  have e : ws = ws.take k ++ ws[k] :: ws.drop (k + 1) := by simp
  unfold Rises at h
  rw [e, List.pairwise_append] at h
  obtain ⟨_, h2, h3⟩ := h
  rcases List.mem_append.1 hy with hy | hy
  · have := h3 y hy ws[k] (List.mem_cons_self ..)
    omega
  · have := (List.pairwise_cons.1 h2).1 y hy
    omega
theorem Right0.step {c : Int} {ws : List Wt} {ds : List Int} (h : Right0 c ws ds) {k : Nat} {x : Wt} (hx : ws[k]? = some x) : Right0 c (ws.eraseIdx k) (ds ++ [x.number]) := by
  have hm := List.mem_of_getElem? hx
  have hsub : ∀ y ∈ ws.eraseIdx k, y ∈ ws := fun y hy => List.mem_of_mem_eraseIdx hy
  refine ⟨h.clock, by have := h.len; rw [List.length_eraseIdx]; split <;> omega, fun y hy => h.waits y (hsub y hy), List.Pairwise.sublist (List.eraseIdx_sublist ..) h.rises, fun d hd => ?_, ?_, fun d hd y hy => ?_⟩
  · rcases List.mem_append.1 hd with hd | hd
    · exact h.done d hd
    · rw [List.mem_singleton.1 hd]; exact (h.waits x hm).1
  · rw [List.nodup_append]
    exact ⟨h.once, by simp, fun a ha b hb e => by rw [List.mem_singleton.1 hb] at e; exact h.apart a ha x hm e.symm⟩
  · rcases List.mem_append.1 hd with hd | hd
    · exact h.apart d hd y (hsub y hy)
    · rw [List.mem_singleton.1 hd]; exact rises_erase h.rises hx y hy
theorem settle_right : ∀ (f : Nat) {c : Int} {ws : List Wt} {ds : List Int}, Right0 c ws ds → Right0 c (settle f ws ds).1 (settle f ws ds).2
  | 0, _, _, _, h => h
  | f + 1, c, ws, ds, h => by
    rw [settle]
    cases hx : ws[firstAt ws]? with
    | none => exact h
    | some x =>
      simp only
      split
      · exact settle_right f (h.step hx)
      · exact h
theorem settle_end : ∀ (f : Nat) (ws : List Wt) (ds : List Int), ws.length ≤ f → finalFirst (settle f ws ds).1 = false
  | 0, ws, ds, h => by
    obtain rfl : ws = [] := List.length_eq_zero_iff.1 (by omega)
    rfl
  | f + 1, ws, ds, h => by
    rw [settle]
    cases hx : ws[firstAt ws]? with
    | none => simp only; rw [finalFirst, hx]
    | some x =>
      simp only
      split
      · exact settle_end f _ _ (by have := (List.getElem?_eq_some_iff.1 hx).1; rw [List.length_eraseIdx]; split <;> omega)
      · rename_i hf; rw [finalFirst, hx]; simpa using hf
theorem settle_more : ∀ (f : Nat) (ws : List Wt) (ds : List Int), (∃ l, (settle f ws ds).2 = ds ++ l) ∧ (settle f ws ds).1.length + (settle f ws ds).2.length = ws.length + ds.length
  | 0, ws, ds => ⟨⟨[], by simp [settle]⟩, rfl⟩
  | f + 1, ws, ds => by
    rw [settle]
    cases hx : ws[firstAt ws]? with
    | none => exact ⟨⟨[], by simp⟩, rfl⟩
    | some x =>
      simp only
      split
      · obtain ⟨⟨l, hl⟩, he⟩ := settle_more f (ws.eraseIdx (firstAt ws)) (ds ++ [x.number])
        refine ⟨⟨x.number :: l, by rw [hl]; simp⟩, ?_⟩
        have hlt := (List.getElem?_eq_some_iff.1 hx).1
        rw [he, List.length_eraseIdx, if_pos hlt]
        simp
        omega
      · exact ⟨⟨[], by simp⟩, rfl⟩
theorem set_rises {ws : List Wt} {i : Nat} {x a : Wt} (h : Rises ws) (hx : ws[i]? = some x) (hn : a.number = x.number) : Rises (ws.set i a) := by
  have e : (ws.set i a).map Wt.number = ws.map Wt.number := by
    apply List.ext_getElem?
    intro j
    simp only [List.getElem?_map, List.getElem?_set]
    by_cases hij : i = j
    · subst hij
      rw [if_pos rfl, if_pos (List.getElem?_eq_some_iff.1 hx).1, hx]
      simp [hn]
    · rw [if_neg hij]
  have h1 : (ws.map Wt.number).Pairwise (· < ·) := List.pairwise_map.2 h
  rw [← e] at h1
  exact List.pairwise_map.1 h1
theorem comm_right0 {s : Sv} {n t : Int} {i : Nat} {x : Wt} (h : Right s) (hx : s.waits[i]? = some x) (hn : x.number = n) (ht : 1 ≤ t ∧ t ≤ 999) : Right0 (max s.clock t) (s.waits.set i ⟨n, t, true⟩) s.done := by
  have hc := h.clock
  have hm := List.mem_of_getElem? hx
  refine ⟨by omega, by rw [List.length_set]; exact h.len, fun y hy => ?_, set_rises h.rises hx hn.symm, h.done, h.once, fun d hd y hy => ?_⟩
  · rcases List.mem_or_eq_of_mem_set hy with hy | rfl
    · obtain ⟨a, b, c⟩ := h.waits y hy
      exact ⟨a, b, by omega⟩
    · have := (h.waits x hm).1
      rw [hn] at this
      exact ⟨this, by simp only; omega, by simp only; omega⟩
  · rcases List.mem_or_eq_of_mem_set hy with hy | rfl
    · exact h.apart d hd y hy
    · have := h.apart d hd x hm
      rw [hn] at this
      exact this
theorem comm_right {s : Sv} {n t : Int} (h : Right s) (he : commErr s n t = 0) {i : Nat} (hi : findAt s.waits n = some i) : Right (commSv s n t i) := by
  obtain ⟨_, t1, t2, j, x, hj, hx, hn, _, _, hd⟩ := commErr_zero he
  rw [hi] at hj
  cases hj
  have h0 := settle_right s.waits.length (comm_right0 h hx hn ⟨t1, t2⟩)
  exact ⟨h0.clock, h0.len, hd, h0.waits, h0.rises, h0.done, h0.once, h0.apart, settle_end _ _ _ (by simp)⟩
end Go.Proofs.Ytlpdoloolagcbab
