/- What SkeenAfter leans on: plain laws. -/
import Derived.Test.YtlpdoloolagcbabSF
import Derived.Test.YtlpdoloolagcbabSQ
namespace Go.Proofs.Ytlpdoloolagcbab
open Go.RowKit

theorem commE_parts {s : Sv} {n t : Int} (h : s.commE n t = 0) : s.err = 0 ∧ commErr s n t = 0 := by
  unfold Sv.commE at h
  split at h
  · rename_i h1; exact absurd h h1
  · rename_i h1; exact ⟨Decidable.not_not.1 h1, h⟩
theorem propE_parts {s : Sv} {n : Int} (h : s.propE n = 0) : s.err = 0 ∧ propErr s n = 0 := by
  unfold Sv.propE at h
  split at h
  · rename_i h1; exact absurd h h1
  · rename_i h1; exact ⟨Decidable.not_not.1 h1, h⟩
theorem comm_facts {s : Sv} {n t : Int} (h : s.commE n t = 0) : s.err = 0 ∧ (s.commR n t).err = 0 ∧ s.clock ≤ (s.commR n t).clock ∧ (∃ l, (s.commR n t).done = s.done ++ l) ∧ (s.commR n t).waits.length + (s.commR n t).done.length = s.waits.length + s.done.length := by
  obtain ⟨h1, h2⟩ := commE_parts h
  obtain ⟨_, _, _, i, x, hi, _⟩ := commErr_zero h2
  have e : s.commR n t = commSv s n t i := by rw [Sv.commR, if_pos h, hi]; rfl
  rw [e]
  obtain ⟨m1, m2⟩ := settle_more s.waits.length (s.waits.set i ⟨n, t, true⟩) s.done
  rw [List.length_set] at m2
  exact ⟨h1, err_of_right (comm_right (right_of_err h1) h2 hi), by simp only [commSv]; omega, m1, m2⟩
theorem prop_facts {s : Sv} {n : Int} (h : s.propE n = 0) : s.err = 0 ∧ (s.propR n).clock = s.clock + 1 ∧ (∀ x ∈ s.waits, x.time < (s.propR n).clock) ∧
    ((s.propR n).commE n (s.propR n).clock = 0 ∨ (s.propR n).commE n (s.propR n).clock = 2) ∧
    (s.waits = [] → (s.propR n).commE n (s.propR n).clock = 0 → ((s.propR n).commR n (s.propR n).clock).waits.length = 0 ∧ ((s.propR n).commR n (s.propR n).clock).done.length = s.done.length + 1) := by
  obtain ⟨h1, h2⟩ := propE_parts h
  have hr := right_of_err h1
  have e : s.propR n = propSv s n := by rw [Sv.propR, if_pos h]
  rw [e]
  have hr2 := prop_right hr h2
  obtain ⟨p1, p2, p3, p4, p5⟩ := propErr_zero h2
  have hc := hr.clock
  have hE : (propSv s n).commE n (propSv s n).clock = commErr (propSv s n) n (propSv s n).clock := by rw [Sv.commE, if_neg (by rw [err_of_right hr2]; simp)]
  have hm : (⟨n, s.clock + 1, false⟩ : Wt) ∈ (propSv s n).waits := mem_insertW.2 (.inl rfl)
  obtain ⟨i, hi⟩ := Option.isSome_iff_exists.1 (findAt_isSome.2 ⟨_, hm, rfl⟩)
  simp only at hi
  obtain ⟨x, hx, hxn⟩ := findAt_is hi
  have ex : x = ⟨n, s.clock + 1, false⟩ := hr2.rises.inj (List.mem_of_getElem? hx) hm hxn
  subst ex
  have hE2 : commErr (propSv s n) n (propSv s n).clock = if 30 < (commSv (propSv s n) n (propSv s n).clock i).done.length then 2 else 0 := by
    unfold commErr
    rw [if_neg (by rw [p1]; rintro (h | h | h); cases h; simp only [propSv] at h; omega; simp only [propSv] at h; omega), hi]
    simp only
    rw [hx]
    simp only
    rw [if_neg]
    rintro (h | h)
    · cases h
    · simp only [propSv] at h; omega
  refine ⟨h1, rfl, fun x hx => by have := (hr.waits x hx).2.2; simp only [propSv]; omega, ?_, fun hw h0 => ?_⟩
  · rw [hE, hE2]
    split
    · exact .inr rfl
    · exact .inl rfl
  · have eR : (propSv s n).commR n (propSv s n).clock = commSv (propSv s n) n (propSv s n).clock i := by rw [Sv.commR, if_pos h0, hi]; rfl
    have ew : (propSv s n).waits = [⟨n, s.clock + 1, false⟩] := by simp [propSv, hw, insertW, insAt]
    have i0 : i = 0 := by have := (List.getElem?_eq_some_iff.1 hx).1; rw [ew] at this; simp at this; omega
    subst i0
    have er : settle (propSv s n).waits.length ((propSv s n).waits.set 0 ⟨n, (propSv s n).clock, true⟩) (propSv s n).done = ([], s.done ++ [n]) := by
      rw [ew]
      simp [settle, firstAt, firstUpto, propSv]
    rw [eR]
    unfold commSv
    simp only
    rw [er]
    simp
theorem commR_zero {s : Sv} {n t : Int} (h : s.commE n t ≠ 0) : s.commR n t = zeroSv := by rw [Sv.commR, if_neg h]
end Go.Proofs.Ytlpdoloolagcbab
