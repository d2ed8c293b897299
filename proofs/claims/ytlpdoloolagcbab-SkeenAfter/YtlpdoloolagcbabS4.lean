/- skeen.Check: what it answers, whatever it is handed. -/
import Derived.Test.YtlpdoloolagcbabS3
namespace Go.Proofs.Ytlpdoloolagcbab
open Go.RowKit

/-- A server. -/
structure Sv where
  clock : Int
  waits : List Wt
  done : List Int
def zeroSv : Sv := ⟨0, [], []⟩
/-- A server's value, and its lists in memory. -/
def SvAt (w : World) (s : Sv) (v : Value) : Prop :=
  ∃ aW cW aD cD, v = .agg #[.int .i64 s.clock, .slice aW s.waits.length cW, .slice aD s.done.length cD] ∧ WaitsAt w aW cW s.waits ∧ IntsAt w aD cD s.done
theorem SvAt.grow {w w' : World} {s : Sv} {v : Value} (h : SvAt w s v) (hg : Grow w w') : SvAt w' s v := by
  obtain ⟨aW, cW, aD, cD, e, h1, h2⟩ := h
  exact ⟨aW, cW, aD, cD, e, h1.grow hg, h2.grow hg⟩
theorem SvAt.zero (w : World) : SvAt w zeroSv (.agg #[.int .i64 0, .slice none 0 0, .slice none 0 0]) := ⟨none, 0, none, 0, rfl, RowAt.nil _ _ _, RowAt.nil _ _ _⟩

/-- What is wrong with one that is done. -/
def doneErr (s : Sv) (i : Nat) : Int := match s.done[i]? with
  | none => 0
  | some x => if isNum x = false then 3 else if x ∈ s.done.take i ∨ (findAt s.waits x).isSome = true then 6 else 0
theorem optInt_nonneg (o : Option Nat) : decide (0 ≤ optInt o) = o.isSome := by
  cases o with
  | none => rfl
  | some i => simp [optInt]
set_option maxHeartbeats 4000000 in
theorem checkDone_any (s : Sv) (v : Value) (w : World) (hs : SvAt w s v) :
    Calls Try.prog 62 #[v] w fun e w' => e = .returned (.int .i64 (firstErr (doneErr s) s.done.length)) ∧ Grow w w' := by
  obtain ⟨aW, cW, aD, cD, rfl, hw, hd⟩ := hs
  obtain ⟨clock, ws, ds⟩ := s
  simp only at hw hd ⊢
  have HW : Hid (WaitsAt w aW cW ws) := hw
  have HD : Hid (IntsAt w aD cD ds) := hd
  have hl := hd.1
  have hcap := hd.2.1
  clear hw hd
  have g0 : Grow w (w.alloc (Obj.cells #[.int .i64 clock, .slice aW ws.length cW, .slice aD ds.length cD] 43)) := (Grow.refl w).alloc _
  have k0 := heap_alloc_new w (Obj.cells #[.int .i64 clock, .slice aW ws.length cW, .slice aD ds.length cD] 43)
  go_enter Try.func62, Try.ntmps62
  go_wp2_with fail
  go_loopw [8] (fun i wr => ∃ k : Nat, k ≤ ds.length ∧ i = .int .i64 k ∧ (∀ j, j < k → doneErr ⟨clock, ws, ds⟩ j = 0) ∧ Grow (w.alloc (Obj.cells #[.int .i64 clock, .slice aW ws.length cW, .slice aD ds.length cD] 43)) wr) (fun i _ => ds.length - (intOf i).toNat)
  case atStart => exact ⟨0, Nat.zero_le _, rfl, fun j hj => by omega, Grow.refl _⟩
  case round =>
    obtain ⟨k, hk, rfl, hz, hG⟩ := hrel
    have HZ : Hid (∀ j, j < k → doneErr ⟨clock, ws, ds⟩ j = 0) := hz
    clear hz
    have kr := grow_block hG k0
    have e1 := cell_of_block (o := 1) kr rfl; simp at e1
    have e2 := cell_of_block (o := 2) kr rfl; simp at e2
    by_cases hlt : k < ds.length
    · have hx : ds[k]? = some ds[k] := List.getElem?_eq_getElem hlt
      generalize ds[k] = x at hx
      obtain ⟨b, off, rfl, d0⟩ := (HD.out.grow (g0.trans hG)).at1 hx
      have HX : Hid (ds[k]? = some x) := hx
      clear hx
      have hlt' : (k : Int) < (ds.length : Int) := by omega
      have hkc : (k : Int) ≤ (cD : Int) := by omega
      have hkc' : k ≤ cD := by omega
      have hlen : (ds.take k).length = k := by rw [List.length_take]; omega
      have hcon := fun W h => contains_any (ds.take k) x (some ⟨b, off, none⟩) cD W h
      rw [hlen] at hcon
      have HT : Hid (IntsAt wr (some ⟨b, off, none⟩) cD (ds.take k)) := (HD.out.grow (g0.trans hG)).take k
      have HWr : Hid (WaitsAt wr aW cW ws) := HW.out.grow (g0.trans hG)
      cases hn : isNum x
      · have E : Hid (firstErr (doneErr ⟨clock, ws, ds⟩) ds.length = 3) := by
          have h3 : doneErr ⟨clock, ws, ds⟩ k = 3 := by rw [doneErr]; simp only; rw [HX.out]; exact if_pos hn
          show firstErr (doneErr ⟨clock, ws, ds⟩) ds.length = 3
          rw [firstErr_at _ k HZ.out (by rw [h3]; decide) _ hlt, h3]
        go_wp2_with (go_at_call 70; refine (isNumber_any _ _).mono ?_; rw [hn]; rintro e w1 ⟨rfl, rfl⟩)
        go_ret
        exact ⟨by rw [E.out]; rfl, g0.trans hG⟩
      have hns : ¬ isNum x = false := by rw [hn]; decide
      have six : x ∈ ds.take k ∨ (findAt ws x).isSome = true → firstErr (doneErr ⟨clock, ws, ds⟩) ds.length = 6 := fun h => by
        have h6 : doneErr ⟨clock, ws, ds⟩ k = 6 := by
          rw [doneErr]
          simp only
          rw [HX.out]
          simp only
          rw [if_neg hns, if_pos h]
        rw [firstErr_at _ k HZ.out (by rw [h6]; decide) _ hlt, h6]
      have SIX : Hid (x ∈ ds.take k ∨ (findAt ws x).isSome = true → firstErr (doneErr ⟨clock, ws, ds⟩) ds.length = 6) := six
      clear six
      by_cases hm : x ∈ ds.take k
      · have hm' : decide (x ∈ ds.take k) = true := by simpa using hm
        rw [hm'] at hcon
        have E : Hid (firstErr (doneErr ⟨clock, ws, ds⟩) ds.length = 6) := SIX.out (.inl hm)
        clear hm hm' SIX hns
        go_wp2_with (first | (go_at_call 70; refine (isNumber_any _ _).mono ?_; rw [hn]; rintro e w1 ⟨rfl, rfl⟩) | (go_at_call 72; refine (hcon _ HT.out).mono ?_; rintro e w1 ⟨rfl, rfl⟩))
        go_ret
        exact ⟨by rw [E.out]; rfl, g0.trans hG⟩
      have hm' : decide (x ∈ ds.take k) = false := by simpa using hm
      rw [hm'] at hcon
      have HM : Hid (x ∉ ds.take k) := hm
      clear hm hm'
      go_wp2_with (first | (go_at_call 70; refine (isNumber_any _ _).mono ?_; rw [hn]; rintro e w1 ⟨rfl, rfl⟩) | (go_at_call 72; refine (hcon _ HT.out).mono ?_; rintro e w1 ⟨rfl, rfl⟩) | fail)
      refine (find_any ws x aW cW _ HWr.out).mono ?_
      rintro e w2 ⟨rfl, g2⟩
      have HO : Hid (decide (0 ≤ optInt (findAt ws x)) = (findAt ws x).isSome) := optInt_nonneg _
      generalize optInt (findAt ws x) = o at *
      cases hf : (findAt ws x).isSome
      · have ho : decide (0 ≤ o) = false := by rw [HO.out, hf]
        have E : Hid (doneErr ⟨clock, ws, ds⟩ k = 0) := by
          show doneErr ⟨clock, ws, ds⟩ k = 0
          rw [doneErr]
          simp only
          rw [HX.out]
          simp only
          rw [if_neg hns, if_neg]
          rintro (h | h)
          · exact HM.out h
          · rw [hf] at h; cases h
        clear hf hns SIX
        go_wp2
        go_roundw
        case rel =>
          refine ⟨k + 1, by omega, by go_num, fun j hj => ?_, hG.trans g2⟩
          by_cases hjk : j = k
          · rw [hjk]; exact E.out
          · exact HZ.out j (by omega)
        case measure => simp [intOf]; omega
      · have ho : decide (0 ≤ o) = true := by rw [HO.out, hf]
        have E : Hid (firstErr (doneErr ⟨clock, ws, ds⟩) ds.length = 6) := SIX.out (.inr hf)
        clear hf hns SIX
        go_wp2
        go_ret
        exact ⟨by rw [E.out]; rfl, g0.trans (hG.trans g2)⟩
    · obtain rfl : k = ds.length := by omega
      have E : Hid (firstErr (doneErr ⟨clock, ws, ds⟩) ds.length = 0) := firstErr_zero _ _ HZ.out
      go_wp2
      go_ret
      exact ⟨by rw [E.out]; rfl, g0.trans hG⟩

/-- The error of Check. -/
def Sv.err (s : Sv) : Int :=
  if s.clock < 0 ∨ 999 < s.clock then 3 else if 8 < s.waits.length ∨ 30 < s.done.length then 2
  else if firstErr (waitErr s.clock s.waits) s.waits.length ≠ 0 then firstErr (waitErr s.clock s.waits) s.waits.length
  else if firstErr (doneErr s) s.done.length ≠ 0 then firstErr (doneErr s) s.done.length
  else if finalFirst s.waits then 4 else 0
set_option maxHeartbeats 4000000 in
theorem scheck_any (s : Sv) (v : Value) (w : World) (hs : SvAt w s v) :
    Calls Try.prog 27 #[v] w fun e w' => e = .returned (.int .i64 s.err) ∧ Grow w w' := by
  have HS : Hid (SvAt w s v) := hs
  obtain ⟨aW, cW, aD, cD, rfl, hw, hd⟩ := hs
  obtain ⟨clock, ws, ds⟩ := s
  simp only at hw hd ⊢
  have HW : Hid (WaitsAt w aW cW ws) := hw
  have hl := hw.1
  have hl' := hd.1
  clear hw hd
  have HE : Hid (Sv.err ⟨clock, ws, ds⟩ = if clock < 0 ∨ 999 < clock then 3 else if 8 < ws.length ∨ 30 < ds.length then 2 else if firstErr (waitErr clock ws) ws.length ≠ 0 then firstErr (waitErr clock ws) ws.length else if firstErr (doneErr ⟨clock, ws, ds⟩) ds.length ≠ 0 then firstErr (doneErr ⟨clock, ws, ds⟩) ds.length else if finalFirst ws then 4 else 0) := rfl
  have g0 : Grow w (w.alloc (Obj.cells #[.int .i64 clock, .slice aW ws.length cW, .slice aD ds.length cD] 43)) := (Grow.refl w).alloc _
  have k0 := heap_alloc_new w (Obj.cells #[.int .i64 clock, .slice aW ws.length cW, .slice aD ds.length cD] 43)
  by_cases h1 : clock < 0
  · have h1' : decide (clock < 0) = true := by simpa using h1
    have E : Hid (Sv.err ⟨clock, ws, ds⟩ = 3) := by show Sv.err ⟨clock, ws, ds⟩ = 3; rw [HE.out, if_pos (.inl h1)]
    go_enter Try.func27, Try.ntmps27
    go_wp2
    go_ret
    exact ⟨by rw [E.out]; rfl, g0⟩
  have h1' : decide (clock < 0) = false := by simpa using h1
  by_cases h2 : 999 < clock
  · have h2' : decide (999 < clock) = true := by simpa using h2
    have E : Hid (Sv.err ⟨clock, ws, ds⟩ = 3) := by show Sv.err ⟨clock, ws, ds⟩ = 3; rw [HE.out, if_pos (.inr h2)]
    go_enter Try.func27, Try.ntmps27
    go_wp2
    go_ret
    exact ⟨by rw [E.out]; rfl, g0⟩
  have h2' : decide (999 < clock) = false := by simpa using h2
  have HE1 : Hid (Sv.err ⟨clock, ws, ds⟩ = if 8 < ws.length ∨ 30 < ds.length then 2 else if firstErr (waitErr clock ws) ws.length ≠ 0 then firstErr (waitErr clock ws) ws.length else if firstErr (doneErr ⟨clock, ws, ds⟩) ds.length ≠ 0 then firstErr (doneErr ⟨clock, ws, ds⟩) ds.length else if finalFirst ws then 4 else 0) := by
    show Sv.err ⟨clock, ws, ds⟩ = _
    rw [HE.out, if_neg]
    omega
  clear h1 h2 HE
  by_cases h3 : (8 : Int) < (ws.length : Int)
  · have h3' : decide ((8 : Int) < (ws.length : Int)) = true := by simpa using h3
    have E : Hid (Sv.err ⟨clock, ws, ds⟩ = 2) := by show Sv.err ⟨clock, ws, ds⟩ = 2; rw [HE1.out, if_pos (.inl (by omega))]
    clear h3
    go_enter Try.func27, Try.ntmps27
    go_wp2
    go_ret
    exact ⟨by rw [E.out]; rfl, g0⟩
  have h3' : decide ((8 : Int) < (ws.length : Int)) = false := by simpa using h3
  by_cases h4 : (30 : Int) < (ds.length : Int)
  · have h4' : decide ((30 : Int) < (ds.length : Int)) = true := by simpa using h4
    have E : Hid (Sv.err ⟨clock, ws, ds⟩ = 2) := by show Sv.err ⟨clock, ws, ds⟩ = 2; rw [HE1.out, if_pos (.inr (by omega))]
    clear h4
    go_enter Try.func27, Try.ntmps27
    go_wp2
    go_ret
    exact ⟨by rw [E.out]; rfl, g0⟩
  have h4' : decide ((30 : Int) < (ds.length : Int)) = false := by simpa using h4
  have HE2 : Hid (Sv.err ⟨clock, ws, ds⟩ = if firstErr (waitErr clock ws) ws.length ≠ 0 then firstErr (waitErr clock ws) ws.length else if firstErr (doneErr ⟨clock, ws, ds⟩) ds.length ≠ 0 then firstErr (doneErr ⟨clock, ws, ds⟩) ds.length else if finalFirst ws then 4 else 0) := by
    show Sv.err ⟨clock, ws, ds⟩ = _
    rw [HE1.out, if_neg]
    omega
  clear h3 h4 HE1
  go_enter Try.func27, Try.ntmps27
  go_wp2_with fail
  refine (checkWaits_any ws clock aW cW _ (HW.out.grow g0)).mono ?_
  rintro e w1 ⟨rfl, g1⟩
  generalize firstErr (waitErr clock ws) ws.length = e1 at *
  by_cases h5 : e1 = 0
  case neg =>
    have E : Hid (Sv.err ⟨clock, ws, ds⟩ = e1) := by show Sv.err ⟨clock, ws, ds⟩ = e1; rw [HE2.out, if_pos h5]
    have hx0 : (e1 == 0) = false := by simpa using h5
    have hx1 : (e1 != 0) = true := by simpa using h5
    clear h5
    go_wp2
    go_ret
    exact ⟨by rw [E.out]; rfl, g0.trans g1⟩
  case pos =>
    have HE3 : Hid (Sv.err ⟨clock, ws, ds⟩ = if firstErr (doneErr ⟨clock, ws, ds⟩) ds.length ≠ 0 then firstErr (doneErr ⟨clock, ws, ds⟩) ds.length else if finalFirst ws then 4 else 0) := by
      show Sv.err ⟨clock, ws, ds⟩ = _
      rw [HE2.out, if_neg (by simp [h5])]
    subst h5
    clear HE2
    have k1 := grow_block g1 k0
    have d0 := cell_of_block (o := 0) k1 rfl; simp at d0
    have d1 := cell_of_block (o := 1) k1 rfl; simp at d1
    have d2 := cell_of_block (o := 2) k1 rfl; simp at d2
    go_wp2_with fail
    refine (checkDone_any ⟨clock, ws, ds⟩ _ _ (HS.out.grow (g0.trans g1))).mono ?_
    rintro e w2 ⟨rfl, g2⟩
    simp only
    generalize firstErr (doneErr ⟨clock, ws, ds⟩) ds.length = e2 at *
    by_cases h6 : e2 = 0
    case neg =>
      have E : Hid (Sv.err ⟨clock, ws, ds⟩ = e2) := by show Sv.err ⟨clock, ws, ds⟩ = e2; rw [HE3.out, if_pos h6]
      have hx0 : (e2 == 0) = false := by simpa using h6
      have hx1 : (e2 != 0) = true := by simpa using h6
      clear h6
      go_wp2
      go_ret
      exact ⟨by rw [E.out]; rfl, g0.trans (g1.trans g2)⟩
    case pos =>
      have HE4 : Hid (Sv.err ⟨clock, ws, ds⟩ = if finalFirst ws then 4 else 0) := by
        show Sv.err ⟨clock, ws, ds⟩ = _
        rw [HE3.out, if_neg (by simp [h6])]
      subst h6
      clear HE3 d0 d1 d2
      have k2 := grow_block g2 k1
      have d1 := cell_of_block (o := 1) k2 rfl; simp at d1
      go_wp2_with fail
      refine (isFinalFirst_any ws aW cW _ (HW.out.grow (g0.trans (g1.trans g2)))).mono ?_
      rintro e w3 ⟨rfl, g3⟩
      cases hff : finalFirst ws
      all_goals
        go_wp2
        go_ret
        exact ⟨by rw [HE4.out, hff]; rfl, g0.trans (g1.trans (g2.trans g3))⟩
end Go.Proofs.Ytlpdoloolagcbab
