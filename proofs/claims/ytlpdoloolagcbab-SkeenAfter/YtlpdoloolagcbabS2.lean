/- Package skeen: where an entry waits; whether a number is among some. -/
import Derived.Test.YtlpdoloolagcbabS1
namespace Go.Proofs.Ytlpdoloolagcbab
open Go.RowKit

/-- skeen.isFinalFirst -/
def finalFirst (ws : List Wt) : Bool := match ws[firstAt ws]? with
  | some x => x.final
  | none => false
set_option maxHeartbeats 1000000 in
theorem isFinalFirst_any (ws : List Wt) (a : Option Addr) (cap : Nat) (w : World) (hw : WaitsAt w a cap ws) :
    Calls Try.prog 63 #[.slice a ws.length cap] w fun e w' => e = .returned (.bool (finalFirst ws)) ∧ Grow w w' := by
  have HW : Hid (WaitsAt w a cap ws) := hw
  have hl := hw.1
  clear hw
  by_cases hn : 0 < ws.length
  · have hf := firstUpto_lt ws ws.length (Nat.le_refl _) hn
    change firstAt ws < ws.length at hf
    have hx : ws[firstAt ws]? = some ws[firstAt ws] := List.getElem?_eq_getElem hf
    generalize ws[firstAt ws] = x at hx
    have E : Hid (finalFirst ws = x.final) := by show finalFirst ws = _; rw [finalFirst, hx]
    have HX : Hid (ws[firstAt ws]? = some x) := hx
    have hn' : decide ((0 : Int) < (ws.length : Int)) = true := by simpa using (by omega : (0 : Int) < (ws.length : Int))
    have hf' : (firstAt ws : Int) < (ws.length : Int) := by omega
    clear hx
    go_enter Try.func63, Try.ntmps63
    go_wp2_with fail
    refine (first_any ws a cap w HW.out hn).mono ?_
    rintro e w1 ⟨rfl, g1⟩
    obtain ⟨b, off, rfl, d0, d1, d2⟩ := (HW.out.grow g1).at3 HX.out
    generalize firstAt ws = f at *
    go_wp2
    go_ret
    exact ⟨by rw [E.out]; rfl, g1⟩
  · obtain rfl : ws = [] := List.length_eq_zero_iff.1 (by omega)
    go_enter Try.func63, Try.ntmps63
    go_wp2
    go_ret
    exact ⟨rfl, Grow.refl _⟩

/-- skeen.find -/
def findAt (ws : List Wt) (n : Int) : Option Nat := ws.findIdx? fun x => decide (x.number = n)
def optInt : Option Nat → Int
  | some i => i
  | none => -1
theorem findAt_some {ws : List Wt} {n : Int} {k : Nat} {x : Wt} (hx : ws[k]? = some x) (hn : x.number = n) (hj : ∀ j, j < k → ∀ d, ws[j]? = some d → d.number ≠ n) : findAt ws n = some k := by
  obtain ⟨hlt, rfl⟩ := List.getElem?_eq_some_iff.1 hx
  unfold findAt
  rw [List.findIdx?_eq_some_iff_getElem]
  refine ⟨hlt, by simpa using hn, fun j hjk => ?_⟩
  have := hj j hjk _ (List.getElem?_eq_getElem (by omega))
  simpa using this
theorem findAt_none {ws : List Wt} {n : Int} (hj : ∀ (j : Nat) (d : Wt), ws[j]? = some d → d.number ≠ n) : findAt ws n = none := by
  unfold findAt
  rw [List.findIdx?_eq_none_iff]
  intro x hx
  obtain ⟨j, h⟩ := List.mem_iff_getElem?.1 hx
  simpa using hj j x h
theorem findAt_is {ws : List Wt} {n : Int} {k : Nat} (h : findAt ws n = some k) : ∃ x, ws[k]? = some x ∧ x.number = n := by
  unfold findAt at h
  rw [List.findIdx?_eq_some_iff_getElem] at h
  obtain ⟨hlt, hn, _⟩ := h
  exact ⟨_, List.getElem?_eq_getElem hlt, by simpa using hn⟩
theorem findAt_not {ws : List Wt} {n : Int} (h : findAt ws n = none) : ∀ x ∈ ws, x.number ≠ n := by
  unfold findAt at h
  rw [List.findIdx?_eq_none_iff] at h
  intro x hx
  simpa using h x hx
theorem call_find1 (u v : Value) (w : World) : (callFunc 78 #[u, v]).run Try.prog w = .ok (.enter 78 #[u, v]) w := by simp [go_sem]
theorem find1_any (x : Wt) (n : Int) (B : Nat) (w : World) (hB : w.cell? ⟨B, 0, none⟩ = some (.int .i64 n)) :
    Calls Try.prog 78 #[x.val, .pointer (some ⟨B, 0, none⟩)] w fun e w' => e = .returned (.bool (decide (x.number = n))) ∧ Grow w w' := by
  have hlt := cell_lt hB
  have hne : B ≠ w.heap.size := by simp at hlt; omega
  unfold Wt.val
  go_enter Try.func78, Try.ntmps78
  go_wp2
  go_ret
  exact ⟨rfl, (Grow.refl _).alloc _⟩
set_option maxHeartbeats 2000000 in
theorem indexFunc_any (ws : List Wt) (n : Int) (B : Nat) (a : Option Addr) (cap : Nat) (w : World) (hw : WaitsAt w a cap ws) (hB : w.cell? ⟨B, 0, none⟩ = some (.int .i64 n)) :
    Calls Try.prog 77 #[.slice a ws.length cap, .func (.func 78) #[] #[.pointer (some ⟨B, 0, none⟩)]] w fun e w' => e = .returned (.int .i64 (optInt (findAt ws n))) ∧ Grow w w' := by
  have HW : Hid (WaitsAt w a cap ws) := hw
  have HB : Hid (w.cell? ⟨B, 0, none⟩ = some (.int .i64 n)) := hB
  have hl := hw.1
  clear hw hB
  go_enter Try.func77, Try.ntmps77
  go_wp2_with fail
  go_loopw [8] (fun i wr => ∃ k : Nat, k ≤ ws.length ∧ i = .int .i64 k ∧ (∀ j, j < k → ∀ d, ws[j]? = some d → d.number ≠ n) ∧ Grow w wr) (fun i _ => ws.length - (intOf i).toNat)
  case atStart => exact ⟨0, Nat.zero_le _, rfl, fun j hj => by omega, Grow.refl _⟩
  case round =>
    obtain ⟨k, hk, rfl, hz, hG⟩ := hrel
    have HZ : Hid (∀ j, j < k → ∀ d, ws[j]? = some d → d.number ≠ n) := hz
    clear hz
    by_cases hlt : k < ws.length
    · have hx : ws[k]? = some ws[k] := List.getElem?_eq_getElem hlt
      generalize ws[k] = x at hx
      have HX : Hid (ws[k]? = some x) := hx
      obtain ⟨b, off, rfl, d0, d1, d2⟩ := (HW.out.grow hG).at3 hx
      clear hx
      have hlt' : (k : Int) < (ws.length : Int) := by omega
      have hBr := cell_grow hG HB.out
      go_wp2_with (simp only [call_find1])
      refine (find1_any x n B _ hBr).mono ?_
      rintro e w2 ⟨rfl, g2⟩
      clear d0 d1 d2
      by_cases hxn : x.number = n
      · have hd : decide (x.number = n) = true := by simpa using hxn
        rw [hd]
        clear hd
        have E : Hid (findAt ws n = some k) := findAt_some HX.out hxn HZ.out
        clear hxn
        go_wp2
        go_ret
        exact ⟨by rw [E.out]; rfl, hG.trans g2⟩
      · have hd : decide (x.number = n) = false := by simpa using hxn
        rw [hd]
        clear hd
        have HN : Hid (x.number ≠ n) := hxn
        clear hxn
        go_wp2
        go_roundw
        case rel =>
          refine ⟨k + 1, by omega, by go_num, fun j hj d hd => ?_, hG.trans g2⟩
          by_cases hjk : j = k
          · subst hjk
            rw [HX.out] at hd
            cases hd
            exact HN.out
          · exact HZ.out j (by omega) d hd
        case measure => simp [intOf]; omega
    · obtain rfl : k = ws.length := by omega
      have E : Hid (findAt ws n = none) := findAt_none fun j d hd => HZ.out j (List.getElem?_eq_some_iff.1 hd).1 d hd
      go_wp2
      go_ret
      exact ⟨by rw [E.out]; rfl, hG⟩
theorem find_any (ws : List Wt) (n : Int) (a : Option Addr) (cap : Nat) (w : World) (hw : WaitsAt w a cap ws) :
    Calls Try.prog 71 #[.slice a ws.length cap, .int .i64 n] w fun e w' => e = .returned (.int .i64 (optInt (findAt ws n))) ∧ Grow w w' := by
  have g0 : Grow w (w.alloc (Obj.cells #[.int .i64 n] 3)) := (Grow.refl w).alloc _
  have HW : Hid (WaitsAt (w.alloc (Obj.cells #[.int .i64 n] 3)) a cap ws) := hw.grow g0
  clear hw
  go_enter Try.func71, Try.ntmps71
  go_wp2_with fail
  refine (indexFunc_any ws n w.heap.size a cap _ HW.out (by simp)).mono ?_
  rintro e w2 ⟨rfl, g2⟩
  go_wp2
  go_ret
  exact ⟨rfl, g0.trans g2⟩

set_option maxHeartbeats 2000000 in
theorem index_any (zs : List Int) (n : Int) (a : Option Addr) (cap : Nat) (w : World) (hw : IntsAt w a cap zs) :
    Calls Try.prog 79 #[.slice a zs.length cap, .int .i64 n] w fun e w' => (∃ i : Int, e = .returned (.int .i64 i) ∧ decide (0 ≤ i) = decide (n ∈ zs)) ∧ w' = w := by
  have HW : Hid (IntsAt w a cap zs) := hw
  have hl := hw.1
  clear hw
  go_enter Try.func79, Try.ntmps79
  go_wp2_with fail
  go_loopw [8] (fun i wr => wr = w ∧ ∃ k : Nat, k ≤ zs.length ∧ i = .int .i64 k ∧ ∀ j, j < k → zs[j]? ≠ some n) (fun i _ => zs.length - (intOf i).toNat)
  case atStart => exact ⟨rfl, 0, Nat.zero_le _, rfl, fun j hj => by omega⟩
  case round =>
    obtain ⟨rfl, k, hk, rfl, hz⟩ := hrel
    have HZ : Hid (∀ j, j < k → zs[j]? ≠ some n) := hz
    clear hz
    by_cases hlt : k < zs.length
    · have hx : zs[k]? = some zs[k] := List.getElem?_eq_getElem hlt
      generalize zs[k] = x at hx
      have HX : Hid (zs[k]? = some x) := hx
      obtain ⟨b, off, rfl, d0⟩ := HW.out.at1 hx
      clear hx
      have hlt' : (k : Int) < (zs.length : Int) := by omega
      by_cases hxn : n = x
      · subst hxn
        go_wp2
        go_ret
        exact ⟨⟨_, rfl, by
          have hm := List.mem_of_getElem? HX.out
          simp [hm]⟩, rfl⟩
      · have h1 : (n == x) = false := by simpa using hxn
        have HN : Hid (n ≠ x) := hxn
        clear hxn
        go_wp2
        go_roundw
        case rel =>
          refine ⟨trivial, k + 1, by omega, by go_num, fun j hj => ?_⟩
          by_cases hjk : j = k
          · subst hjk
            rw [HX.out]
            exact fun e => HN.out (Option.some.inj e).symm
          · exact HZ.out j (by omega)
        case measure => simp [intOf]; omega
    · obtain rfl : k = zs.length := by omega
      have E : Hid (n ∉ zs) := fun hm => by
        obtain ⟨j, hj⟩ := List.mem_iff_getElem?.1 hm
        exact HZ.out j (List.getElem?_eq_some_iff.1 hj).1 hj
      go_wp2
      go_ret
      exact ⟨⟨_, rfl, by simp [E.out]⟩, rfl⟩
theorem contains_any (zs : List Int) (n : Int) (a : Option Addr) (cap : Nat) (w : World) (hw : IntsAt w a cap zs) :
    Calls Try.prog 72 #[.slice a zs.length cap, .int .i64 n] w fun e w' => e = .returned (.bool (decide (n ∈ zs))) ∧ w' = w := by
  have HW : Hid (IntsAt w a cap zs) := hw
  clear hw
  go_enter Try.func72, Try.ntmps72
  go_wp2_with fail
  refine (index_any zs n a cap _ HW.out).mono ?_
  rintro e w2 ⟨⟨i, rfl, hi⟩, rfl⟩
  have HI : Hid (decide (0 ≤ i) = decide (n ∈ zs)) := hi
  clear hi
  go_wp2
  go_ret
  exact ⟨by rw [← HI.out]; rfl, rfl⟩
end Go.Proofs.Ytlpdoloolagcbab
