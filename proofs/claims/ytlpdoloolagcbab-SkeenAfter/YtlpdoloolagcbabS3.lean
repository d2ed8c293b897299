/- skeen.Check: what it answers, whatever it is handed. -/
import Derived.Test.YtlpdoloolagcbabS2
namespace Go.Proofs.Ytlpdoloolagcbab
open Go.RowKit

/-- The first error of some. -/
def firstErr (f : Nat → Int) : Nat → Int
  | 0 => 0
  | n + 1 => if firstErr f n = 0 then f n else firstErr f n
theorem firstErr_zero (f : Nat → Int) : ∀ n, (∀ j, j < n → f j = 0) → firstErr f n = 0
  | 0, _ => rfl
  | n + 1, h => by
    rw [firstErr, if_pos (firstErr_zero f n fun j hj => h j (by omega))]
    exact h n (by omega)
theorem firstErr_at (f : Nat → Int) (k : Nat) (h : ∀ j, j < k → f j = 0) (hk : f k ≠ 0) : ∀ n, k < n → firstErr f n = f k
  | 0, hn => by omega
  | n + 1, hn => by
    by_cases e : n = k
    · subst e
      rw [firstErr, if_pos (firstErr_zero f n h)]
    · have ih := firstErr_at f k h hk n (by omega)
      rw [firstErr, if_neg (by rw [ih]; exact hk), ih]
theorem firstErr_all (f : Nat → Int) : ∀ n, firstErr f n = 0 → ∀ j, j < n → f j = 0
  | 0, _, j, hj => by omega
  | n + 1, h, j, hj => by
    rw [firstErr] at h
    split at h
    · rename_i h0
      by_cases e : j = n
      · rw [e]; exact h
      · exact firstErr_all f n h0 j (by omega)
    · rename_i h0; exact absurd h h0

/-- What is wrong with a wait. -/
def waitErr (clock : Int) (ws : List Wt) (i : Nat) : Int := match ws[i]? with
  | none => 0
  | some x => if isNum x.number = false ∨ x.time < 1 ∨ clock < x.time then 3 else match i with
    | 0 => 0
    | j + 1 => match ws[j]? with
      | none => 0
      | some y => if x.number ≤ y.number then 4 else 0
set_option maxHeartbeats 4000000 in
theorem checkWaits_any (ws : List Wt) (clock : Int) (a : Option Addr) (cap : Nat) (w : World) (hw : WaitsAt w a cap ws) :
    Calls Try.prog 61 #[.slice a ws.length cap, .int .i64 clock] w fun e w' => e = .returned (.int .i64 (firstErr (waitErr clock ws) ws.length)) ∧ Grow w w' := by
  have HW : Hid (WaitsAt w a cap ws) := hw
  have hl := hw.1
  clear hw
  go_enter Try.func61, Try.ntmps61
  go_wp2_with fail
  go_loopw [9] (fun i wr => ∃ k : Nat, k ≤ ws.length ∧ i = .int .i64 k ∧ (∀ j, j < k → waitErr clock ws j = 0) ∧ Grow w wr) (fun i _ => ws.length - (intOf i).toNat)
  case atStart => exact ⟨0, Nat.zero_le _, rfl, fun j hj => by omega, Grow.refl _⟩
  case round =>
    obtain ⟨k, hk, rfl, hz, hG⟩ := hrel
    have HZ : Hid (∀ j, j < k → waitErr clock ws j = 0) := hz
    clear hz
    by_cases hlt : k < ws.length
    · have hx : ws[k]? = some ws[k] := List.getElem?_eq_getElem hlt
      generalize ws[k] = x at hx
      obtain ⟨b, off, rfl, d0, d1, d2⟩ := (HW.out.grow hG).at3 hx
      have HX : Hid (ws[k]? = some x) := hx
      clear hx
      have hlt' : (k : Int) < (ws.length : Int) := by omega
      have bad : isNum x.number = false ∨ x.time < 1 ∨ clock < x.time → Hid (firstErr (waitErr clock ws) ws.length = 3) := fun h => by
        have h3 : waitErr clock ws k = 3 := by rw [waitErr, HX.out]; exact if_pos h
        show firstErr (waitErr clock ws) ws.length = 3
        rw [firstErr_at _ k HZ.out (by rw [h3]; decide) _ hlt, h3]
      have BAD : Hid (isNum x.number = false ∨ x.time < 1 ∨ clock < x.time → Hid (firstErr (waitErr clock ws) ws.length = 3)) := bad
      clear bad
      cases hn : isNum x.number
      · have E := BAD.out (.inl hn)
        go_wp2_with (go_at_call 70; refine (isNumber_any _ _).mono ?_; rw [hn]; rintro e w1 ⟨rfl, rfl⟩)
        go_ret
        exact ⟨by rw [E.out]; rfl, hG.alloc _⟩
      by_cases h1 : x.time < 1
      · have h1' : decide (x.time < 1) = true := by simpa using h1
        have E := BAD.out (.inr (.inl h1))
        go_wp2_with (go_at_call 70; refine (isNumber_any _ _).mono ?_; rw [hn]; rintro e w1 ⟨rfl, rfl⟩)
        go_ret
        exact ⟨by rw [E.out]; rfl, hG.alloc _⟩
      have h1' : decide (x.time < 1) = false := by simpa using h1
      by_cases h2 : clock < x.time
      · have h2' : decide (clock < x.time) = true := by simpa using h2
        have E := BAD.out (.inr (.inr h2))
        go_wp2_with (go_at_call 70; refine (isNumber_any _ _).mono ?_; rw [hn]; rintro e w1 ⟨rfl, rfl⟩)
        go_ret
        exact ⟨by rw [E.out]; rfl, hG.alloc _⟩
      have h2' : decide (clock < x.time) = false := by simpa using h2
      have HG : Hid (¬ (isNum x.number = false ∨ x.time < 1 ∨ clock < x.time)) := by
        show ¬ _
        rw [hn]
        rintro (h | h | h)
        · cases h
        · exact h1 h
        · exact h2 h
      clear h1 h2 BAD
      have G1 : Grow wr (wr.alloc (Obj.cells #[.int .i64 x.number, .int .i64 x.time, .bool x.final] 64)).drew := ((Grow.refl wr).alloc _).drew
      have k0 := grow_block (Grow.refl _).drew (heap_alloc_new wr (Obj.cells #[.int .i64 x.number, .int .i64 x.time, .bool x.final] 64))
      go_wp2_with (go_at_call 70; refine (isNumber_any _ _).mono ?_; rw [hn]; rintro e w1 ⟨rfl, rfl⟩)
      clear d0 d1 d2
      cases k with
      | zero =>
        have E0 : Hid (waitErr clock ws 0 = 0) := by
          show waitErr clock ws 0 = 0
          rw [waitErr, HX.out]
          exact if_neg HG.out
        have hd0 : decide ((0 : Int) < ((0 : Nat) : Int)) = false := by decide
        refine wp_region_path [(0, 0), (1, 2), (2, 0), (3, 0), (4, 0), (5, 0), (6, 0), (7, 2), (8, 0), (9, 0), (10, 0), (11, 2), (12, 0)] (by kernel_rfl) (by kernel_rfl) (by kernel_rfl) (by kernel_rfl) ?_
        simp only [parts, headed, headed2, List.getElem?_toArray, List.getElem?_cons_zero, List.getElem?_cons_succ]
        generalize (wr.alloc (Obj.cells #[.int .i64 x.number, .int .i64 x.time, .bool x.final] 64)).drew = Wd at *
        refine parts_step fun K HK => ?_
        go_wp2_with fail
        refine HK.out _ _ (Grow.refl _) ?_
        clear HK K
        refine parts_step2 (fun hw => by first | (cases hw; done) | (apply looks_run; intro w'; go_simp; try first | rfl | rw [if_neg (by omega)])) fun K HK => ?_
        go_wp2_with fail
        refine HK.out _ _ (Grow.refl _) ?_
        clear HK K
        refine parts_step2 (fun hw => by first | (cases hw; done) | (apply looks_run; intro w'; go_simp; try first | rfl | rw [if_neg (by omega)])) fun K HK => ?_
        go_wp2_with fail
        refine HK.out _ _ (Grow.refl _) ?_
        clear HK K
        refine parts_step2 (fun hw => by first | (cases hw; done) | (apply looks_run; intro w'; go_simp; try first | rfl | rw [if_neg (by omega)])) fun K HK => ?_
        go_wp2_with fail
        refine HK.out _ _ (Grow.refl _) ?_
        clear HK K
        refine parts_done ?_
        go_wp2
        go_roundw
        case rel => exact ⟨1, by omega, by go_num, fun j hj => by (obtain rfl : j = 0 := by omega); exact E0.out, hG.trans G1⟩
        case measure => simp [intOf]; omega
      | succ m =>
        have hy : ws[m]? = some ws[m] := List.getElem?_eq_getElem (by omega)
        generalize ws[m] = y at hy
        obtain ⟨b', off', e, c0, c1, c2⟩ := (HW.out.grow (hG.trans G1)).at3 hy
        cases e
        have HE : Hid (waitErr clock ws (m + 1) = if x.number ≤ y.number then 4 else 0) := by
          show waitErr clock ws (m + 1) = _
          rw [waitErr, HX.out]
          simp only
          rw [if_neg HG.out, hy]
        clear hy
        have hd0 : decide ((0 : Int) < ((m + 1 : Nat) : Int)) = true := by simp
        have hw6 : IntKind.i64.wrap (((m + 1 : Nat) : Int) - 1) = m := by rw [IntKind.wrap_i64]; omega
        have hw7 : wrap64 (((m + 1 : Nat) : Int) - 1) = m := by unfold wrap64; omega
        have hmlt : (m : Int) < (ws.length : Int) := by omega
        by_cases h4 : x.number ≤ y.number
        · have h4' : decide (x.number ≤ y.number) = true := by simpa using h4
          have E : Hid (firstErr (waitErr clock ws) ws.length = 4) := by
            have h5 : waitErr clock ws (m + 1) = 4 := by rw [HE.out, if_pos h4]
            show firstErr (waitErr clock ws) ws.length = 4
            rw [firstErr_at _ (m + 1) HZ.out (by rw [h5]; decide) _ hlt, h5]
          clear h4
          refine wp_region_path [(0, 0), (1, 2), (2, 0), (3, 0), (4, 0), (5, 0), (6, 0), (7, 2), (8, 0), (9, 0), (10, 0), (11, 2), (12, 0)] (by kernel_rfl) (by kernel_rfl) (by kernel_rfl) (by kernel_rfl) ?_
          simp only [parts, headed, headed2, List.getElem?_toArray, List.getElem?_cons_zero, List.getElem?_cons_succ]
          generalize (wr.alloc (Obj.cells #[.int .i64 x.number, .int .i64 x.time, .bool x.final] 64)).drew = Wd at *
          have e0 := cell_of_block (o := 0) k0 rfl; simp at e0
          refine parts_step fun K HK => ?_
          go_wp2_with fail
          refine HK.out _ _ (Grow.refl _) ?_
          clear HK K
          refine parts_step2 (fun hw => by first | (cases hw; done) | (apply looks_run; intro w'; go_simp; try first | rfl | rw [if_neg (by omega)])) fun K HK => ?_
          go_wp2_with fail
          refine HK.out _ _ (Grow.refl _) ?_
          clear HK K
          refine parts_step2 (fun hw => by first | (cases hw; done) | (apply looks_run; intro w'; go_simp; try first | rfl | rw [if_neg (by omega)])) fun K HK => ?_
          go_wp2_with fail
          refine HK.out _ _ (Grow.refl _) ?_
          clear HK K
          refine parts_step2 (fun hw => by first | (cases hw; done) | (apply looks_run; intro w'; go_simp; try first | rfl | rw [if_neg (by omega)])) fun K HK => ?_
          go_wp2_with fail
          refine HK.out _ _ (Grow.refl _) ?_
          clear HK K
          refine parts_done ?_
          go_wp2
          go_ret
          exact ⟨by rw [E.out]; rfl, hG.trans G1⟩
        · have h4' : decide (x.number ≤ y.number) = false := by simpa using h4
          have E : Hid (waitErr clock ws (m + 1) = 0) := by show waitErr clock ws (m + 1) = 0; rw [HE.out, if_neg h4]
          clear h4
          refine wp_region_path [(0, 0), (1, 2), (2, 0), (3, 0), (4, 0), (5, 0), (6, 0), (7, 2), (8, 0), (9, 0), (10, 0), (11, 2), (12, 0)] (by kernel_rfl) (by kernel_rfl) (by kernel_rfl) (by kernel_rfl) ?_
          simp only [parts, headed, headed2, List.getElem?_toArray, List.getElem?_cons_zero, List.getElem?_cons_succ]
          generalize (wr.alloc (Obj.cells #[.int .i64 x.number, .int .i64 x.time, .bool x.final] 64)).drew = Wd at *
          have e0 := cell_of_block (o := 0) k0 rfl; simp at e0
          refine parts_step fun K HK => ?_
          go_wp2_with fail
          refine HK.out _ _ (Grow.refl _) ?_
          clear HK K
          refine parts_step2 (fun hw => by first | (cases hw; done) | (apply looks_run; intro w'; go_simp; try first | rfl | rw [if_neg (by omega)])) fun K HK => ?_
          go_wp2_with fail
          refine HK.out _ _ (Grow.refl _) ?_
          clear HK K
          refine parts_step2 (fun hw => by first | (cases hw; done) | (apply looks_run; intro w'; go_simp; try first | rfl | rw [if_neg (by omega)])) fun K HK => ?_
          go_wp2_with fail
          refine HK.out _ _ (Grow.refl _) ?_
          clear HK K
          refine parts_step2 (fun hw => by first | (cases hw; done) | (apply looks_run; intro w'; go_simp; try first | rfl | rw [if_neg (by omega)])) fun K HK => ?_
          go_wp2_with fail
          refine HK.out _ _ (Grow.refl _) ?_
          clear HK K
          refine parts_done ?_
          go_wp2
          go_roundw
          case rel =>
            refine ⟨m + 1 + 1, by omega, by go_num, fun j hj => ?_, hG.trans G1⟩
            by_cases hjk : j = m + 1
            · rw [hjk]; exact E.out
            · exact HZ.out j (by omega)
          case measure => simp [intOf]; omega
    · obtain rfl : k = ws.length := by omega
      have E : Hid (firstErr (waitErr clock ws) ws.length = 0) := firstErr_zero _ _ HZ.out
      go_wp2
      go_ret
      exact ⟨by rw [E.out]; rfl, hG⟩
end Go.Proofs.Ytlpdoloolagcbab
