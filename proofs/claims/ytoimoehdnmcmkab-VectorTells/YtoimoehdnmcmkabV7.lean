/- cutwaterlaw.VectorTells answers true. -/
import Derived.Test.YtoimoehdnmcmkabV4
namespace Go.Proofs.Ytoimoehdnmcmkab
open Go.RowKit

theorem hold {p : Prop} (h : p) : Hid p := h
def betw (n a b : Int) : Bool := decide (a ≤ n) && decide (n ≤ b)
theorem between_any (n a b : Int) (w : World) : Calls Try.prog 57 #[.int .i64 n, .int .i64 a, .int .i64 b] w fun e w' => e = .returned (.bool (betw n a b)) ∧ w' = w := by
  by_cases h : a ≤ n
  · have h' : decide (a ≤ n) = true := by simpa using h
    go_enter Try.func57, Try.ntmps57
    go_wp2
    go_ret
    exact ⟨by simp [betw, h], rfl⟩
  · have h' : decide (a ≤ n) = false := by simpa using h
    go_enter Try.func57, Try.ntmps57
    go_wp2
    go_ret
    exact ⟨by simp [betw, h'], rfl⟩
theorem checkVector_any (v : Vc) (w : World) : Calls Try.prog 36 #[v.val] w fun e w' => e = .returned (.int .i64 v.err) ∧ Grow w w' := by
  unfold Vc.val
  have HR : ∀ x, v.err = x → Hid (v.err = x) := fun _ h => h
  cases h0 : betw v.a 0 20
  · have E := HR 3 (by unfold betw at h0; simp only [Vc.err, Vc.ok, ok20, h0]; rfl)
    go_enter Try.func36, Try.ntmps36
    go_wp2_with (go_at_call 57; refine (between_any _ _ _ _).mono ?_; rw [h0]; rintro e w1 ⟨rfl, rfl⟩)
    go_ret
    exact ⟨by rw [E.out]; rfl, (Grow.refl _).alloc _⟩
  · cases h1 : betw v.b 0 20
    · have E := HR 3 (by unfold betw at h0 h1; simp only [Vc.err, Vc.ok, ok20, h0, h1]; rfl)
      go_enter Try.func36, Try.ntmps36
      go_wp2_with (go_at_call 57; refine (between_any _ _ _ _).mono ?_; (first | rw [h0] | rw [h1]); rintro e w1 ⟨rfl, rfl⟩)
      go_ret
      exact ⟨by rw [E.out]; rfl, (Grow.refl _).alloc _⟩
    · have E := HR 0 (by unfold betw at h0 h1; simp only [Vc.err, Vc.ok, ok20, h0, h1]; rfl)
      go_enter Try.func36, Try.ntmps36
      go_wp2_with (go_at_call 57; refine (between_any _ _ _ _).mono ?_; (first | rw [h0] | rw [h1]); rintro e w1 ⟨rfl, rfl⟩)
      go_ret
      exact ⟨by rw [E.out]; rfl, (Grow.refl _).alloc _⟩
theorem isReg_betw (r : Int) : betw r 0 1 = isReg r := by
  unfold betw isReg
  rw [Bool.eq_iff_iff]
  simp
  omega
theorem refIsId_any (r n : Int) (w : World) : Calls Try.prog 37 #[.agg #[.int .i64 r, .int .i64 n]] w fun e w' => e = .returned (.bool (isIdB r n)) ∧ Grow w w' := by
  have HR : ∀ x, isIdB r n = x → Hid (isIdB r n = x) := fun _ h => h
  cases h0 : betw r 0 1
  · have E := HR false (by rw [isReg_betw] at h0; simp only [isIdB, h0]; rfl)
    go_enter Try.func37, Try.ntmps37
    go_wp2_with (go_at_call 57; refine (between_any _ _ _ _).mono ?_; rw [h0]; rintro e w1 ⟨rfl, rfl⟩)
    go_ret
    exact ⟨by rw [E.out]; rfl, (Grow.refl _).alloc _⟩
  · have E := HR (betw n 1 20) (by rw [isReg_betw] at h0; simp only [isIdB, h0]; rfl)
    have h1 := h0
    go_enter Try.func37, Try.ntmps37
    go_wp2_with (go_at_call 57; refine (between_any _ _ _ _).mono ?_; (try rw [h0]); rintro e w1 ⟨rfl, rfl⟩)
    go_ret
    exact ⟨by rw [E.out]; rfl, (Grow.refl _).alloc _⟩
theorem vJoin_ok {v u : Vc} (h : (v.ok && u.ok) = true) : vJoin v u = (⟨max v.a u.a, max v.b u.b⟩, 0) := by simp only [vJoin, h]; rfl
theorem vJoin_no {v u : Vc} (h : (v.ok && u.ok) = false) : vJoin v u = (⟨0, 0⟩, 3) := by simp only [vJoin, h]; rfl
theorem vIn_ok {v u : Vc} (h : (v.ok && u.ok) = true) : vIn v u = (decide (v.a ≤ u.a) && decide (v.b ≤ u.b), 0) := by simp only [vIn, h]; rfl
theorem vIn_no {v u : Vc} (h : (v.ok && u.ok) = false) : vIn v u = (false, 3) := by simp only [vIn, h]; rfl
set_option maxRecDepth 100000 in
set_option maxHeartbeats 8000000 in
theorem vt_A (a b : Vc) (r n : Int) (w : World) (hA : a.ok = false) : Calls Try.prog 8 #[a.val, b.val, .agg #[.int .i64 r, .int .i64 n]] w fun e w' => e = .returned (.bool true) ∧ Grow w w' := by
  have hab : (a.ok && b.ok) = false := by rw [hA]; rfl
  have E1 := vJoin_no hab
  have E2 : a.has r n = (false, 3) := by simp only [Vc.has, hA]; rfl
  have E3 := vIn_no hab
  have EA : a.err = 3 := by simp only [Vc.err, hA]; rfl
  replace E1 := hold E1
  replace E2 := hold E2
  replace E3 := hold E3
  replace EA := hold EA
  clear hA hab
  have HA := hold (vjoin_any a b)
  have HH := hold (vhas_any a r n)
  have HW := hold (vwithin_any a b)
  have HCA := hold (checkVector_any a)
  have HCB := hold (checkVector_any b)
  have HV := hold (vchk_any a)
  unfold Vc.val
  go_enter Try.func8, Try.ntmps8
  go_wp2_with fail
  have G : Grow w (((w.alloc (Obj.cells #[.int .i64 a.a, .int .i64 a.b] 67)).alloc (Obj.cells #[.int .i64 b.a, .int .i64 b.b] 67)).alloc (Obj.cells #[.int .i64 r, .int .i64 n] 69)) := (((Grow.refl w).alloc _).alloc _).alloc _
  have A0 : (((w.alloc (Obj.cells #[.int .i64 a.a, .int .i64 a.b] 67)).alloc (Obj.cells #[.int .i64 b.a, .int .i64 b.b] 67)).alloc (Obj.cells #[.int .i64 r, .int .i64 n] 69)).cell? ⟨w.heap.size, 0, none⟩ = some (.int .i64 a.a) := by simp [go_sem]
  have A1 : (((w.alloc (Obj.cells #[.int .i64 a.a, .int .i64 a.b] 67)).alloc (Obj.cells #[.int .i64 b.a, .int .i64 b.b] 67)).alloc (Obj.cells #[.int .i64 r, .int .i64 n] 69)).cell? ⟨w.heap.size, 1, none⟩ = some (.int .i64 a.b) := by simp [go_sem]
  have B0 : (((w.alloc (Obj.cells #[.int .i64 a.a, .int .i64 a.b] 67)).alloc (Obj.cells #[.int .i64 b.a, .int .i64 b.b] 67)).alloc (Obj.cells #[.int .i64 r, .int .i64 n] 69)).cell? ⟨w.heap.size + 1, 0, none⟩ = some (.int .i64 b.a) := by simp [go_sem]
  have B1 : (((w.alloc (Obj.cells #[.int .i64 a.a, .int .i64 a.b] 67)).alloc (Obj.cells #[.int .i64 b.a, .int .i64 b.b] 67)).alloc (Obj.cells #[.int .i64 r, .int .i64 n] 69)).cell? ⟨w.heap.size + 1, 1, none⟩ = some (.int .i64 b.b) := by simp [go_sem]
  have X0 : (((w.alloc (Obj.cells #[.int .i64 a.a, .int .i64 a.b] 67)).alloc (Obj.cells #[.int .i64 b.a, .int .i64 b.b] 67)).alloc (Obj.cells #[.int .i64 r, .int .i64 n] 69)).cell? ⟨w.heap.size + 1 + 1, 0, none⟩ = some (.int .i64 r) := by simp [go_sem]
  have X1 : (((w.alloc (Obj.cells #[.int .i64 a.a, .int .i64 a.b] 67)).alloc (Obj.cells #[.int .i64 b.a, .int .i64 b.b] 67)).alloc (Obj.cells #[.int .i64 r, .int .i64 n] 69)).cell? ⟨w.heap.size + 1 + 1, 1, none⟩ = some (.int .i64 n) := by simp [go_sem]
  generalize (((w.alloc (Obj.cells #[.int .i64 a.a, .int .i64 a.b] 67)).alloc (Obj.cells #[.int .i64 b.a, .int .i64 b.b] 67)).alloc (Obj.cells #[.int .i64 r, .int .i64 n] 69)) = W0 at *
  refine (HA.out _).mono ?_
  rw [E1.out]
  rintro e w1 ⟨rfl, g1⟩
  replace A0 := cell_grow g1 A0
  replace A1 := cell_grow g1 A1
  replace B0 := cell_grow g1 B0
  replace B1 := cell_grow g1 B1
  replace X0 := cell_grow g1 X0
  replace X1 := cell_grow g1 X1
  replace G := G.trans g1
  clear g1
  simp only [Vc.val]
  replace A0 := cell_grow ((Grow.refl w1).alloc (Obj.cells #[.int .i64 0, .int .i64 0] 67)) A0
  replace A1 := cell_grow ((Grow.refl w1).alloc (Obj.cells #[.int .i64 0, .int .i64 0] 67)) A1
  replace B0 := cell_grow ((Grow.refl w1).alloc (Obj.cells #[.int .i64 0, .int .i64 0] 67)) B0
  replace B1 := cell_grow ((Grow.refl w1).alloc (Obj.cells #[.int .i64 0, .int .i64 0] 67)) B1
  replace X0 := cell_grow ((Grow.refl w1).alloc (Obj.cells #[.int .i64 0, .int .i64 0] 67)) X0
  replace X1 := cell_grow ((Grow.refl w1).alloc (Obj.cells #[.int .i64 0, .int .i64 0] 67)) X1
  have V0 : (w1.alloc (Obj.cells #[.int .i64 0, .int .i64 0] 67)).cell? ⟨w1.heap.size, 0, none⟩ = some (.int .i64 0) := by simp
  have V1 : (w1.alloc (Obj.cells #[.int .i64 0, .int .i64 0] 67)).cell? ⟨w1.heap.size, 1, none⟩ = some (.int .i64 0) := by simp
  replace G := G.alloc (Obj.cells #[.int .i64 0, .int .i64 0] 67)
  go_wp2_with fail
  generalize (w1.alloc (Obj.cells #[.int .i64 0, .int .i64 0] 67)) = W1 at *
  refine (HH.out _).mono ?_
  rw [E2.out]
  rintro e w2 ⟨rfl, g2⟩
  replace A0 := cell_grow g2 A0
  replace A1 := cell_grow g2 A1
  replace B0 := cell_grow g2 B0
  replace B1 := cell_grow g2 B1
  replace X0 := cell_grow g2 X0
  replace X1 := cell_grow g2 X1
  replace V0 := cell_grow g2 V0
  replace V1 := cell_grow g2 V1
  replace G := G.trans g2
  clear g2
  go_wp2_with fail
  refine (HW.out _).mono ?_
  rw [E3.out]
  rintro e w3 ⟨rfl, g3⟩
  replace A0 := cell_grow g3 A0
  replace A1 := cell_grow g3 A1
  replace B0 := cell_grow g3 B0
  replace B1 := cell_grow g3 B1
  replace X0 := cell_grow g3 X0
  replace X1 := cell_grow g3 X1
  replace V0 := cell_grow g3 V0
  replace V1 := cell_grow g3 V1
  replace G := G.trans g3
  clear g3
  go_wp2_with fail
  refine (HCA.out _).mono ?_
  rw [EA.out]
  rintro e w4 ⟨rfl, g4⟩
  replace A0 := cell_grow g4 A0
  replace A1 := cell_grow g4 A1
  replace B0 := cell_grow g4 B0
  replace B1 := cell_grow g4 B1
  replace X0 := cell_grow g4 X0
  replace X1 := cell_grow g4 X1
  replace V0 := cell_grow g4 V0
  replace V1 := cell_grow g4 V1
  replace G := G.trans g4
  clear g4
  replace A0 := cell_grow ((Grow.refl w4).alloc (Obj.cells #[.int .i64 0, .int .i64 0] 67)) A0
  replace A1 := cell_grow ((Grow.refl w4).alloc (Obj.cells #[.int .i64 0, .int .i64 0] 67)) A1
  replace B0 := cell_grow ((Grow.refl w4).alloc (Obj.cells #[.int .i64 0, .int .i64 0] 67)) B0
  replace B1 := cell_grow ((Grow.refl w4).alloc (Obj.cells #[.int .i64 0, .int .i64 0] 67)) B1
  replace X0 := cell_grow ((Grow.refl w4).alloc (Obj.cells #[.int .i64 0, .int .i64 0] 67)) X0
  replace X1 := cell_grow ((Grow.refl w4).alloc (Obj.cells #[.int .i64 0, .int .i64 0] 67)) X1
  replace V0 := cell_grow ((Grow.refl w4).alloc (Obj.cells #[.int .i64 0, .int .i64 0] 67)) V0
  replace V1 := cell_grow ((Grow.refl w4).alloc (Obj.cells #[.int .i64 0, .int .i64 0] 67)) V1
  have U0 : (w4.alloc (Obj.cells #[.int .i64 0, .int .i64 0] 67)).cell? ⟨w4.heap.size, 0, none⟩ = some (.int .i64 0) := by simp
  have U1 : (w4.alloc (Obj.cells #[.int .i64 0, .int .i64 0] 67)).cell? ⟨w4.heap.size, 1, none⟩ = some (.int .i64 0) := by simp
  replace G := G.alloc (Obj.cells #[.int .i64 0, .int .i64 0] 67)
  go_wp2_with fail
  generalize hW : (w4.alloc (Obj.cells #[.int .i64 0, .int .i64 0] 67)) = W4 at *
  clear hW
  have g : Grow W4 W4.drew := (Grow.refl W4).drew
  replace A0 := cell_grow g A0
  replace A1 := cell_grow g A1
  replace B0 := cell_grow g B0
  replace B1 := cell_grow g B1
  replace X0 := cell_grow g X0
  replace X1 := cell_grow g X1
  replace V0 := cell_grow g V0
  replace V1 := cell_grow g V1
  replace U0 := cell_grow g U0
  replace U1 := cell_grow g U1
  replace G := G.trans g
  clear g
  have hv := veq
  refine wp_region_path [(0, 1), (1, 0), (2, 0), (4, 0), (3, 1), (5, 2), (6, 0), (7, 0), (8, 0), (9, 0), (10, 2), (11, 0), (12, 0), (13, 0), (14, 0), (15, 2), (16, 0), (17, 0), (18, 0), (19, 0), (20, 2), (21, 0), (22, 0), (23, 0), (24, 0), (25, 2), (26, 0), (27, 0), (28, 0), (29, 0), (30, 0), (31, 0), (32, 0), (33, 2), (34, 0), (35, 2), (36, 0), (37, 0), (38, 0), (39, 0), (40, 2), (41, 0), (42, 0), (43, 0), (44, 0), (45, 2), (46, 0), (47, 0), (48, 0), (49, 0), (50, 0), (51, 2), (52, 0), (53, 0), (54, 0), (55, 0), (56, 0), (57, 0), (58, 2), (59, 0), (60, 2), (61, 0), (62, 0)] (by kernel_rfl) (by kernel_rfl) (by kernel_rfl) (by kernel_rfl) ?_
  simp only [parts, headed, headed2, List.getElem?_toArray, List.getElem?_cons_zero, List.getElem?_cons_succ]
  generalize W4.drew = Wd at *
  refine parts_step fun K HK => ?_
  go_wp2_with fail
  refine (vbegun_any _).mono ?_
  rintro e v0 ⟨rfl, hg⟩
  replace A0 := cell_grow hg A0
  replace A1 := cell_grow hg A1
  replace B0 := cell_grow hg B0
  replace B1 := cell_grow hg B1
  replace X0 := cell_grow hg X0
  replace X1 := cell_grow hg X1
  replace V0 := cell_grow hg V0
  replace V1 := cell_grow hg V1
  replace U0 := cell_grow hg U0
  replace U1 := cell_grow hg U1
  replace G := G.trans hg
  go_wp2_with fail
  refine HK.out _ _ hg ?_
  clear hg
  clear HK K
  refine parts_step fun K HK => ?_
  go_wp2_with fail
  refine (HV.out _).mono ?_
  rw [EA.out]
  rintro e v3 ⟨rfl, hg⟩
  replace A0 := cell_grow hg A0
  replace A1 := cell_grow hg A1
  replace B0 := cell_grow hg B0
  replace B1 := cell_grow hg B1
  replace X0 := cell_grow hg X0
  replace X1 := cell_grow hg X1
  replace V0 := cell_grow hg V0
  replace V1 := cell_grow hg V1
  replace U0 := cell_grow hg U0
  replace U1 := cell_grow hg U1
  replace G := G.trans hg
  go_wp2_with fail
  refine HK.out _ _ hg ?_
  clear hg
  clear HK K
  refine parts_step2 (fun hw => by first | (cases hw; done) | (apply looks_run; intro w'; go_simp; try first | rfl | rw [if_neg (by omega)])) fun K HK => ?_
  go_wp2_with fail
  refine HK.out _ _ (Grow.refl _) ?_
  clear HK K
  refine parts_step2 (fun hw => by first | (cases hw; done) | (apply looks_run; intro w'; go_simp; try first | rfl | rw [if_neg (by omega)])) fun K HK => ?_
  go_wp2_with fail
  refine HK.out _ _ (Grow.refl _) ?_
  clear HK K
  refine parts_step2 (fun hw => by first | (cases hw; done) | (apply looks_run; intro w'; go_simp; try first | rfl | rw [if_neg (by omega)])) fun K HK => ?_
  go_wp2_with fail
  refine HK.out _ _ (Grow.refl _) ?_
  clear HK K
  refine parts_step2 (fun hw => by first | (cases hw; done) | (apply looks_run; intro w'; go_simp; try first | rfl | rw [if_neg (by omega)])) fun K HK => ?_
  go_wp2_with fail
  refine HK.out _ _ (Grow.refl _) ?_
  clear HK K
  refine parts_step2 (fun hw => by first | (cases hw; done) | (apply looks_run; intro w'; go_simp; try first | rfl | rw [if_neg (by omega)])) fun K HK => ?_
  go_wp2_with fail
  refine HK.out _ _ (Grow.refl _) ?_
  clear HK K
  refine parts_step2 (fun hw => by first | (cases hw; done) | (apply looks_run; intro w'; go_simp; try first | rfl | rw [if_neg (by omega)])) fun K HK => ?_
  go_wp2_with fail
  refine HK.out _ _ (Grow.refl _) ?_
  clear HK K
  refine parts_step2 (fun hw => by first | (cases hw; done) | (apply looks_run; intro w'; go_simp; try first | rfl | rw [if_neg (by omega)])) fun K HK => ?_
  go_wp2_with fail
  refine HK.out _ _ (Grow.refl _) ?_
  clear HK K
  refine parts_step2 (fun hw => by first | (cases hw; done) | (apply looks_run; intro w'; go_simp; try first | rfl | rw [if_neg (by omega)])) fun K HK => ?_
  go_wp2_with fail
  refine HK.out _ _ (Grow.refl _) ?_
  clear HK K
  refine parts_step2 (fun hw => by first | (cases hw; done) | (apply looks_run; intro w'; go_simp; try first | rfl | rw [if_neg (by omega)])) fun K HK => ?_
  go_wp2_with fail
  refine HK.out _ _ (Grow.refl _) ?_
  clear HK K
  refine parts_step2 (fun hw => by first | (cases hw; done) | (apply looks_run; intro w'; go_simp; try first | rfl | rw [if_neg (by omega)])) fun K HK => ?_
  go_wp2_with fail
  refine HK.out _ _ (Grow.refl _) ?_
  clear HK K
  refine parts_step2 (fun hw => by first | (cases hw; done) | (apply looks_run; intro w'; go_simp; try first | rfl | rw [if_neg (by omega)])) fun K HK => ?_
  go_wp2_with fail
  refine HK.out _ _ (Grow.refl _) ?_
  clear HK K
  refine parts_step2 (fun hw => by first | (cases hw; done) | (apply looks_run; intro w'; go_simp; try first | rfl | rw [if_neg (by omega)])) fun K HK => ?_
  go_wp2_with fail
  refine HK.out _ _ (Grow.refl _) ?_
  clear HK K
  refine parts_done ?_
  go_wp2
  go_ret
  exact ⟨by first | rfl | simp, G⟩
set_option maxRecDepth 100000 in
set_option maxHeartbeats 8000000 in
theorem vt_BX (a b : Vc) (r n : Int) (w : World) (hA : a.ok = true) (hB : b.ok = false) (hI : isIdB r n = false) (HI : Hid (isIdB r n = false)) : Calls Try.prog 8 #[a.val, b.val, .agg #[.int .i64 r, .int .i64 n]] w fun e w' => e = .returned (.bool true) ∧ Grow w w' := by
  have hab : (a.ok && b.ok) = false := by rw [hA, hB]; rfl
  have E1 := vJoin_no hab
  have E3 := vIn_no hab
  have E2 : a.has r n = (false, 3) := by simp only [Vc.has, hA, hI]; rfl
  have EA : a.err = 0 := by simp only [Vc.err, hA]; rfl
  have EB : b.err = 3 := by simp only [Vc.err, hB]; rfl
  replace E1 := hold E1
  replace E2 := hold E2
  replace E3 := hold E3
  replace EA := hold EA
  replace EB := hold EB
  clear hA hB hI hab
  have HA := hold (vjoin_any a b)
  have HH := hold (vhas_any a r n)
  have HW := hold (vwithin_any a b)
  have HCA := hold (checkVector_any a)
  have HCB := hold (checkVector_any b)
  have HV := hold (vchk_any a)
  unfold Vc.val
  go_enter Try.func8, Try.ntmps8
  go_wp2_with fail
  have G : Grow w (((w.alloc (Obj.cells #[.int .i64 a.a, .int .i64 a.b] 67)).alloc (Obj.cells #[.int .i64 b.a, .int .i64 b.b] 67)).alloc (Obj.cells #[.int .i64 r, .int .i64 n] 69)) := (((Grow.refl w).alloc _).alloc _).alloc _
  have A0 : (((w.alloc (Obj.cells #[.int .i64 a.a, .int .i64 a.b] 67)).alloc (Obj.cells #[.int .i64 b.a, .int .i64 b.b] 67)).alloc (Obj.cells #[.int .i64 r, .int .i64 n] 69)).cell? ⟨w.heap.size, 0, none⟩ = some (.int .i64 a.a) := by simp [go_sem]
  have A1 : (((w.alloc (Obj.cells #[.int .i64 a.a, .int .i64 a.b] 67)).alloc (Obj.cells #[.int .i64 b.a, .int .i64 b.b] 67)).alloc (Obj.cells #[.int .i64 r, .int .i64 n] 69)).cell? ⟨w.heap.size, 1, none⟩ = some (.int .i64 a.b) := by simp [go_sem]
  have B0 : (((w.alloc (Obj.cells #[.int .i64 a.a, .int .i64 a.b] 67)).alloc (Obj.cells #[.int .i64 b.a, .int .i64 b.b] 67)).alloc (Obj.cells #[.int .i64 r, .int .i64 n] 69)).cell? ⟨w.heap.size + 1, 0, none⟩ = some (.int .i64 b.a) := by simp [go_sem]
  have B1 : (((w.alloc (Obj.cells #[.int .i64 a.a, .int .i64 a.b] 67)).alloc (Obj.cells #[.int .i64 b.a, .int .i64 b.b] 67)).alloc (Obj.cells #[.int .i64 r, .int .i64 n] 69)).cell? ⟨w.heap.size + 1, 1, none⟩ = some (.int .i64 b.b) := by simp [go_sem]
  have X0 : (((w.alloc (Obj.cells #[.int .i64 a.a, .int .i64 a.b] 67)).alloc (Obj.cells #[.int .i64 b.a, .int .i64 b.b] 67)).alloc (Obj.cells #[.int .i64 r, .int .i64 n] 69)).cell? ⟨w.heap.size + 1 + 1, 0, none⟩ = some (.int .i64 r) := by simp [go_sem]
  have X1 : (((w.alloc (Obj.cells #[.int .i64 a.a, .int .i64 a.b] 67)).alloc (Obj.cells #[.int .i64 b.a, .int .i64 b.b] 67)).alloc (Obj.cells #[.int .i64 r, .int .i64 n] 69)).cell? ⟨w.heap.size + 1 + 1, 1, none⟩ = some (.int .i64 n) := by simp [go_sem]
  generalize (((w.alloc (Obj.cells #[.int .i64 a.a, .int .i64 a.b] 67)).alloc (Obj.cells #[.int .i64 b.a, .int .i64 b.b] 67)).alloc (Obj.cells #[.int .i64 r, .int .i64 n] 69)) = W0 at *
  refine (HA.out _).mono ?_
  rw [E1.out]
  rintro e w1 ⟨rfl, g1⟩
  replace A0 := cell_grow g1 A0
  replace A1 := cell_grow g1 A1
  replace B0 := cell_grow g1 B0
  replace B1 := cell_grow g1 B1
  replace X0 := cell_grow g1 X0
  replace X1 := cell_grow g1 X1
  replace G := G.trans g1
  clear g1
  simp only [Vc.val]
  replace A0 := cell_grow ((Grow.refl w1).alloc (Obj.cells #[.int .i64 0, .int .i64 0] 67)) A0
  replace A1 := cell_grow ((Grow.refl w1).alloc (Obj.cells #[.int .i64 0, .int .i64 0] 67)) A1
  replace B0 := cell_grow ((Grow.refl w1).alloc (Obj.cells #[.int .i64 0, .int .i64 0] 67)) B0
  replace B1 := cell_grow ((Grow.refl w1).alloc (Obj.cells #[.int .i64 0, .int .i64 0] 67)) B1
  replace X0 := cell_grow ((Grow.refl w1).alloc (Obj.cells #[.int .i64 0, .int .i64 0] 67)) X0
  replace X1 := cell_grow ((Grow.refl w1).alloc (Obj.cells #[.int .i64 0, .int .i64 0] 67)) X1
  have V0 : (w1.alloc (Obj.cells #[.int .i64 0, .int .i64 0] 67)).cell? ⟨w1.heap.size, 0, none⟩ = some (.int .i64 0) := by simp
  have V1 : (w1.alloc (Obj.cells #[.int .i64 0, .int .i64 0] 67)).cell? ⟨w1.heap.size, 1, none⟩ = some (.int .i64 0) := by simp
  replace G := G.alloc (Obj.cells #[.int .i64 0, .int .i64 0] 67)
  go_wp2_with fail
  generalize (w1.alloc (Obj.cells #[.int .i64 0, .int .i64 0] 67)) = W1 at *
  refine (HH.out _).mono ?_
  rw [E2.out]
  rintro e w2 ⟨rfl, g2⟩
  replace A0 := cell_grow g2 A0
  replace A1 := cell_grow g2 A1
  replace B0 := cell_grow g2 B0
  replace B1 := cell_grow g2 B1
  replace X0 := cell_grow g2 X0
  replace X1 := cell_grow g2 X1
  replace V0 := cell_grow g2 V0
  replace V1 := cell_grow g2 V1
  replace G := G.trans g2
  clear g2
  go_wp2_with fail
  refine (HW.out _).mono ?_
  rw [E3.out]
  rintro e w3 ⟨rfl, g3⟩
  replace A0 := cell_grow g3 A0
  replace A1 := cell_grow g3 A1
  replace B0 := cell_grow g3 B0
  replace B1 := cell_grow g3 B1
  replace X0 := cell_grow g3 X0
  replace X1 := cell_grow g3 X1
  replace V0 := cell_grow g3 V0
  replace V1 := cell_grow g3 V1
  replace G := G.trans g3
  clear g3
  go_wp2_with fail
  refine (HCA.out _).mono ?_
  rw [EA.out]
  rintro e w4 ⟨rfl, g4⟩
  replace A0 := cell_grow g4 A0
  replace A1 := cell_grow g4 A1
  replace B0 := cell_grow g4 B0
  replace B1 := cell_grow g4 B1
  replace X0 := cell_grow g4 X0
  replace X1 := cell_grow g4 X1
  replace V0 := cell_grow g4 V0
  replace V1 := cell_grow g4 V1
  replace G := G.trans g4
  clear g4
  go_wp2_with fail
  refine (HCB.out _).mono ?_
  rw [EB.out]
  rintro e w5 ⟨rfl, g5⟩
  replace A0 := cell_grow g5 A0
  replace A1 := cell_grow g5 A1
  replace B0 := cell_grow g5 B0
  replace B1 := cell_grow g5 B1
  replace X0 := cell_grow g5 X0
  replace X1 := cell_grow g5 X1
  replace V0 := cell_grow g5 V0
  replace V1 := cell_grow g5 V1
  replace G := G.trans g5
  clear g5
  go_wp2_with fail
  refine (refIsId_any _ _ _).mono ?_
  rw [show isIdB r n = false from HI.out]
  rintro e w6 ⟨rfl, g6⟩
  replace A0 := cell_grow g6 A0
  replace A1 := cell_grow g6 A1
  replace B0 := cell_grow g6 B0
  replace B1 := cell_grow g6 B1
  replace X0 := cell_grow g6 X0
  replace X1 := cell_grow g6 X1
  replace V0 := cell_grow g6 V0
  replace V1 := cell_grow g6 V1
  replace G := G.trans g6
  clear g6
  replace A0 := cell_grow ((Grow.refl w6).alloc (Obj.cells #[.int .i64 0, .int .i64 0] 67)) A0
  replace A1 := cell_grow ((Grow.refl w6).alloc (Obj.cells #[.int .i64 0, .int .i64 0] 67)) A1
  replace B0 := cell_grow ((Grow.refl w6).alloc (Obj.cells #[.int .i64 0, .int .i64 0] 67)) B0
  replace B1 := cell_grow ((Grow.refl w6).alloc (Obj.cells #[.int .i64 0, .int .i64 0] 67)) B1
  replace X0 := cell_grow ((Grow.refl w6).alloc (Obj.cells #[.int .i64 0, .int .i64 0] 67)) X0
  replace X1 := cell_grow ((Grow.refl w6).alloc (Obj.cells #[.int .i64 0, .int .i64 0] 67)) X1
  replace V0 := cell_grow ((Grow.refl w6).alloc (Obj.cells #[.int .i64 0, .int .i64 0] 67)) V0
  replace V1 := cell_grow ((Grow.refl w6).alloc (Obj.cells #[.int .i64 0, .int .i64 0] 67)) V1
  have U0 : (w6.alloc (Obj.cells #[.int .i64 0, .int .i64 0] 67)).cell? ⟨w6.heap.size, 0, none⟩ = some (.int .i64 0) := by simp
  have U1 : (w6.alloc (Obj.cells #[.int .i64 0, .int .i64 0] 67)).cell? ⟨w6.heap.size, 1, none⟩ = some (.int .i64 0) := by simp
  replace G := G.alloc (Obj.cells #[.int .i64 0, .int .i64 0] 67)
  go_wp2_with fail
  generalize hW : (w6.alloc (Obj.cells #[.int .i64 0, .int .i64 0] 67)) = W6 at *
  clear hW
  have g : Grow W6 W6.drew := (Grow.refl W6).drew
  replace A0 := cell_grow g A0
  replace A1 := cell_grow g A1
  replace B0 := cell_grow g B0
  replace B1 := cell_grow g B1
  replace X0 := cell_grow g X0
  replace X1 := cell_grow g X1
  replace V0 := cell_grow g V0
  replace V1 := cell_grow g V1
  replace U0 := cell_grow g U0
  replace U1 := cell_grow g U1
  replace G := G.trans g
  clear g
  have hv := veq
  refine wp_region_path [(0, 1), (1, 0), (2, 0), (4, 0), (3, 1), (5, 2), (6, 0), (7, 0), (8, 0), (9, 0), (10, 2), (11, 0), (12, 0), (13, 0), (14, 0), (15, 2), (16, 0), (17, 0), (18, 0), (19, 0), (20, 2), (21, 0), (22, 0), (23, 0), (24, 0), (25, 2), (26, 0), (27, 0), (28, 0), (29, 0), (30, 0), (31, 0), (32, 0), (33, 2), (34, 0), (35, 2), (36, 0), (37, 0), (38, 0), (39, 0), (40, 2), (41, 0), (42, 0), (43, 0), (44, 0), (45, 2), (46, 0), (47, 0), (48, 0), (49, 0), (50, 0), (51, 2), (52, 0), (53, 0), (54, 0), (55, 0), (56, 0), (57, 0), (58, 2), (59, 0), (60, 2), (61, 0), (62, 0)] (by kernel_rfl) (by kernel_rfl) (by kernel_rfl) (by kernel_rfl) ?_
  simp only [parts, headed, headed2, List.getElem?_toArray, List.getElem?_cons_zero, List.getElem?_cons_succ]
  generalize W6.drew = Wd at *
  refine parts_step fun K HK => ?_
  go_wp2_with fail
  refine (vbegun_any _).mono ?_
  rintro e v0 ⟨rfl, hg⟩
  replace A0 := cell_grow hg A0
  replace A1 := cell_grow hg A1
  replace B0 := cell_grow hg B0
  replace B1 := cell_grow hg B1
  replace X0 := cell_grow hg X0
  replace X1 := cell_grow hg X1
  replace V0 := cell_grow hg V0
  replace V1 := cell_grow hg V1
  replace U0 := cell_grow hg U0
  replace U1 := cell_grow hg U1
  replace G := G.trans hg
  go_wp2_with fail
  refine HK.out _ _ hg ?_
  clear hg
  clear HK K
  refine parts_step fun K HK => ?_
  go_wp2_with fail
  refine (HV.out _).mono ?_
  rw [EA.out]
  rintro e v3 ⟨rfl, hg⟩
  replace A0 := cell_grow hg A0
  replace A1 := cell_grow hg A1
  replace B0 := cell_grow hg B0
  replace B1 := cell_grow hg B1
  replace X0 := cell_grow hg X0
  replace X1 := cell_grow hg X1
  replace V0 := cell_grow hg V0
  replace V1 := cell_grow hg V1
  replace U0 := cell_grow hg U0
  replace U1 := cell_grow hg U1
  replace G := G.trans hg
  go_wp2_with fail
  refine HK.out _ _ hg ?_
  clear hg
  clear HK K
  refine parts_step2 (fun hw => by first | (cases hw; done) | (apply looks_run; intro w'; go_simp; try first | rfl | rw [if_neg (by omega)])) fun K HK => ?_
  go_wp2_with fail
  refine HK.out _ _ (Grow.refl _) ?_
  clear HK K
  refine parts_step2 (fun hw => by first | (cases hw; done) | (apply looks_run; intro w'; go_simp; try first | rfl | rw [if_neg (by omega)])) fun K HK => ?_
  go_wp2_with fail
  refine HK.out _ _ (Grow.refl _) ?_
  clear HK K
  refine parts_step2 (fun hw => by first | (cases hw; done) | (apply looks_run; intro w'; go_simp; try first | rfl | rw [if_neg (by omega)])) fun K HK => ?_
  go_wp2_with fail
  refine HK.out _ _ (Grow.refl _) ?_
  clear HK K
  refine parts_step2 (fun hw => by first | (cases hw; done) | (apply looks_run; intro w'; go_simp; try first | rfl | rw [if_neg (by omega)])) fun K HK => ?_
  go_wp2_with fail
  refine HK.out _ _ (Grow.refl _) ?_
  clear HK K
  refine parts_step2 (fun hw => by first | (cases hw; done) | (apply looks_run; intro w'; go_simp; try first | rfl | rw [if_neg (by omega)])) fun K HK => ?_
  go_wp2_with fail
  refine HK.out _ _ (Grow.refl _) ?_
  clear HK K
  refine parts_step2 (fun hw => by first | (cases hw; done) | (apply looks_run; intro w'; go_simp; try first | rfl | rw [if_neg (by omega)])) fun K HK => ?_
  go_wp2_with fail
  refine HK.out _ _ (Grow.refl _) ?_
  clear HK K
  refine parts_step2 (fun hw => by first | (cases hw; done) | (apply looks_run; intro w'; go_simp; try first | rfl | rw [if_neg (by omega)])) fun K HK => ?_
  go_wp2_with fail
  refine HK.out _ _ (Grow.refl _) ?_
  clear HK K
  refine parts_step2 (fun hw => by first | (cases hw; done) | (apply looks_run; intro w'; go_simp; try first | rfl | rw [if_neg (by omega)])) fun K HK => ?_
  go_wp2_with fail
  refine HK.out _ _ (Grow.refl _) ?_
  clear HK K
  refine parts_step2 (fun hw => by first | (cases hw; done) | (apply looks_run; intro w'; go_simp; try first | rfl | rw [if_neg (by omega)])) fun K HK => ?_
  go_wp2_with fail
  refine HK.out _ _ (Grow.refl _) ?_
  clear HK K
  refine parts_step2 (fun hw => by first | (cases hw; done) | (apply looks_run; intro w'; go_simp; try first | rfl | rw [if_neg (by omega)])) fun K HK => ?_
  go_wp2_with fail
  refine HK.out _ _ (Grow.refl _) ?_
  clear HK K
  refine parts_step2 (fun hw => by first | (cases hw; done) | (apply looks_run; intro w'; go_simp; try first | rfl | rw [if_neg (by omega)])) fun K HK => ?_
  go_wp2_with fail
  refine HK.out _ _ (Grow.refl _) ?_
  clear HK K
  refine parts_step2 (fun hw => by first | (cases hw; done) | (apply looks_run; intro w'; go_simp; try first | rfl | rw [if_neg (by omega)])) fun K HK => ?_
  go_wp2_with fail
  refine HK.out _ _ (Grow.refl _) ?_
  clear HK K
  refine parts_done ?_
  go_wp2
  go_ret
  exact ⟨by first | rfl | simp, G⟩
set_option maxRecDepth 100000 in
set_option maxHeartbeats 8000000 in
theorem vt_B0 (a b : Vc) (n : Int) (w : World) (hA : a.ok = true) (hB : b.ok = false) (hI : isIdB 0 n = true) (HI : Hid (isIdB 0 n = true)) : Calls Try.prog 8 #[a.val, b.val, .agg #[.int .i64 0, .int .i64 n]] w fun e w' => e = .returned (.bool true) ∧ Grow w w' := by
  have hab : (a.ok && b.ok) = false := by rw [hA, hB]; rfl
  have E1 := vJoin_no hab
  have E3 := vIn_no hab
  have E2 : a.has 0 n = (decide (n ≤ a.a), 0) := by simp only [Vc.has, hA, hI]; rfl
  have EA : a.err = 0 := by simp only [Vc.err, hA]; rfl
  have EB : b.err = 3 := by simp only [Vc.err, hB]; rfl
  replace E1 := hold E1
  replace E2 := hold E2
  replace E3 := hold E3
  replace EA := hold EA
  replace EB := hold EB
  clear hA hB hI hab
  have HA := hold (vjoin_any a b)
  have HH := hold (vhas_any a 0 n)
  have HW := hold (vwithin_any a b)
  have HCA := hold (checkVector_any a)
  have HCB := hold (checkVector_any b)
  have HV := hold (vchk_any a)
  unfold Vc.val
  go_enter Try.func8, Try.ntmps8
  go_wp2_with fail
  have G : Grow w (((w.alloc (Obj.cells #[.int .i64 a.a, .int .i64 a.b] 67)).alloc (Obj.cells #[.int .i64 b.a, .int .i64 b.b] 67)).alloc (Obj.cells #[.int .i64 0, .int .i64 n] 69)) := (((Grow.refl w).alloc _).alloc _).alloc _
  have A0 : (((w.alloc (Obj.cells #[.int .i64 a.a, .int .i64 a.b] 67)).alloc (Obj.cells #[.int .i64 b.a, .int .i64 b.b] 67)).alloc (Obj.cells #[.int .i64 0, .int .i64 n] 69)).cell? ⟨w.heap.size, 0, none⟩ = some (.int .i64 a.a) := by simp [go_sem]
  have A1 : (((w.alloc (Obj.cells #[.int .i64 a.a, .int .i64 a.b] 67)).alloc (Obj.cells #[.int .i64 b.a, .int .i64 b.b] 67)).alloc (Obj.cells #[.int .i64 0, .int .i64 n] 69)).cell? ⟨w.heap.size, 1, none⟩ = some (.int .i64 a.b) := by simp [go_sem]
  have B0 : (((w.alloc (Obj.cells #[.int .i64 a.a, .int .i64 a.b] 67)).alloc (Obj.cells #[.int .i64 b.a, .int .i64 b.b] 67)).alloc (Obj.cells #[.int .i64 0, .int .i64 n] 69)).cell? ⟨w.heap.size + 1, 0, none⟩ = some (.int .i64 b.a) := by simp [go_sem]
  have B1 : (((w.alloc (Obj.cells #[.int .i64 a.a, .int .i64 a.b] 67)).alloc (Obj.cells #[.int .i64 b.a, .int .i64 b.b] 67)).alloc (Obj.cells #[.int .i64 0, .int .i64 n] 69)).cell? ⟨w.heap.size + 1, 1, none⟩ = some (.int .i64 b.b) := by simp [go_sem]
  have X0 : (((w.alloc (Obj.cells #[.int .i64 a.a, .int .i64 a.b] 67)).alloc (Obj.cells #[.int .i64 b.a, .int .i64 b.b] 67)).alloc (Obj.cells #[.int .i64 0, .int .i64 n] 69)).cell? ⟨w.heap.size + 1 + 1, 0, none⟩ = some (.int .i64 0) := by simp [go_sem]
  have X1 : (((w.alloc (Obj.cells #[.int .i64 a.a, .int .i64 a.b] 67)).alloc (Obj.cells #[.int .i64 b.a, .int .i64 b.b] 67)).alloc (Obj.cells #[.int .i64 0, .int .i64 n] 69)).cell? ⟨w.heap.size + 1 + 1, 1, none⟩ = some (.int .i64 n) := by simp [go_sem]
  generalize (((w.alloc (Obj.cells #[.int .i64 a.a, .int .i64 a.b] 67)).alloc (Obj.cells #[.int .i64 b.a, .int .i64 b.b] 67)).alloc (Obj.cells #[.int .i64 0, .int .i64 n] 69)) = W0 at *
  refine (HA.out _).mono ?_
  rw [E1.out]
  rintro e w1 ⟨rfl, g1⟩
  replace A0 := cell_grow g1 A0
  replace A1 := cell_grow g1 A1
  replace B0 := cell_grow g1 B0
  replace B1 := cell_grow g1 B1
  replace X0 := cell_grow g1 X0
  replace X1 := cell_grow g1 X1
  replace G := G.trans g1
  clear g1
  simp only [Vc.val]
  replace A0 := cell_grow ((Grow.refl w1).alloc (Obj.cells #[.int .i64 0, .int .i64 0] 67)) A0
  replace A1 := cell_grow ((Grow.refl w1).alloc (Obj.cells #[.int .i64 0, .int .i64 0] 67)) A1
  replace B0 := cell_grow ((Grow.refl w1).alloc (Obj.cells #[.int .i64 0, .int .i64 0] 67)) B0
  replace B1 := cell_grow ((Grow.refl w1).alloc (Obj.cells #[.int .i64 0, .int .i64 0] 67)) B1
  replace X0 := cell_grow ((Grow.refl w1).alloc (Obj.cells #[.int .i64 0, .int .i64 0] 67)) X0
  replace X1 := cell_grow ((Grow.refl w1).alloc (Obj.cells #[.int .i64 0, .int .i64 0] 67)) X1
  have V0 : (w1.alloc (Obj.cells #[.int .i64 0, .int .i64 0] 67)).cell? ⟨w1.heap.size, 0, none⟩ = some (.int .i64 0) := by simp
  have V1 : (w1.alloc (Obj.cells #[.int .i64 0, .int .i64 0] 67)).cell? ⟨w1.heap.size, 1, none⟩ = some (.int .i64 0) := by simp
  replace G := G.alloc (Obj.cells #[.int .i64 0, .int .i64 0] 67)
  go_wp2_with fail
  generalize (w1.alloc (Obj.cells #[.int .i64 0, .int .i64 0] 67)) = W1 at *
  refine (HH.out _).mono ?_
  rw [E2.out]
  rintro e w2 ⟨rfl, g2⟩
  replace A0 := cell_grow g2 A0
  replace A1 := cell_grow g2 A1
  replace B0 := cell_grow g2 B0
  replace B1 := cell_grow g2 B1
  replace X0 := cell_grow g2 X0
  replace X1 := cell_grow g2 X1
  replace V0 := cell_grow g2 V0
  replace V1 := cell_grow g2 V1
  replace G := G.trans g2
  clear g2
  go_wp2_with fail
  refine (HW.out _).mono ?_
  rw [E3.out]
  rintro e w3 ⟨rfl, g3⟩
  replace A0 := cell_grow g3 A0
  replace A1 := cell_grow g3 A1
  replace B0 := cell_grow g3 B0
  replace B1 := cell_grow g3 B1
  replace X0 := cell_grow g3 X0
  replace X1 := cell_grow g3 X1
  replace V0 := cell_grow g3 V0
  replace V1 := cell_grow g3 V1
  replace G := G.trans g3
  clear g3
  go_wp2_with fail
  refine (HCA.out _).mono ?_
  rw [EA.out]
  rintro e w4 ⟨rfl, g4⟩
  replace A0 := cell_grow g4 A0
  replace A1 := cell_grow g4 A1
  replace B0 := cell_grow g4 B0
  replace B1 := cell_grow g4 B1
  replace X0 := cell_grow g4 X0
  replace X1 := cell_grow g4 X1
  replace V0 := cell_grow g4 V0
  replace V1 := cell_grow g4 V1
  replace G := G.trans g4
  clear g4
  go_wp2_with fail
  refine (HCB.out _).mono ?_
  rw [EB.out]
  rintro e w5 ⟨rfl, g5⟩
  replace A0 := cell_grow g5 A0
  replace A1 := cell_grow g5 A1
  replace B0 := cell_grow g5 B0
  replace B1 := cell_grow g5 B1
  replace X0 := cell_grow g5 X0
  replace X1 := cell_grow g5 X1
  replace V0 := cell_grow g5 V0
  replace V1 := cell_grow g5 V1
  replace G := G.trans g5
  clear g5
  go_wp2_with fail
  refine (refIsId_any _ _ _).mono ?_
  rw [show isIdB 0 n = true from HI.out]
  rintro e w6 ⟨rfl, g6⟩
  replace A0 := cell_grow g6 A0
  replace A1 := cell_grow g6 A1
  replace B0 := cell_grow g6 B0
  replace B1 := cell_grow g6 B1
  replace X0 := cell_grow g6 X0
  replace X1 := cell_grow g6 X1
  replace V0 := cell_grow g6 V0
  replace V1 := cell_grow g6 V1
  replace G := G.trans g6
  clear g6
  replace A0 := cell_grow ((Grow.refl w6).alloc (Obj.cells #[.int .i64 0, .int .i64 0] 67)) A0
  replace A1 := cell_grow ((Grow.refl w6).alloc (Obj.cells #[.int .i64 0, .int .i64 0] 67)) A1
  replace B0 := cell_grow ((Grow.refl w6).alloc (Obj.cells #[.int .i64 0, .int .i64 0] 67)) B0
  replace B1 := cell_grow ((Grow.refl w6).alloc (Obj.cells #[.int .i64 0, .int .i64 0] 67)) B1
  replace X0 := cell_grow ((Grow.refl w6).alloc (Obj.cells #[.int .i64 0, .int .i64 0] 67)) X0
  replace X1 := cell_grow ((Grow.refl w6).alloc (Obj.cells #[.int .i64 0, .int .i64 0] 67)) X1
  replace V0 := cell_grow ((Grow.refl w6).alloc (Obj.cells #[.int .i64 0, .int .i64 0] 67)) V0
  replace V1 := cell_grow ((Grow.refl w6).alloc (Obj.cells #[.int .i64 0, .int .i64 0] 67)) V1
  have U0 : (w6.alloc (Obj.cells #[.int .i64 0, .int .i64 0] 67)).cell? ⟨w6.heap.size, 0, none⟩ = some (.int .i64 0) := by simp
  have U1 : (w6.alloc (Obj.cells #[.int .i64 0, .int .i64 0] 67)).cell? ⟨w6.heap.size, 1, none⟩ = some (.int .i64 0) := by simp
  replace G := G.alloc (Obj.cells #[.int .i64 0, .int .i64 0] 67)
  go_wp2_with fail
  generalize hW : (w6.alloc (Obj.cells #[.int .i64 0, .int .i64 0] 67)) = W6 at *
  clear hW
  have g : Grow W6 W6.drew := (Grow.refl W6).drew
  replace A0 := cell_grow g A0
  replace A1 := cell_grow g A1
  replace B0 := cell_grow g B0
  replace B1 := cell_grow g B1
  replace X0 := cell_grow g X0
  replace X1 := cell_grow g X1
  replace V0 := cell_grow g V0
  replace V1 := cell_grow g V1
  replace U0 := cell_grow g U0
  replace U1 := cell_grow g U1
  replace G := G.trans g
  clear g
  have hv := veq
  refine wp_region_path [(0, 1), (1, 0), (2, 0), (4, 0), (3, 1), (5, 2), (6, 0), (7, 0), (8, 0), (9, 0), (10, 2), (11, 0), (12, 0), (13, 0), (14, 0), (15, 2), (16, 0), (17, 0), (18, 0), (19, 0), (20, 2), (21, 0), (22, 0), (23, 0), (24, 0), (25, 2), (26, 0), (27, 0), (28, 0), (29, 0), (30, 0), (31, 0), (32, 0), (33, 2), (34, 0), (35, 2), (36, 0), (37, 0), (38, 0), (39, 0), (40, 2), (41, 0), (42, 0), (43, 0), (44, 0), (45, 2), (46, 0), (47, 0), (48, 0), (49, 0), (50, 0), (51, 2), (52, 0), (53, 0), (54, 0), (55, 0), (56, 0), (57, 0), (58, 2), (59, 0), (60, 2), (61, 0), (62, 0)] (by kernel_rfl) (by kernel_rfl) (by kernel_rfl) (by kernel_rfl) ?_
  simp only [parts, headed, headed2, List.getElem?_toArray, List.getElem?_cons_zero, List.getElem?_cons_succ]
  generalize W6.drew = Wd at *
  refine parts_step fun K HK => ?_
  go_wp2_with fail
  refine (vbegun_any _).mono ?_
  rintro e v0 ⟨rfl, hg⟩
  replace A0 := cell_grow hg A0
  replace A1 := cell_grow hg A1
  replace B0 := cell_grow hg B0
  replace B1 := cell_grow hg B1
  replace X0 := cell_grow hg X0
  replace X1 := cell_grow hg X1
  replace V0 := cell_grow hg V0
  replace V1 := cell_grow hg V1
  replace U0 := cell_grow hg U0
  replace U1 := cell_grow hg U1
  replace G := G.trans hg
  go_wp2_with fail
  refine HK.out _ _ hg ?_
  clear hg
  clear HK K
  refine parts_step fun K HK => ?_
  go_wp2_with fail
  refine (HV.out _).mono ?_
  rw [EA.out]
  rintro e v3 ⟨rfl, hg⟩
  replace A0 := cell_grow hg A0
  replace A1 := cell_grow hg A1
  replace B0 := cell_grow hg B0
  replace B1 := cell_grow hg B1
  replace X0 := cell_grow hg X0
  replace X1 := cell_grow hg X1
  replace V0 := cell_grow hg V0
  replace V1 := cell_grow hg V1
  replace U0 := cell_grow hg U0
  replace U1 := cell_grow hg U1
  replace G := G.trans hg
  go_wp2_with fail
  refine HK.out _ _ hg ?_
  clear hg
  clear HK K
  refine parts_step2 (fun hw => by first | (cases hw; done) | (apply looks_run; intro w'; go_simp; try first | rfl | rw [if_neg (by omega)])) fun K HK => ?_
  go_wp2_with fail
  refine HK.out _ _ (Grow.refl _) ?_
  clear HK K
  refine parts_step2 (fun hw => by first | (cases hw; done) | (apply looks_run; intro w'; go_simp; try first | rfl | rw [if_neg (by omega)])) fun K HK => ?_
  go_wp2_with fail
  refine HK.out _ _ (Grow.refl _) ?_
  clear HK K
  refine parts_step2 (fun hw => by first | (cases hw; done) | (apply looks_run; intro w'; go_simp; try first | rfl | rw [if_neg (by omega)])) fun K HK => ?_
  go_wp2_with fail
  refine HK.out _ _ (Grow.refl _) ?_
  clear HK K
  refine parts_step2 (fun hw => by first | (cases hw; done) | (apply looks_run; intro w'; go_simp; try first | rfl | rw [if_neg (by omega)])) fun K HK => ?_
  go_wp2_with fail
  refine HK.out _ _ (Grow.refl _) ?_
  clear HK K
  refine parts_step2 (fun hw => by first | (cases hw; done) | (apply looks_run; intro w'; go_simp; try first | rfl | rw [if_neg (by omega)])) fun K HK => ?_
  go_wp2_with fail
  refine HK.out _ _ (Grow.refl _) ?_
  clear HK K
  refine parts_step2 (fun hw => by first | (cases hw; done) | (apply looks_run; intro w'; go_simp; try first | rfl | rw [if_neg (by omega)])) fun K HK => ?_
  go_wp2_with fail
  refine HK.out _ _ (Grow.refl _) ?_
  clear HK K
  refine parts_step2 (fun hw => by first | (cases hw; done) | (apply looks_run; intro w'; go_simp; try first | rfl | rw [if_neg (by omega)])) fun K HK => ?_
  go_wp2_with fail
  refine HK.out _ _ (Grow.refl _) ?_
  clear HK K
  refine parts_step2 (fun hw => by first | (cases hw; done) | (apply looks_run; intro w'; go_simp; try first | rfl | rw [if_neg (by omega)])) fun K HK => ?_
  go_wp2_with fail
  refine HK.out _ _ (Grow.refl _) ?_
  clear HK K
  refine parts_step2 (fun hw => by first | (cases hw; done) | (apply looks_run; intro w'; go_simp; try first | rfl | rw [if_neg (by omega)])) fun K HK => ?_
  go_wp2_with fail
  refine HK.out _ _ (Grow.refl _) ?_
  clear HK K
  refine parts_step2 (fun hw => by first | (cases hw; done) | (apply looks_run; intro w'; go_simp; try first | rfl | rw [if_neg (by omega)])) fun K HK => ?_
  go_wp2_with fail
  refine HK.out _ _ (Grow.refl _) ?_
  clear HK K
  refine parts_step2 (fun hw => by first | (cases hw; done) | (apply looks_run; intro w'; go_simp; try first | rfl | rw [if_neg (by omega)])) fun K HK => ?_
  go_wp2_with fail
  refine HK.out _ _ (Grow.refl _) ?_
  clear HK K
  refine parts_step2 (fun hw => by first | (cases hw; done) | (apply looks_run; intro w'; go_simp; try first | rfl | rw [if_neg (by omega)])) fun K HK => ?_
  go_wp2_with fail
  refine HK.out _ _ (Grow.refl _) ?_
  clear HK K
  refine parts_done ?_
  go_wp2
  go_ret
  exact ⟨by first | rfl | simp, G⟩
set_option maxRecDepth 100000 in
set_option maxHeartbeats 8000000 in
theorem vt_B1 (a b : Vc) (n : Int) (w : World) (hA : a.ok = true) (hB : b.ok = false) (hI : isIdB 1 n = true) (HI : Hid (isIdB 1 n = true)) : Calls Try.prog 8 #[a.val, b.val, .agg #[.int .i64 1, .int .i64 n]] w fun e w' => e = .returned (.bool true) ∧ Grow w w' := by
  have hab : (a.ok && b.ok) = false := by rw [hA, hB]; rfl
  have E1 := vJoin_no hab
  have E3 := vIn_no hab
  have E2 : a.has 1 n = (decide (n ≤ a.b), 0) := by simp only [Vc.has, hA, hI]; rfl
  have EA : a.err = 0 := by simp only [Vc.err, hA]; rfl
  have EB : b.err = 3 := by simp only [Vc.err, hB]; rfl
  replace E1 := hold E1
  replace E2 := hold E2
  replace E3 := hold E3
  replace EA := hold EA
  replace EB := hold EB
  clear hA hB hI hab
  have HA := hold (vjoin_any a b)
  have HH := hold (vhas_any a 1 n)
  have HW := hold (vwithin_any a b)
  have HCA := hold (checkVector_any a)
  have HCB := hold (checkVector_any b)
  have HV := hold (vchk_any a)
  unfold Vc.val
  go_enter Try.func8, Try.ntmps8
  go_wp2_with fail
  have G : Grow w (((w.alloc (Obj.cells #[.int .i64 a.a, .int .i64 a.b] 67)).alloc (Obj.cells #[.int .i64 b.a, .int .i64 b.b] 67)).alloc (Obj.cells #[.int .i64 1, .int .i64 n] 69)) := (((Grow.refl w).alloc _).alloc _).alloc _
  have A0 : (((w.alloc (Obj.cells #[.int .i64 a.a, .int .i64 a.b] 67)).alloc (Obj.cells #[.int .i64 b.a, .int .i64 b.b] 67)).alloc (Obj.cells #[.int .i64 1, .int .i64 n] 69)).cell? ⟨w.heap.size, 0, none⟩ = some (.int .i64 a.a) := by simp [go_sem]
  have A1 : (((w.alloc (Obj.cells #[.int .i64 a.a, .int .i64 a.b] 67)).alloc (Obj.cells #[.int .i64 b.a, .int .i64 b.b] 67)).alloc (Obj.cells #[.int .i64 1, .int .i64 n] 69)).cell? ⟨w.heap.size, 1, none⟩ = some (.int .i64 a.b) := by simp [go_sem]
  have B0 : (((w.alloc (Obj.cells #[.int .i64 a.a, .int .i64 a.b] 67)).alloc (Obj.cells #[.int .i64 b.a, .int .i64 b.b] 67)).alloc (Obj.cells #[.int .i64 1, .int .i64 n] 69)).cell? ⟨w.heap.size + 1, 0, none⟩ = some (.int .i64 b.a) := by simp [go_sem]
  have B1 : (((w.alloc (Obj.cells #[.int .i64 a.a, .int .i64 a.b] 67)).alloc (Obj.cells #[.int .i64 b.a, .int .i64 b.b] 67)).alloc (Obj.cells #[.int .i64 1, .int .i64 n] 69)).cell? ⟨w.heap.size + 1, 1, none⟩ = some (.int .i64 b.b) := by simp [go_sem]
  have X0 : (((w.alloc (Obj.cells #[.int .i64 a.a, .int .i64 a.b] 67)).alloc (Obj.cells #[.int .i64 b.a, .int .i64 b.b] 67)).alloc (Obj.cells #[.int .i64 1, .int .i64 n] 69)).cell? ⟨w.heap.size + 1 + 1, 0, none⟩ = some (.int .i64 1) := by simp [go_sem]
  have X1 : (((w.alloc (Obj.cells #[.int .i64 a.a, .int .i64 a.b] 67)).alloc (Obj.cells #[.int .i64 b.a, .int .i64 b.b] 67)).alloc (Obj.cells #[.int .i64 1, .int .i64 n] 69)).cell? ⟨w.heap.size + 1 + 1, 1, none⟩ = some (.int .i64 n) := by simp [go_sem]
  generalize (((w.alloc (Obj.cells #[.int .i64 a.a, .int .i64 a.b] 67)).alloc (Obj.cells #[.int .i64 b.a, .int .i64 b.b] 67)).alloc (Obj.cells #[.int .i64 1, .int .i64 n] 69)) = W0 at *
  refine (HA.out _).mono ?_
  rw [E1.out]
  rintro e w1 ⟨rfl, g1⟩
  replace A0 := cell_grow g1 A0
  replace A1 := cell_grow g1 A1
  replace B0 := cell_grow g1 B0
  replace B1 := cell_grow g1 B1
  replace X0 := cell_grow g1 X0
  replace X1 := cell_grow g1 X1
  replace G := G.trans g1
  clear g1
  simp only [Vc.val]
  replace A0 := cell_grow ((Grow.refl w1).alloc (Obj.cells #[.int .i64 0, .int .i64 0] 67)) A0
  replace A1 := cell_grow ((Grow.refl w1).alloc (Obj.cells #[.int .i64 0, .int .i64 0] 67)) A1
  replace B0 := cell_grow ((Grow.refl w1).alloc (Obj.cells #[.int .i64 0, .int .i64 0] 67)) B0
  replace B1 := cell_grow ((Grow.refl w1).alloc (Obj.cells #[.int .i64 0, .int .i64 0] 67)) B1
  replace X0 := cell_grow ((Grow.refl w1).alloc (Obj.cells #[.int .i64 0, .int .i64 0] 67)) X0
  replace X1 := cell_grow ((Grow.refl w1).alloc (Obj.cells #[.int .i64 0, .int .i64 0] 67)) X1
  have V0 : (w1.alloc (Obj.cells #[.int .i64 0, .int .i64 0] 67)).cell? ⟨w1.heap.size, 0, none⟩ = some (.int .i64 0) := by simp
  have V1 : (w1.alloc (Obj.cells #[.int .i64 0, .int .i64 0] 67)).cell? ⟨w1.heap.size, 1, none⟩ = some (.int .i64 0) := by simp
  replace G := G.alloc (Obj.cells #[.int .i64 0, .int .i64 0] 67)
  go_wp2_with fail
  generalize (w1.alloc (Obj.cells #[.int .i64 0, .int .i64 0] 67)) = W1 at *
  refine (HH.out _).mono ?_
  rw [E2.out]
  rintro e w2 ⟨rfl, g2⟩
  replace A0 := cell_grow g2 A0
  replace A1 := cell_grow g2 A1
  replace B0 := cell_grow g2 B0
  replace B1 := cell_grow g2 B1
  replace X0 := cell_grow g2 X0
  replace X1 := cell_grow g2 X1
  replace V0 := cell_grow g2 V0
  replace V1 := cell_grow g2 V1
  replace G := G.trans g2
  clear g2
  go_wp2_with fail
  refine (HW.out _).mono ?_
  rw [E3.out]
  rintro e w3 ⟨rfl, g3⟩
  replace A0 := cell_grow g3 A0
  replace A1 := cell_grow g3 A1
  replace B0 := cell_grow g3 B0
  replace B1 := cell_grow g3 B1
  replace X0 := cell_grow g3 X0
  replace X1 := cell_grow g3 X1
  replace V0 := cell_grow g3 V0
  replace V1 := cell_grow g3 V1
  replace G := G.trans g3
  clear g3
  go_wp2_with fail
  refine (HCA.out _).mono ?_
  rw [EA.out]
  rintro e w4 ⟨rfl, g4⟩
  replace A0 := cell_grow g4 A0
  replace A1 := cell_grow g4 A1
  replace B0 := cell_grow g4 B0
  replace B1 := cell_grow g4 B1
  replace X0 := cell_grow g4 X0
  replace X1 := cell_grow g4 X1
  replace V0 := cell_grow g4 V0
  replace V1 := cell_grow g4 V1
  replace G := G.trans g4
  clear g4
  go_wp2_with fail
  refine (HCB.out _).mono ?_
  rw [EB.out]
  rintro e w5 ⟨rfl, g5⟩
  replace A0 := cell_grow g5 A0
  replace A1 := cell_grow g5 A1
  replace B0 := cell_grow g5 B0
  replace B1 := cell_grow g5 B1
  replace X0 := cell_grow g5 X0
  replace X1 := cell_grow g5 X1
  replace V0 := cell_grow g5 V0
  replace V1 := cell_grow g5 V1
  replace G := G.trans g5
  clear g5
  go_wp2_with fail
  refine (refIsId_any _ _ _).mono ?_
  rw [show isIdB 1 n = true from HI.out]
  rintro e w6 ⟨rfl, g6⟩
  replace A0 := cell_grow g6 A0
  replace A1 := cell_grow g6 A1
  replace B0 := cell_grow g6 B0
  replace B1 := cell_grow g6 B1
  replace X0 := cell_grow g6 X0
  replace X1 := cell_grow g6 X1
  replace V0 := cell_grow g6 V0
  replace V1 := cell_grow g6 V1
  replace G := G.trans g6
  clear g6
  replace A0 := cell_grow ((Grow.refl w6).alloc (Obj.cells #[.int .i64 0, .int .i64 0] 67)) A0
  replace A1 := cell_grow ((Grow.refl w6).alloc (Obj.cells #[.int .i64 0, .int .i64 0] 67)) A1
  replace B0 := cell_grow ((Grow.refl w6).alloc (Obj.cells #[.int .i64 0, .int .i64 0] 67)) B0
  replace B1 := cell_grow ((Grow.refl w6).alloc (Obj.cells #[.int .i64 0, .int .i64 0] 67)) B1
  replace X0 := cell_grow ((Grow.refl w6).alloc (Obj.cells #[.int .i64 0, .int .i64 0] 67)) X0
  replace X1 := cell_grow ((Grow.refl w6).alloc (Obj.cells #[.int .i64 0, .int .i64 0] 67)) X1
  replace V0 := cell_grow ((Grow.refl w6).alloc (Obj.cells #[.int .i64 0, .int .i64 0] 67)) V0
  replace V1 := cell_grow ((Grow.refl w6).alloc (Obj.cells #[.int .i64 0, .int .i64 0] 67)) V1
  have U0 : (w6.alloc (Obj.cells #[.int .i64 0, .int .i64 0] 67)).cell? ⟨w6.heap.size, 0, none⟩ = some (.int .i64 0) := by simp
  have U1 : (w6.alloc (Obj.cells #[.int .i64 0, .int .i64 0] 67)).cell? ⟨w6.heap.size, 1, none⟩ = some (.int .i64 0) := by simp
  replace G := G.alloc (Obj.cells #[.int .i64 0, .int .i64 0] 67)
  go_wp2_with fail
  generalize hW : (w6.alloc (Obj.cells #[.int .i64 0, .int .i64 0] 67)) = W6 at *
  clear hW
  have g : Grow W6 W6.drew := (Grow.refl W6).drew
  replace A0 := cell_grow g A0
  replace A1 := cell_grow g A1
  replace B0 := cell_grow g B0
  replace B1 := cell_grow g B1
  replace X0 := cell_grow g X0
  replace X1 := cell_grow g X1
  replace V0 := cell_grow g V0
  replace V1 := cell_grow g V1
  replace U0 := cell_grow g U0
  replace U1 := cell_grow g U1
  replace G := G.trans g
  clear g
  have hv := veq
  refine wp_region_path [(0, 1), (1, 0), (2, 0), (4, 0), (3, 1), (5, 2), (6, 0), (7, 0), (8, 0), (9, 0), (10, 2), (11, 0), (12, 0), (13, 0), (14, 0), (15, 2), (16, 0), (17, 0), (18, 0), (19, 0), (20, 2), (21, 0), (22, 0), (23, 0), (24, 0), (25, 2), (26, 0), (27, 0), (28, 0), (29, 0), (30, 0), (31, 0), (32, 0), (33, 2), (34, 0), (35, 2), (36, 0), (37, 0), (38, 0), (39, 0), (40, 2), (41, 0), (42, 0), (43, 0), (44, 0), (45, 2), (46, 0), (47, 0), (48, 0), (49, 0), (50, 0), (51, 2), (52, 0), (53, 0), (54, 0), (55, 0), (56, 0), (57, 0), (58, 2), (59, 0), (60, 2), (61, 0), (62, 0)] (by kernel_rfl) (by kernel_rfl) (by kernel_rfl) (by kernel_rfl) ?_
  simp only [parts, headed, headed2, List.getElem?_toArray, List.getElem?_cons_zero, List.getElem?_cons_succ]
  generalize W6.drew = Wd at *
  refine parts_step fun K HK => ?_
  go_wp2_with fail
  refine (vbegun_any _).mono ?_
  rintro e v0 ⟨rfl, hg⟩
  replace A0 := cell_grow hg A0
  replace A1 := cell_grow hg A1
  replace B0 := cell_grow hg B0
  replace B1 := cell_grow hg B1
  replace X0 := cell_grow hg X0
  replace X1 := cell_grow hg X1
  replace V0 := cell_grow hg V0
  replace V1 := cell_grow hg V1
  replace U0 := cell_grow hg U0
  replace U1 := cell_grow hg U1
  replace G := G.trans hg
  go_wp2_with fail
  refine HK.out _ _ hg ?_
  clear hg
  clear HK K
  refine parts_step fun K HK => ?_
  go_wp2_with fail
  refine (HV.out _).mono ?_
  rw [EA.out]
  rintro e v3 ⟨rfl, hg⟩
  replace A0 := cell_grow hg A0
  replace A1 := cell_grow hg A1
  replace B0 := cell_grow hg B0
  replace B1 := cell_grow hg B1
  replace X0 := cell_grow hg X0
  replace X1 := cell_grow hg X1
  replace V0 := cell_grow hg V0
  replace V1 := cell_grow hg V1
  replace U0 := cell_grow hg U0
  replace U1 := cell_grow hg U1
  replace G := G.trans hg
  go_wp2_with fail
  refine HK.out _ _ hg ?_
  clear hg
  clear HK K
  refine parts_step2 (fun hw => by first | (cases hw; done) | (apply looks_run; intro w'; go_simp; try first | rfl | rw [if_neg (by omega)])) fun K HK => ?_
  go_wp2_with fail
  refine HK.out _ _ (Grow.refl _) ?_
  clear HK K
  refine parts_step2 (fun hw => by first | (cases hw; done) | (apply looks_run; intro w'; go_simp; try first | rfl | rw [if_neg (by omega)])) fun K HK => ?_
  go_wp2_with fail
  refine HK.out _ _ (Grow.refl _) ?_
  clear HK K
  refine parts_step2 (fun hw => by first | (cases hw; done) | (apply looks_run; intro w'; go_simp; try first | rfl | rw [if_neg (by omega)])) fun K HK => ?_
  go_wp2_with fail
  refine HK.out _ _ (Grow.refl _) ?_
  clear HK K
  refine parts_step2 (fun hw => by first | (cases hw; done) | (apply looks_run; intro w'; go_simp; try first | rfl | rw [if_neg (by omega)])) fun K HK => ?_
  go_wp2_with fail
  refine HK.out _ _ (Grow.refl _) ?_
  clear HK K
  refine parts_step2 (fun hw => by first | (cases hw; done) | (apply looks_run; intro w'; go_simp; try first | rfl | rw [if_neg (by omega)])) fun K HK => ?_
  go_wp2_with fail
  refine HK.out _ _ (Grow.refl _) ?_
  clear HK K
  refine parts_step2 (fun hw => by first | (cases hw; done) | (apply looks_run; intro w'; go_simp; try first | rfl | rw [if_neg (by omega)])) fun K HK => ?_
  go_wp2_with fail
  refine HK.out _ _ (Grow.refl _) ?_
  clear HK K
  refine parts_step2 (fun hw => by first | (cases hw; done) | (apply looks_run; intro w'; go_simp; try first | rfl | rw [if_neg (by omega)])) fun K HK => ?_
  go_wp2_with fail
  refine HK.out _ _ (Grow.refl _) ?_
  clear HK K
  refine parts_step2 (fun hw => by first | (cases hw; done) | (apply looks_run; intro w'; go_simp; try first | rfl | rw [if_neg (by omega)])) fun K HK => ?_
  go_wp2_with fail
  refine HK.out _ _ (Grow.refl _) ?_
  clear HK K
  refine parts_step2 (fun hw => by first | (cases hw; done) | (apply looks_run; intro w'; go_simp; try first | rfl | rw [if_neg (by omega)])) fun K HK => ?_
  go_wp2_with fail
  refine HK.out _ _ (Grow.refl _) ?_
  clear HK K
  refine parts_step2 (fun hw => by first | (cases hw; done) | (apply looks_run; intro w'; go_simp; try first | rfl | rw [if_neg (by omega)])) fun K HK => ?_
  go_wp2_with fail
  refine HK.out _ _ (Grow.refl _) ?_
  clear HK K
  refine parts_step2 (fun hw => by first | (cases hw; done) | (apply looks_run; intro w'; go_simp; try first | rfl | rw [if_neg (by omega)])) fun K HK => ?_
  go_wp2_with fail
  refine HK.out _ _ (Grow.refl _) ?_
  clear HK K
  refine parts_step2 (fun hw => by first | (cases hw; done) | (apply looks_run; intro w'; go_simp; try first | rfl | rw [if_neg (by omega)])) fun K HK => ?_
  go_wp2_with fail
  refine HK.out _ _ (Grow.refl _) ?_
  clear HK K
  refine parts_done ?_
  go_wp2
  go_ret
  exact ⟨by first | rfl | simp, G⟩
set_option maxRecDepth 100000 in
set_option maxHeartbeats 8000000 in
theorem vt_DX (a b : Vc) (r n : Int) (w : World) (hA : a.ok = true) (hB : b.ok = true) (hI : isIdB r n = false) (HI : Hid (isIdB r n = false)) : Calls Try.prog 8 #[a.val, b.val, .agg #[.int .i64 r, .int .i64 n]] w fun e w' => e = .returned (.bool true) ∧ Grow w w' := by
  have hab : (a.ok && b.ok) = true := by rw [hA, hB]; rfl
  have E1 := vJoin_ok hab
  have E3 := vIn_ok hab
  have E2 : a.has r n = (false, 3) := by simp only [Vc.has, hA, hI]; rfl
  have EA : a.err = 0 := by simp only [Vc.err, hA]; rfl
  have EB : b.err = 0 := by simp only [Vc.err, hB]; rfl
  generalize hJ : (⟨max a.a b.a, max a.b b.b⟩ : Vc) = J at E1
  have HJ := hold hJ
  clear hJ
  replace E1 := hold E1
  replace E2 := hold E2
  replace E3 := hold E3
  replace EA := hold EA
  replace EB := hold EB
  clear hA hB hI hab
  have HA := hold (vjoin_any a b)
  have HH := hold (vhas_any a r n)
  have HW := hold (vwithin_any a b)
  have HCA := hold (checkVector_any a)
  have HCB := hold (checkVector_any b)
  have HV := hold (vchk_any a)
  unfold Vc.val
  go_enter Try.func8, Try.ntmps8
  go_wp2_with fail
  have G : Grow w (((w.alloc (Obj.cells #[.int .i64 a.a, .int .i64 a.b] 67)).alloc (Obj.cells #[.int .i64 b.a, .int .i64 b.b] 67)).alloc (Obj.cells #[.int .i64 r, .int .i64 n] 69)) := (((Grow.refl w).alloc _).alloc _).alloc _
  have A0 : (((w.alloc (Obj.cells #[.int .i64 a.a, .int .i64 a.b] 67)).alloc (Obj.cells #[.int .i64 b.a, .int .i64 b.b] 67)).alloc (Obj.cells #[.int .i64 r, .int .i64 n] 69)).cell? ⟨w.heap.size, 0, none⟩ = some (.int .i64 a.a) := by simp [go_sem]
  have A1 : (((w.alloc (Obj.cells #[.int .i64 a.a, .int .i64 a.b] 67)).alloc (Obj.cells #[.int .i64 b.a, .int .i64 b.b] 67)).alloc (Obj.cells #[.int .i64 r, .int .i64 n] 69)).cell? ⟨w.heap.size, 1, none⟩ = some (.int .i64 a.b) := by simp [go_sem]
  have B0 : (((w.alloc (Obj.cells #[.int .i64 a.a, .int .i64 a.b] 67)).alloc (Obj.cells #[.int .i64 b.a, .int .i64 b.b] 67)).alloc (Obj.cells #[.int .i64 r, .int .i64 n] 69)).cell? ⟨w.heap.size + 1, 0, none⟩ = some (.int .i64 b.a) := by simp [go_sem]
  have B1 : (((w.alloc (Obj.cells #[.int .i64 a.a, .int .i64 a.b] 67)).alloc (Obj.cells #[.int .i64 b.a, .int .i64 b.b] 67)).alloc (Obj.cells #[.int .i64 r, .int .i64 n] 69)).cell? ⟨w.heap.size + 1, 1, none⟩ = some (.int .i64 b.b) := by simp [go_sem]
  have X0 : (((w.alloc (Obj.cells #[.int .i64 a.a, .int .i64 a.b] 67)).alloc (Obj.cells #[.int .i64 b.a, .int .i64 b.b] 67)).alloc (Obj.cells #[.int .i64 r, .int .i64 n] 69)).cell? ⟨w.heap.size + 1 + 1, 0, none⟩ = some (.int .i64 r) := by simp [go_sem]
  have X1 : (((w.alloc (Obj.cells #[.int .i64 a.a, .int .i64 a.b] 67)).alloc (Obj.cells #[.int .i64 b.a, .int .i64 b.b] 67)).alloc (Obj.cells #[.int .i64 r, .int .i64 n] 69)).cell? ⟨w.heap.size + 1 + 1, 1, none⟩ = some (.int .i64 n) := by simp [go_sem]
  generalize (((w.alloc (Obj.cells #[.int .i64 a.a, .int .i64 a.b] 67)).alloc (Obj.cells #[.int .i64 b.a, .int .i64 b.b] 67)).alloc (Obj.cells #[.int .i64 r, .int .i64 n] 69)) = W0 at *
  refine (HA.out _).mono ?_
  rw [E1.out]
  rintro e w1 ⟨rfl, g1⟩
  replace A0 := cell_grow g1 A0
  replace A1 := cell_grow g1 A1
  replace B0 := cell_grow g1 B0
  replace B1 := cell_grow g1 B1
  replace X0 := cell_grow g1 X0
  replace X1 := cell_grow g1 X1
  replace G := G.trans g1
  clear g1
  simp only [Vc.val]
  replace A0 := cell_grow ((Grow.refl w1).alloc (Obj.cells #[.int .i64 J.a, .int .i64 J.b] 67)) A0
  replace A1 := cell_grow ((Grow.refl w1).alloc (Obj.cells #[.int .i64 J.a, .int .i64 J.b] 67)) A1
  replace B0 := cell_grow ((Grow.refl w1).alloc (Obj.cells #[.int .i64 J.a, .int .i64 J.b] 67)) B0
  replace B1 := cell_grow ((Grow.refl w1).alloc (Obj.cells #[.int .i64 J.a, .int .i64 J.b] 67)) B1
  replace X0 := cell_grow ((Grow.refl w1).alloc (Obj.cells #[.int .i64 J.a, .int .i64 J.b] 67)) X0
  replace X1 := cell_grow ((Grow.refl w1).alloc (Obj.cells #[.int .i64 J.a, .int .i64 J.b] 67)) X1
  have V0 : (w1.alloc (Obj.cells #[.int .i64 J.a, .int .i64 J.b] 67)).cell? ⟨w1.heap.size, 0, none⟩ = some (.int .i64 J.a) := by simp
  have V1 : (w1.alloc (Obj.cells #[.int .i64 J.a, .int .i64 J.b] 67)).cell? ⟨w1.heap.size, 1, none⟩ = some (.int .i64 J.b) := by simp
  replace G := G.alloc (Obj.cells #[.int .i64 J.a, .int .i64 J.b] 67)
  go_wp2_with fail
  generalize (w1.alloc (Obj.cells #[.int .i64 J.a, .int .i64 J.b] 67)) = W1 at *
  refine (HH.out _).mono ?_
  rw [E2.out]
  rintro e w2 ⟨rfl, g2⟩
  replace A0 := cell_grow g2 A0
  replace A1 := cell_grow g2 A1
  replace B0 := cell_grow g2 B0
  replace B1 := cell_grow g2 B1
  replace X0 := cell_grow g2 X0
  replace X1 := cell_grow g2 X1
  replace V0 := cell_grow g2 V0
  replace V1 := cell_grow g2 V1
  replace G := G.trans g2
  clear g2
  go_wp2_with fail
  refine (HW.out _).mono ?_
  rw [E3.out]
  rintro e w3 ⟨rfl, g3⟩
  replace A0 := cell_grow g3 A0
  replace A1 := cell_grow g3 A1
  replace B0 := cell_grow g3 B0
  replace B1 := cell_grow g3 B1
  replace X0 := cell_grow g3 X0
  replace X1 := cell_grow g3 X1
  replace V0 := cell_grow g3 V0
  replace V1 := cell_grow g3 V1
  replace G := G.trans g3
  clear g3
  go_wp2_with fail
  refine (HCA.out _).mono ?_
  rw [EA.out]
  rintro e w4 ⟨rfl, g4⟩
  replace A0 := cell_grow g4 A0
  replace A1 := cell_grow g4 A1
  replace B0 := cell_grow g4 B0
  replace B1 := cell_grow g4 B1
  replace X0 := cell_grow g4 X0
  replace X1 := cell_grow g4 X1
  replace V0 := cell_grow g4 V0
  replace V1 := cell_grow g4 V1
  replace G := G.trans g4
  clear g4
  go_wp2_with fail
  refine (HCB.out _).mono ?_
  rw [EB.out]
  rintro e w5 ⟨rfl, g5⟩
  replace A0 := cell_grow g5 A0
  replace A1 := cell_grow g5 A1
  replace B0 := cell_grow g5 B0
  replace B1 := cell_grow g5 B1
  replace X0 := cell_grow g5 X0
  replace X1 := cell_grow g5 X1
  replace V0 := cell_grow g5 V0
  replace V1 := cell_grow g5 V1
  replace G := G.trans g5
  clear g5
  go_wp2_with fail
  refine (refIsId_any _ _ _).mono ?_
  rw [show isIdB r n = false from HI.out]
  rintro e w6 ⟨rfl, g6⟩
  replace A0 := cell_grow g6 A0
  replace A1 := cell_grow g6 A1
  replace B0 := cell_grow g6 B0
  replace B1 := cell_grow g6 B1
  replace X0 := cell_grow g6 X0
  replace X1 := cell_grow g6 X1
  replace V0 := cell_grow g6 V0
  replace V1 := cell_grow g6 V1
  replace G := G.trans g6
  clear g6
  have sA0 := hold A0
  have sA1 := hold A1
  have sB0 := hold B0
  have sB1 := hold B1
  have sX0 := hold X0
  have sX1 := hold X1
  have sV0 := hold V0
  have sV1 := hold V1
  have GG := hold G
  replace A0 := cell_grow ((Grow.refl w6).alloc (Obj.cells #[.int .i64 0, .int .i64 0] 67)) A0
  replace A1 := cell_grow ((Grow.refl w6).alloc (Obj.cells #[.int .i64 0, .int .i64 0] 67)) A1
  replace B0 := cell_grow ((Grow.refl w6).alloc (Obj.cells #[.int .i64 0, .int .i64 0] 67)) B0
  replace B1 := cell_grow ((Grow.refl w6).alloc (Obj.cells #[.int .i64 0, .int .i64 0] 67)) B1
  replace X0 := cell_grow ((Grow.refl w6).alloc (Obj.cells #[.int .i64 0, .int .i64 0] 67)) X0
  replace X1 := cell_grow ((Grow.refl w6).alloc (Obj.cells #[.int .i64 0, .int .i64 0] 67)) X1
  replace V0 := cell_grow ((Grow.refl w6).alloc (Obj.cells #[.int .i64 0, .int .i64 0] 67)) V0
  replace V1 := cell_grow ((Grow.refl w6).alloc (Obj.cells #[.int .i64 0, .int .i64 0] 67)) V1
  have U0 : (w6.alloc (Obj.cells #[.int .i64 0, .int .i64 0] 67)).cell? ⟨w6.heap.size, 0, none⟩ = some (.int .i64 0) := by simp
  have U1 : (w6.alloc (Obj.cells #[.int .i64 0, .int .i64 0] 67)).cell? ⟨w6.heap.size, 1, none⟩ = some (.int .i64 0) := by simp
  replace G := G.alloc (Obj.cells #[.int .i64 0, .int .i64 0] 67)
  go_wp2_with fail
  clear G A0 A1 B0 B1 X0 X1 V0 V1 U0 U1
  go_loopw [17] (fun i wr => ∃ k : Nat, k ≤ 2 ∧ i = .int .i64 k ∧ Grow w6 wr ∧ wr.heap[w6.heap.size]? = some (.cells #[.int .i64 (if 1 ≤ k then J.a else a.a), .int .i64 (if 2 ≤ k then J.b else a.b)] 67 (0, 0))) (fun i _ => 2 - (intOf i).toNat)
  case atStart => exact ⟨0, by omega, rfl, (Grow.refl _).alloc _, heap_alloc_new _ _⟩
  case round =>
    obtain ⟨k, hk, rfl, hg, hu⟩ := hrel
    have A0 := cell_grow hg sA0.out
    have A1 := cell_grow hg sA1.out
    have B0 := cell_grow hg sB0.out
    have B1 := cell_grow hg sB1.out
    have X0 := cell_grow hg sX0.out
    have X1 := cell_grow hg sX1.out
    have V0 := cell_grow hg sV0.out
    have V1 := cell_grow hg sV1.out
    have HU := hold hu
    clear hu
    have hJa : J.a = max a.a b.a := by rw [← HJ.out]
    have hJb : J.b = max a.b b.b := by rw [← HJ.out]
    have HJa := hold hJa
    have HJb := hold hJb
    clear hJa hJb
    match k, hk, hg, HU with
    | 0, _, hg, HU =>
      have U0 := cell_of_block (o := 0) HU.out rfl
      have U1 := cell_of_block (o := 1) HU.out rfl
      have fU := free_of_block HU.out 0
      simp at U0 U1
      by_cases hc : a.a < b.a
      · have hc' : decide (a.a < b.a) = true := by simpa using hc
        have HE : Hid (J.a = b.a) := show J.a = _ by rw [HJa.out]; omega
        clear hc
        go_wp2_with fail
        have hgd := hold hg
        refine wp_region_path [(0, 0), (1, 0), (2, 0), (3, 0), (4, 0), (5, 0), (6, 2)] (by kernel_rfl) (by kernel_rfl) (by kernel_rfl) (by kernel_rfl) ?_
        simp only [parts, headed, headed2, List.getElem?_toArray, List.getElem?_cons_zero, List.getElem?_cons_succ]
        refine parts_step fun K HK => ?_
        go_wp2_with fail
        refine HK.out _ _ (Grow.refl _) ?_
        clear HK K
        refine parts_step2 (fun hw => by first | (cases hw; done) | (apply looks_run; intro w'; go_simp; try first | rfl | rw [if_neg (by omega)])) fun K HK => ?_
        go_wp2_with fail
        refine HK.out _ _ (Grow.refl _) ?_
        clear HK K
        refine parts_done ?_
        go_wp2
        go_roundw
        case rel => exact ⟨1, by omega, rfl, (hgd.out.drew).setCell (Nat.le_refl _) _, by have h := block_set (o := 0) (v := .int .i64 b.a) HU.out; have e : ∀ u : World, u.drew.heap = u.heap := fun _ => rfl; rw [e]; simpa [HE.out] using h⟩
        case measure => simp [intOf]
      · have hc' : decide (a.a < b.a) = false := by simpa using hc
        have HE : Hid (J.a = a.a) := show J.a = _ by rw [HJa.out]; omega
        clear hc
        go_wp2_with fail
        have hgd := hold hg
        refine wp_region_path [(0, 0), (1, 0), (2, 0), (3, 0), (4, 0), (5, 0), (6, 2)] (by kernel_rfl) (by kernel_rfl) (by kernel_rfl) (by kernel_rfl) ?_
        simp only [parts, headed, headed2, List.getElem?_toArray, List.getElem?_cons_zero, List.getElem?_cons_succ]
        refine parts_step fun K HK => ?_
        go_wp2_with fail
        refine HK.out _ _ (Grow.refl _) ?_
        clear HK K
        refine parts_step2 (fun hw => by first | (cases hw; done) | (apply looks_run; intro w'; go_simp; try first | rfl | rw [if_neg (by omega)])) fun K HK => ?_
        go_wp2_with fail
        refine HK.out _ _ (Grow.refl _) ?_
        clear HK K
        refine parts_done ?_
        go_wp2
        go_roundw
        case rel => exact ⟨1, by omega, rfl, hgd.out.drew, by have h := HU.out; have e : ∀ u : World, u.drew.heap = u.heap := fun _ => rfl; rw [e]; simpa [HE.out] using h⟩
        case measure => simp [intOf]
    | 1, _, hg, HU =>
      have U0 := cell_of_block (o := 0) HU.out rfl
      have U1 := cell_of_block (o := 1) HU.out rfl
      have fU := free_of_block HU.out 1
      simp at U0 U1
      by_cases hc : a.b < b.b
      · have hc' : decide (a.b < b.b) = true := by simpa using hc
        have HE : Hid (J.b = b.b) := show J.b = _ by rw [HJb.out]; omega
        clear hc
        go_wp2_with fail
        have hgd := hold hg
        refine wp_region_path [(0, 0), (1, 0), (2, 0), (3, 0), (4, 0), (5, 0), (6, 2)] (by kernel_rfl) (by kernel_rfl) (by kernel_rfl) (by kernel_rfl) ?_
        simp only [parts, headed, headed2, List.getElem?_toArray, List.getElem?_cons_zero, List.getElem?_cons_succ]
        refine parts_step fun K HK => ?_
        go_wp2_with fail
        refine HK.out _ _ (Grow.refl _) ?_
        clear HK K
        refine parts_step2 (fun hw => by first | (cases hw; done) | (apply looks_run; intro w'; go_simp; try first | rfl | rw [if_neg (by omega)])) fun K HK => ?_
        go_wp2_with fail
        refine HK.out _ _ (Grow.refl _) ?_
        clear HK K
        refine parts_done ?_
        go_wp2
        go_roundw
        case rel => exact ⟨2, by omega, rfl, (hgd.out.drew).setCell (Nat.le_refl _) _, by have h := block_set (o := 1) (v := .int .i64 b.b) HU.out; have e : ∀ u : World, u.drew.heap = u.heap := fun _ => rfl; rw [e]; simpa [HE.out] using h⟩
        case measure => simp [intOf]
      · have hc' : decide (a.b < b.b) = false := by simpa using hc
        have HE : Hid (J.b = a.b) := show J.b = _ by rw [HJb.out]; omega
        clear hc
        go_wp2_with fail
        have hgd := hold hg
        refine wp_region_path [(0, 0), (1, 0), (2, 0), (3, 0), (4, 0), (5, 0), (6, 2)] (by kernel_rfl) (by kernel_rfl) (by kernel_rfl) (by kernel_rfl) ?_
        simp only [parts, headed, headed2, List.getElem?_toArray, List.getElem?_cons_zero, List.getElem?_cons_succ]
        refine parts_step fun K HK => ?_
        go_wp2_with fail
        refine HK.out _ _ (Grow.refl _) ?_
        clear HK K
        refine parts_step2 (fun hw => by first | (cases hw; done) | (apply looks_run; intro w'; go_simp; try first | rfl | rw [if_neg (by omega)])) fun K HK => ?_
        go_wp2_with fail
        refine HK.out _ _ (Grow.refl _) ?_
        clear HK K
        refine parts_done ?_
        go_wp2
        go_roundw
        case rel => exact ⟨2, by omega, rfl, hgd.out.drew, by have h := HU.out; have e : ∀ u : World, u.drew.heap = u.heap := fun _ => rfl; rw [e]; simpa [HE.out] using h⟩
        case measure => simp [intOf]
    | 2, _, hg, HU =>
      have G := GG.out.trans hg
      have U0 := cell_of_block (o := 0) HU.out rfl
      have U1 := cell_of_block (o := 1) HU.out rfl
      simp at U0 U1
      clear HU HJa HJb hg GG sA0 sA1 sB0 sB1 sX0 sX1 sV0 sV1
      go_wp2_with fail
      have g : Grow wr wr.drew := (Grow.refl wr).drew
      replace A0 := cell_grow g A0
      replace A1 := cell_grow g A1
      replace B0 := cell_grow g B0
      replace B1 := cell_grow g B1
      replace X0 := cell_grow g X0
      replace X1 := cell_grow g X1
      replace V0 := cell_grow g V0
      replace V1 := cell_grow g V1
      replace U0 := cell_grow g U0
      replace U1 := cell_grow g U1
      replace G := G.trans g
      clear g
      have hv := veq
      cases h1 : decide (a.a ≤ b.a)
      all_goals
        refine wp_region_path [(0, 1), (1, 0), (2, 0), (4, 0), (3, 1), (5, 2), (6, 0), (7, 0), (8, 0), (9, 0), (10, 2), (11, 0), (12, 0), (13, 0), (14, 0), (15, 2), (16, 0), (17, 0), (18, 0), (19, 0), (20, 2), (21, 0), (22, 0), (23, 0), (24, 0), (25, 2), (26, 0), (27, 0), (28, 0), (29, 0), (30, 0), (31, 0), (32, 0), (33, 2), (34, 0), (35, 2), (36, 0), (37, 0), (38, 0), (39, 0), (40, 2), (41, 0), (42, 0), (43, 0), (44, 0), (45, 2), (46, 0), (47, 0), (48, 0), (49, 0), (50, 0), (51, 2), (52, 0), (53, 0), (54, 0), (55, 0), (56, 0), (57, 0), (58, 2), (59, 0), (60, 2), (61, 0), (62, 0)] (by kernel_rfl) (by kernel_rfl) (by kernel_rfl) (by kernel_rfl) ?_
        simp only [parts, headed, headed2, List.getElem?_toArray, List.getElem?_cons_zero, List.getElem?_cons_succ]
        generalize wr.drew = Wd at *
        refine parts_step fun K HK => ?_
        go_wp2_with fail
        refine (vbegun_any _).mono ?_
        rintro e v0 ⟨rfl, hg⟩
        replace A0 := cell_grow hg A0
        replace A1 := cell_grow hg A1
        replace B0 := cell_grow hg B0
        replace B1 := cell_grow hg B1
        replace X0 := cell_grow hg X0
        replace X1 := cell_grow hg X1
        replace V0 := cell_grow hg V0
        replace V1 := cell_grow hg V1
        replace U0 := cell_grow hg U0
        replace U1 := cell_grow hg U1
        replace G := G.trans hg
        go_wp2_with fail
        refine HK.out _ _ hg ?_
        clear hg
        clear HK K
        refine parts_step fun K HK => ?_
        go_wp2_with fail
        refine (HV.out _).mono ?_
        rw [EA.out]
        rintro e v3 ⟨rfl, hg⟩
        replace A0 := cell_grow hg A0
        replace A1 := cell_grow hg A1
        replace B0 := cell_grow hg B0
        replace B1 := cell_grow hg B1
        replace X0 := cell_grow hg X0
        replace X1 := cell_grow hg X1
        replace V0 := cell_grow hg V0
        replace V1 := cell_grow hg V1
        replace U0 := cell_grow hg U0
        replace U1 := cell_grow hg U1
        replace G := G.trans hg
        go_wp2_with fail
        refine HK.out _ _ hg ?_
        clear hg
        clear HK K
        refine parts_step2 (fun hw => by first | (cases hw; done) | (apply looks_run; intro w'; go_simp; try first | rfl | rw [if_neg (by omega)])) fun K HK => ?_
        go_wp2_with fail
        refine HK.out _ _ (Grow.refl _) ?_
        clear HK K
        refine parts_step2 (fun hw => by first | (cases hw; done) | (apply looks_run; intro w'; go_simp; try first | rfl | rw [if_neg (by omega)])) fun K HK => ?_
        go_wp2_with fail
        refine HK.out _ _ (Grow.refl _) ?_
        clear HK K
        refine parts_step2 (fun hw => by first | (cases hw; done) | (apply looks_run; intro w'; go_simp; try first | rfl | rw [if_neg (by omega)])) fun K HK => ?_
        go_wp2_with fail
        refine HK.out _ _ (Grow.refl _) ?_
        clear HK K
        refine parts_step2 (fun hw => by first | (cases hw; done) | (apply looks_run; intro w'; go_simp; try first | rfl | rw [if_neg (by omega)])) fun K HK => ?_
        go_wp2_with fail
        refine HK.out _ _ (Grow.refl _) ?_
        clear HK K
        refine parts_step2 (fun hw => by first | (cases hw; done) | (apply looks_run; intro w'; go_simp; try first | rfl | rw [if_neg (by omega)])) fun K HK => ?_
        go_wp2_with fail
        refine HK.out _ _ (Grow.refl _) ?_
        clear HK K
        refine parts_step2 (fun hw => by first | (cases hw; done) | (apply looks_run; intro w'; go_simp; try first | rfl | rw [if_neg (by omega)])) fun K HK => ?_
        go_wp2_with fail
        refine HK.out _ _ (Grow.refl _) ?_
        clear HK K
        refine parts_step2 (fun hw => by first | (cases hw; done) | (apply looks_run; intro w'; go_simp; try first | rfl | rw [if_neg (by omega)])) fun K HK => ?_
        go_wp2_with fail
        refine HK.out _ _ (Grow.refl _) ?_
        clear HK K
        refine parts_step2 (fun hw => by first | (cases hw; done) | (apply looks_run; intro w'; go_simp; try first | rfl | rw [if_neg (by omega)])) fun K HK => ?_
        go_wp2_with fail
        refine HK.out _ _ (Grow.refl _) ?_
        clear HK K
        refine parts_step2 (fun hw => by first | (cases hw; done) | (apply looks_run; intro w'; go_simp; try first | rfl | rw [if_neg (by omega)])) fun K HK => ?_
        go_wp2_with fail
        refine HK.out _ _ (Grow.refl _) ?_
        clear HK K
        refine parts_step2 (fun hw => by first | (cases hw; done) | (apply looks_run; intro w'; go_simp; try first | rfl | rw [if_neg (by omega)])) fun K HK => ?_
        go_wp2_with fail
        refine HK.out _ _ (Grow.refl _) ?_
        clear HK K
        refine parts_step2 (fun hw => by first | (cases hw; done) | (apply looks_run; intro w'; go_simp; try first | rfl | rw [if_neg (by omega)])) fun K HK => ?_
        go_wp2_with fail
        refine HK.out _ _ (Grow.refl _) ?_
        clear HK K
        refine parts_step2 (fun hw => by first | (cases hw; done) | (apply looks_run; intro w'; go_simp; try first | rfl | rw [if_neg (by omega)])) fun K HK => ?_
        go_wp2_with fail
        refine HK.out _ _ (Grow.refl _) ?_
        clear HK K
        refine parts_done ?_
        go_wp2
        go_ret
        exact ⟨by first | rfl | simp, G⟩
set_option maxRecDepth 100000 in
set_option maxHeartbeats 8000000 in
theorem vt_D0 (a b : Vc) (n : Int) (w : World) (hA : a.ok = true) (hB : b.ok = true) (hI : isIdB 0 n = true) (HI : Hid (isIdB 0 n = true)) : Calls Try.prog 8 #[a.val, b.val, .agg #[.int .i64 0, .int .i64 n]] w fun e w' => e = .returned (.bool true) ∧ Grow w w' := by
  have hab : (a.ok && b.ok) = true := by rw [hA, hB]; rfl
  have E1 := vJoin_ok hab
  have E3 := vIn_ok hab
  have E2 : a.has 0 n = (decide (n ≤ a.a), 0) := by simp only [Vc.has, hA, hI]; rfl
  have EA : a.err = 0 := by simp only [Vc.err, hA]; rfl
  have EB : b.err = 0 := by simp only [Vc.err, hB]; rfl
  generalize hJ : (⟨max a.a b.a, max a.b b.b⟩ : Vc) = J at E1
  have HJ := hold hJ
  clear hJ
  replace E1 := hold E1
  replace E2 := hold E2
  replace E3 := hold E3
  replace EA := hold EA
  replace EB := hold EB
  clear hA hB hI hab
  have HA := hold (vjoin_any a b)
  have HH := hold (vhas_any a 0 n)
  have HW := hold (vwithin_any a b)
  have HCA := hold (checkVector_any a)
  have HCB := hold (checkVector_any b)
  have HV := hold (vchk_any a)
  unfold Vc.val
  go_enter Try.func8, Try.ntmps8
  go_wp2_with fail
  have G : Grow w (((w.alloc (Obj.cells #[.int .i64 a.a, .int .i64 a.b] 67)).alloc (Obj.cells #[.int .i64 b.a, .int .i64 b.b] 67)).alloc (Obj.cells #[.int .i64 0, .int .i64 n] 69)) := (((Grow.refl w).alloc _).alloc _).alloc _
  have A0 : (((w.alloc (Obj.cells #[.int .i64 a.a, .int .i64 a.b] 67)).alloc (Obj.cells #[.int .i64 b.a, .int .i64 b.b] 67)).alloc (Obj.cells #[.int .i64 0, .int .i64 n] 69)).cell? ⟨w.heap.size, 0, none⟩ = some (.int .i64 a.a) := by simp [go_sem]
  have A1 : (((w.alloc (Obj.cells #[.int .i64 a.a, .int .i64 a.b] 67)).alloc (Obj.cells #[.int .i64 b.a, .int .i64 b.b] 67)).alloc (Obj.cells #[.int .i64 0, .int .i64 n] 69)).cell? ⟨w.heap.size, 1, none⟩ = some (.int .i64 a.b) := by simp [go_sem]
  have B0 : (((w.alloc (Obj.cells #[.int .i64 a.a, .int .i64 a.b] 67)).alloc (Obj.cells #[.int .i64 b.a, .int .i64 b.b] 67)).alloc (Obj.cells #[.int .i64 0, .int .i64 n] 69)).cell? ⟨w.heap.size + 1, 0, none⟩ = some (.int .i64 b.a) := by simp [go_sem]
  have B1 : (((w.alloc (Obj.cells #[.int .i64 a.a, .int .i64 a.b] 67)).alloc (Obj.cells #[.int .i64 b.a, .int .i64 b.b] 67)).alloc (Obj.cells #[.int .i64 0, .int .i64 n] 69)).cell? ⟨w.heap.size + 1, 1, none⟩ = some (.int .i64 b.b) := by simp [go_sem]
  have X0 : (((w.alloc (Obj.cells #[.int .i64 a.a, .int .i64 a.b] 67)).alloc (Obj.cells #[.int .i64 b.a, .int .i64 b.b] 67)).alloc (Obj.cells #[.int .i64 0, .int .i64 n] 69)).cell? ⟨w.heap.size + 1 + 1, 0, none⟩ = some (.int .i64 0) := by simp [go_sem]
  have X1 : (((w.alloc (Obj.cells #[.int .i64 a.a, .int .i64 a.b] 67)).alloc (Obj.cells #[.int .i64 b.a, .int .i64 b.b] 67)).alloc (Obj.cells #[.int .i64 0, .int .i64 n] 69)).cell? ⟨w.heap.size + 1 + 1, 1, none⟩ = some (.int .i64 n) := by simp [go_sem]
  generalize (((w.alloc (Obj.cells #[.int .i64 a.a, .int .i64 a.b] 67)).alloc (Obj.cells #[.int .i64 b.a, .int .i64 b.b] 67)).alloc (Obj.cells #[.int .i64 0, .int .i64 n] 69)) = W0 at *
  refine (HA.out _).mono ?_
  rw [E1.out]
  rintro e w1 ⟨rfl, g1⟩
  replace A0 := cell_grow g1 A0
  replace A1 := cell_grow g1 A1
  replace B0 := cell_grow g1 B0
  replace B1 := cell_grow g1 B1
  replace X0 := cell_grow g1 X0
  replace X1 := cell_grow g1 X1
  replace G := G.trans g1
  clear g1
  simp only [Vc.val]
  replace A0 := cell_grow ((Grow.refl w1).alloc (Obj.cells #[.int .i64 J.a, .int .i64 J.b] 67)) A0
  replace A1 := cell_grow ((Grow.refl w1).alloc (Obj.cells #[.int .i64 J.a, .int .i64 J.b] 67)) A1
  replace B0 := cell_grow ((Grow.refl w1).alloc (Obj.cells #[.int .i64 J.a, .int .i64 J.b] 67)) B0
  replace B1 := cell_grow ((Grow.refl w1).alloc (Obj.cells #[.int .i64 J.a, .int .i64 J.b] 67)) B1
  replace X0 := cell_grow ((Grow.refl w1).alloc (Obj.cells #[.int .i64 J.a, .int .i64 J.b] 67)) X0
  replace X1 := cell_grow ((Grow.refl w1).alloc (Obj.cells #[.int .i64 J.a, .int .i64 J.b] 67)) X1
  have V0 : (w1.alloc (Obj.cells #[.int .i64 J.a, .int .i64 J.b] 67)).cell? ⟨w1.heap.size, 0, none⟩ = some (.int .i64 J.a) := by simp
  have V1 : (w1.alloc (Obj.cells #[.int .i64 J.a, .int .i64 J.b] 67)).cell? ⟨w1.heap.size, 1, none⟩ = some (.int .i64 J.b) := by simp
  replace G := G.alloc (Obj.cells #[.int .i64 J.a, .int .i64 J.b] 67)
  go_wp2_with fail
  generalize (w1.alloc (Obj.cells #[.int .i64 J.a, .int .i64 J.b] 67)) = W1 at *
  refine (HH.out _).mono ?_
  rw [E2.out]
  rintro e w2 ⟨rfl, g2⟩
  replace A0 := cell_grow g2 A0
  replace A1 := cell_grow g2 A1
  replace B0 := cell_grow g2 B0
  replace B1 := cell_grow g2 B1
  replace X0 := cell_grow g2 X0
  replace X1 := cell_grow g2 X1
  replace V0 := cell_grow g2 V0
  replace V1 := cell_grow g2 V1
  replace G := G.trans g2
  clear g2
  go_wp2_with fail
  refine (HW.out _).mono ?_
  rw [E3.out]
  rintro e w3 ⟨rfl, g3⟩
  replace A0 := cell_grow g3 A0
  replace A1 := cell_grow g3 A1
  replace B0 := cell_grow g3 B0
  replace B1 := cell_grow g3 B1
  replace X0 := cell_grow g3 X0
  replace X1 := cell_grow g3 X1
  replace V0 := cell_grow g3 V0
  replace V1 := cell_grow g3 V1
  replace G := G.trans g3
  clear g3
  go_wp2_with fail
  refine (HCA.out _).mono ?_
  rw [EA.out]
  rintro e w4 ⟨rfl, g4⟩
  replace A0 := cell_grow g4 A0
  replace A1 := cell_grow g4 A1
  replace B0 := cell_grow g4 B0
  replace B1 := cell_grow g4 B1
  replace X0 := cell_grow g4 X0
  replace X1 := cell_grow g4 X1
  replace V0 := cell_grow g4 V0
  replace V1 := cell_grow g4 V1
  replace G := G.trans g4
  clear g4
  go_wp2_with fail
  refine (HCB.out _).mono ?_
  rw [EB.out]
  rintro e w5 ⟨rfl, g5⟩
  replace A0 := cell_grow g5 A0
  replace A1 := cell_grow g5 A1
  replace B0 := cell_grow g5 B0
  replace B1 := cell_grow g5 B1
  replace X0 := cell_grow g5 X0
  replace X1 := cell_grow g5 X1
  replace V0 := cell_grow g5 V0
  replace V1 := cell_grow g5 V1
  replace G := G.trans g5
  clear g5
  go_wp2_with fail
  refine (refIsId_any _ _ _).mono ?_
  rw [show isIdB 0 n = true from HI.out]
  rintro e w6 ⟨rfl, g6⟩
  replace A0 := cell_grow g6 A0
  replace A1 := cell_grow g6 A1
  replace B0 := cell_grow g6 B0
  replace B1 := cell_grow g6 B1
  replace X0 := cell_grow g6 X0
  replace X1 := cell_grow g6 X1
  replace V0 := cell_grow g6 V0
  replace V1 := cell_grow g6 V1
  replace G := G.trans g6
  clear g6
  have sA0 := hold A0
  have sA1 := hold A1
  have sB0 := hold B0
  have sB1 := hold B1
  have sX0 := hold X0
  have sX1 := hold X1
  have sV0 := hold V0
  have sV1 := hold V1
  have GG := hold G
  replace A0 := cell_grow ((Grow.refl w6).alloc (Obj.cells #[.int .i64 0, .int .i64 0] 67)) A0
  replace A1 := cell_grow ((Grow.refl w6).alloc (Obj.cells #[.int .i64 0, .int .i64 0] 67)) A1
  replace B0 := cell_grow ((Grow.refl w6).alloc (Obj.cells #[.int .i64 0, .int .i64 0] 67)) B0
  replace B1 := cell_grow ((Grow.refl w6).alloc (Obj.cells #[.int .i64 0, .int .i64 0] 67)) B1
  replace X0 := cell_grow ((Grow.refl w6).alloc (Obj.cells #[.int .i64 0, .int .i64 0] 67)) X0
  replace X1 := cell_grow ((Grow.refl w6).alloc (Obj.cells #[.int .i64 0, .int .i64 0] 67)) X1
  replace V0 := cell_grow ((Grow.refl w6).alloc (Obj.cells #[.int .i64 0, .int .i64 0] 67)) V0
  replace V1 := cell_grow ((Grow.refl w6).alloc (Obj.cells #[.int .i64 0, .int .i64 0] 67)) V1
  have U0 : (w6.alloc (Obj.cells #[.int .i64 0, .int .i64 0] 67)).cell? ⟨w6.heap.size, 0, none⟩ = some (.int .i64 0) := by simp
  have U1 : (w6.alloc (Obj.cells #[.int .i64 0, .int .i64 0] 67)).cell? ⟨w6.heap.size, 1, none⟩ = some (.int .i64 0) := by simp
  replace G := G.alloc (Obj.cells #[.int .i64 0, .int .i64 0] 67)
  go_wp2_with fail
  clear G A0 A1 B0 B1 X0 X1 V0 V1 U0 U1
  go_loopw [17] (fun i wr => ∃ k : Nat, k ≤ 2 ∧ i = .int .i64 k ∧ Grow w6 wr ∧ wr.heap[w6.heap.size]? = some (.cells #[.int .i64 (if 1 ≤ k then J.a else a.a), .int .i64 (if 2 ≤ k then J.b else a.b)] 67 (0, 0))) (fun i _ => 2 - (intOf i).toNat)
  case atStart => exact ⟨0, by omega, rfl, (Grow.refl _).alloc _, heap_alloc_new _ _⟩
  case round =>
    obtain ⟨k, hk, rfl, hg, hu⟩ := hrel
    have A0 := cell_grow hg sA0.out
    have A1 := cell_grow hg sA1.out
    have B0 := cell_grow hg sB0.out
    have B1 := cell_grow hg sB1.out
    have X0 := cell_grow hg sX0.out
    have X1 := cell_grow hg sX1.out
    have V0 := cell_grow hg sV0.out
    have V1 := cell_grow hg sV1.out
    have HU := hold hu
    clear hu
    have hJa : J.a = max a.a b.a := by rw [← HJ.out]
    have hJb : J.b = max a.b b.b := by rw [← HJ.out]
    have HJa := hold hJa
    have HJb := hold hJb
    clear hJa hJb
    match k, hk, hg, HU with
    | 0, _, hg, HU =>
      have U0 := cell_of_block (o := 0) HU.out rfl
      have U1 := cell_of_block (o := 1) HU.out rfl
      have fU := free_of_block HU.out 0
      simp at U0 U1
      by_cases hc : a.a < b.a
      · have hc' : decide (a.a < b.a) = true := by simpa using hc
        have HE : Hid (J.a = b.a) := show J.a = _ by rw [HJa.out]; omega
        clear hc
        go_wp2_with fail
        have hgd := hold hg
        refine wp_region_path [(0, 0), (1, 0), (2, 0), (3, 0), (4, 0), (5, 0), (6, 2)] (by kernel_rfl) (by kernel_rfl) (by kernel_rfl) (by kernel_rfl) ?_
        simp only [parts, headed, headed2, List.getElem?_toArray, List.getElem?_cons_zero, List.getElem?_cons_succ]
        refine parts_step fun K HK => ?_
        go_wp2_with fail
        refine HK.out _ _ (Grow.refl _) ?_
        clear HK K
        refine parts_step2 (fun hw => by first | (cases hw; done) | (apply looks_run; intro w'; go_simp; try first | rfl | rw [if_neg (by omega)])) fun K HK => ?_
        go_wp2_with fail
        refine HK.out _ _ (Grow.refl _) ?_
        clear HK K
        refine parts_done ?_
        go_wp2
        go_roundw
        case rel => exact ⟨1, by omega, rfl, (hgd.out.drew).setCell (Nat.le_refl _) _, by have h := block_set (o := 0) (v := .int .i64 b.a) HU.out; have e : ∀ u : World, u.drew.heap = u.heap := fun _ => rfl; rw [e]; simpa [HE.out] using h⟩
        case measure => simp [intOf]
      · have hc' : decide (a.a < b.a) = false := by simpa using hc
        have HE : Hid (J.a = a.a) := show J.a = _ by rw [HJa.out]; omega
        clear hc
        go_wp2_with fail
        have hgd := hold hg
        refine wp_region_path [(0, 0), (1, 0), (2, 0), (3, 0), (4, 0), (5, 0), (6, 2)] (by kernel_rfl) (by kernel_rfl) (by kernel_rfl) (by kernel_rfl) ?_
        simp only [parts, headed, headed2, List.getElem?_toArray, List.getElem?_cons_zero, List.getElem?_cons_succ]
        refine parts_step fun K HK => ?_
        go_wp2_with fail
        refine HK.out _ _ (Grow.refl _) ?_
        clear HK K
        refine parts_step2 (fun hw => by first | (cases hw; done) | (apply looks_run; intro w'; go_simp; try first | rfl | rw [if_neg (by omega)])) fun K HK => ?_
        go_wp2_with fail
        refine HK.out _ _ (Grow.refl _) ?_
        clear HK K
        refine parts_done ?_
        go_wp2
        go_roundw
        case rel => exact ⟨1, by omega, rfl, hgd.out.drew, by have h := HU.out; have e : ∀ u : World, u.drew.heap = u.heap := fun _ => rfl; rw [e]; simpa [HE.out] using h⟩
        case measure => simp [intOf]
    | 1, _, hg, HU =>
      have U0 := cell_of_block (o := 0) HU.out rfl
      have U1 := cell_of_block (o := 1) HU.out rfl
      have fU := free_of_block HU.out 1
      simp at U0 U1
      by_cases hc : a.b < b.b
      · have hc' : decide (a.b < b.b) = true := by simpa using hc
        have HE : Hid (J.b = b.b) := show J.b = _ by rw [HJb.out]; omega
        clear hc
        go_wp2_with fail
        have hgd := hold hg
        refine wp_region_path [(0, 0), (1, 0), (2, 0), (3, 0), (4, 0), (5, 0), (6, 2)] (by kernel_rfl) (by kernel_rfl) (by kernel_rfl) (by kernel_rfl) ?_
        simp only [parts, headed, headed2, List.getElem?_toArray, List.getElem?_cons_zero, List.getElem?_cons_succ]
        refine parts_step fun K HK => ?_
        go_wp2_with fail
        refine HK.out _ _ (Grow.refl _) ?_
        clear HK K
        refine parts_step2 (fun hw => by first | (cases hw; done) | (apply looks_run; intro w'; go_simp; try first | rfl | rw [if_neg (by omega)])) fun K HK => ?_
        go_wp2_with fail
        refine HK.out _ _ (Grow.refl _) ?_
        clear HK K
        refine parts_done ?_
        go_wp2
        go_roundw
        case rel => exact ⟨2, by omega, rfl, (hgd.out.drew).setCell (Nat.le_refl _) _, by have h := block_set (o := 1) (v := .int .i64 b.b) HU.out; have e : ∀ u : World, u.drew.heap = u.heap := fun _ => rfl; rw [e]; simpa [HE.out] using h⟩
        case measure => simp [intOf]
      · have hc' : decide (a.b < b.b) = false := by simpa using hc
        have HE : Hid (J.b = a.b) := show J.b = _ by rw [HJb.out]; omega
        clear hc
        go_wp2_with fail
        have hgd := hold hg
        refine wp_region_path [(0, 0), (1, 0), (2, 0), (3, 0), (4, 0), (5, 0), (6, 2)] (by kernel_rfl) (by kernel_rfl) (by kernel_rfl) (by kernel_rfl) ?_
        simp only [parts, headed, headed2, List.getElem?_toArray, List.getElem?_cons_zero, List.getElem?_cons_succ]
        refine parts_step fun K HK => ?_
        go_wp2_with fail
        refine HK.out _ _ (Grow.refl _) ?_
        clear HK K
        refine parts_step2 (fun hw => by first | (cases hw; done) | (apply looks_run; intro w'; go_simp; try first | rfl | rw [if_neg (by omega)])) fun K HK => ?_
        go_wp2_with fail
        refine HK.out _ _ (Grow.refl _) ?_
        clear HK K
        refine parts_done ?_
        go_wp2
        go_roundw
        case rel => exact ⟨2, by omega, rfl, hgd.out.drew, by have h := HU.out; have e : ∀ u : World, u.drew.heap = u.heap := fun _ => rfl; rw [e]; simpa [HE.out] using h⟩
        case measure => simp [intOf]
    | 2, _, hg, HU =>
      have G := GG.out.trans hg
      have U0 := cell_of_block (o := 0) HU.out rfl
      have U1 := cell_of_block (o := 1) HU.out rfl
      simp at U0 U1
      clear HU HJa HJb hg GG sA0 sA1 sB0 sB1 sX0 sX1 sV0 sV1
      go_wp2_with fail
      have g : Grow wr wr.drew := (Grow.refl wr).drew
      replace A0 := cell_grow g A0
      replace A1 := cell_grow g A1
      replace B0 := cell_grow g B0
      replace B1 := cell_grow g B1
      replace X0 := cell_grow g X0
      replace X1 := cell_grow g X1
      replace V0 := cell_grow g V0
      replace V1 := cell_grow g V1
      replace U0 := cell_grow g U0
      replace U1 := cell_grow g U1
      replace G := G.trans g
      clear g
      have hv := veq
      cases h1 : decide (a.a ≤ b.a)
      all_goals
        refine wp_region_path [(0, 1), (1, 0), (2, 0), (4, 0), (3, 1), (5, 2), (6, 0), (7, 0), (8, 0), (9, 0), (10, 2), (11, 0), (12, 0), (13, 0), (14, 0), (15, 2), (16, 0), (17, 0), (18, 0), (19, 0), (20, 2), (21, 0), (22, 0), (23, 0), (24, 0), (25, 2), (26, 0), (27, 0), (28, 0), (29, 0), (30, 0), (31, 0), (32, 0), (33, 2), (34, 0), (35, 2), (36, 0), (37, 0), (38, 0), (39, 0), (40, 2), (41, 0), (42, 0), (43, 0), (44, 0), (45, 2), (46, 0), (47, 0), (48, 0), (49, 0), (50, 0), (51, 2), (52, 0), (53, 0), (54, 0), (55, 0), (56, 0), (57, 0), (58, 2), (59, 0), (60, 2), (61, 0), (62, 0)] (by kernel_rfl) (by kernel_rfl) (by kernel_rfl) (by kernel_rfl) ?_
        simp only [parts, headed, headed2, List.getElem?_toArray, List.getElem?_cons_zero, List.getElem?_cons_succ]
        generalize wr.drew = Wd at *
        refine parts_step fun K HK => ?_
        go_wp2_with fail
        refine (vbegun_any _).mono ?_
        rintro e v0 ⟨rfl, hg⟩
        replace A0 := cell_grow hg A0
        replace A1 := cell_grow hg A1
        replace B0 := cell_grow hg B0
        replace B1 := cell_grow hg B1
        replace X0 := cell_grow hg X0
        replace X1 := cell_grow hg X1
        replace V0 := cell_grow hg V0
        replace V1 := cell_grow hg V1
        replace U0 := cell_grow hg U0
        replace U1 := cell_grow hg U1
        replace G := G.trans hg
        go_wp2_with fail
        refine HK.out _ _ hg ?_
        clear hg
        clear HK K
        refine parts_step fun K HK => ?_
        go_wp2_with fail
        refine (HV.out _).mono ?_
        rw [EA.out]
        rintro e v3 ⟨rfl, hg⟩
        replace A0 := cell_grow hg A0
        replace A1 := cell_grow hg A1
        replace B0 := cell_grow hg B0
        replace B1 := cell_grow hg B1
        replace X0 := cell_grow hg X0
        replace X1 := cell_grow hg X1
        replace V0 := cell_grow hg V0
        replace V1 := cell_grow hg V1
        replace U0 := cell_grow hg U0
        replace U1 := cell_grow hg U1
        replace G := G.trans hg
        go_wp2_with fail
        refine HK.out _ _ hg ?_
        clear hg
        clear HK K
        refine parts_step2 (fun hw => by first | (cases hw; done) | (apply looks_run; intro w'; go_simp; try first | rfl | rw [if_neg (by omega)])) fun K HK => ?_
        go_wp2_with fail
        refine HK.out _ _ (Grow.refl _) ?_
        clear HK K
        refine parts_step2 (fun hw => by first | (cases hw; done) | (apply looks_run; intro w'; go_simp; try first | rfl | rw [if_neg (by omega)])) fun K HK => ?_
        go_wp2_with fail
        refine HK.out _ _ (Grow.refl _) ?_
        clear HK K
        refine parts_step2 (fun hw => by first | (cases hw; done) | (apply looks_run; intro w'; go_simp; try first | rfl | rw [if_neg (by omega)])) fun K HK => ?_
        go_wp2_with fail
        refine HK.out _ _ (Grow.refl _) ?_
        clear HK K
        refine parts_step2 (fun hw => by first | (cases hw; done) | (apply looks_run; intro w'; go_simp; try first | rfl | rw [if_neg (by omega)])) fun K HK => ?_
        go_wp2_with fail
        refine HK.out _ _ (Grow.refl _) ?_
        clear HK K
        refine parts_step2 (fun hw => by first | (cases hw; done) | (apply looks_run; intro w'; go_simp; try first | rfl | rw [if_neg (by omega)])) fun K HK => ?_
        go_wp2_with fail
        refine HK.out _ _ (Grow.refl _) ?_
        clear HK K
        refine parts_step2 (fun hw => by first | (cases hw; done) | (apply looks_run; intro w'; go_simp; try first | rfl | rw [if_neg (by omega)])) fun K HK => ?_
        go_wp2_with fail
        refine HK.out _ _ (Grow.refl _) ?_
        clear HK K
        refine parts_step2 (fun hw => by first | (cases hw; done) | (apply looks_run; intro w'; go_simp; try first | rfl | rw [if_neg (by omega)])) fun K HK => ?_
        go_wp2_with fail
        refine HK.out _ _ (Grow.refl _) ?_
        clear HK K
        refine parts_step2 (fun hw => by first | (cases hw; done) | (apply looks_run; intro w'; go_simp; try first | rfl | rw [if_neg (by omega)])) fun K HK => ?_
        go_wp2_with fail
        refine HK.out _ _ (Grow.refl _) ?_
        clear HK K
        refine parts_step2 (fun hw => by first | (cases hw; done) | (apply looks_run; intro w'; go_simp; try first | rfl | rw [if_neg (by omega)])) fun K HK => ?_
        go_wp2_with fail
        refine HK.out _ _ (Grow.refl _) ?_
        clear HK K
        refine parts_step2 (fun hw => by first | (cases hw; done) | (apply looks_run; intro w'; go_simp; try first | rfl | rw [if_neg (by omega)])) fun K HK => ?_
        go_wp2_with fail
        refine HK.out _ _ (Grow.refl _) ?_
        clear HK K
        refine parts_step2 (fun hw => by first | (cases hw; done) | (apply looks_run; intro w'; go_simp; try first | rfl | rw [if_neg (by omega)])) fun K HK => ?_
        go_wp2_with fail
        refine HK.out _ _ (Grow.refl _) ?_
        clear HK K
        refine parts_step2 (fun hw => by first | (cases hw; done) | (apply looks_run; intro w'; go_simp; try first | rfl | rw [if_neg (by omega)])) fun K HK => ?_
        go_wp2_with fail
        refine HK.out _ _ (Grow.refl _) ?_
        clear HK K
        refine parts_done ?_
        go_wp2
        go_ret
        exact ⟨by first | rfl | simp, G⟩
set_option maxRecDepth 100000 in
set_option maxHeartbeats 8000000 in
theorem vt_D1 (a b : Vc) (n : Int) (w : World) (hA : a.ok = true) (hB : b.ok = true) (hI : isIdB 1 n = true) (HI : Hid (isIdB 1 n = true)) : Calls Try.prog 8 #[a.val, b.val, .agg #[.int .i64 1, .int .i64 n]] w fun e w' => e = .returned (.bool true) ∧ Grow w w' := by
  have hab : (a.ok && b.ok) = true := by rw [hA, hB]; rfl
  have E1 := vJoin_ok hab
  have E3 := vIn_ok hab
  have E2 : a.has 1 n = (decide (n ≤ a.b), 0) := by simp only [Vc.has, hA, hI]; rfl
  have EA : a.err = 0 := by simp only [Vc.err, hA]; rfl
  have EB : b.err = 0 := by simp only [Vc.err, hB]; rfl
  generalize hJ : (⟨max a.a b.a, max a.b b.b⟩ : Vc) = J at E1
  have HJ := hold hJ
  clear hJ
  replace E1 := hold E1
  replace E2 := hold E2
  replace E3 := hold E3
  replace EA := hold EA
  replace EB := hold EB
  clear hA hB hI hab
  have HA := hold (vjoin_any a b)
  have HH := hold (vhas_any a 1 n)
  have HW := hold (vwithin_any a b)
  have HCA := hold (checkVector_any a)
  have HCB := hold (checkVector_any b)
  have HV := hold (vchk_any a)
  unfold Vc.val
  go_enter Try.func8, Try.ntmps8
  go_wp2_with fail
  have G : Grow w (((w.alloc (Obj.cells #[.int .i64 a.a, .int .i64 a.b] 67)).alloc (Obj.cells #[.int .i64 b.a, .int .i64 b.b] 67)).alloc (Obj.cells #[.int .i64 1, .int .i64 n] 69)) := (((Grow.refl w).alloc _).alloc _).alloc _
  have A0 : (((w.alloc (Obj.cells #[.int .i64 a.a, .int .i64 a.b] 67)).alloc (Obj.cells #[.int .i64 b.a, .int .i64 b.b] 67)).alloc (Obj.cells #[.int .i64 1, .int .i64 n] 69)).cell? ⟨w.heap.size, 0, none⟩ = some (.int .i64 a.a) := by simp [go_sem]
  have A1 : (((w.alloc (Obj.cells #[.int .i64 a.a, .int .i64 a.b] 67)).alloc (Obj.cells #[.int .i64 b.a, .int .i64 b.b] 67)).alloc (Obj.cells #[.int .i64 1, .int .i64 n] 69)).cell? ⟨w.heap.size, 1, none⟩ = some (.int .i64 a.b) := by simp [go_sem]
  have B0 : (((w.alloc (Obj.cells #[.int .i64 a.a, .int .i64 a.b] 67)).alloc (Obj.cells #[.int .i64 b.a, .int .i64 b.b] 67)).alloc (Obj.cells #[.int .i64 1, .int .i64 n] 69)).cell? ⟨w.heap.size + 1, 0, none⟩ = some (.int .i64 b.a) := by simp [go_sem]
  have B1 : (((w.alloc (Obj.cells #[.int .i64 a.a, .int .i64 a.b] 67)).alloc (Obj.cells #[.int .i64 b.a, .int .i64 b.b] 67)).alloc (Obj.cells #[.int .i64 1, .int .i64 n] 69)).cell? ⟨w.heap.size + 1, 1, none⟩ = some (.int .i64 b.b) := by simp [go_sem]
  have X0 : (((w.alloc (Obj.cells #[.int .i64 a.a, .int .i64 a.b] 67)).alloc (Obj.cells #[.int .i64 b.a, .int .i64 b.b] 67)).alloc (Obj.cells #[.int .i64 1, .int .i64 n] 69)).cell? ⟨w.heap.size + 1 + 1, 0, none⟩ = some (.int .i64 1) := by simp [go_sem]
  have X1 : (((w.alloc (Obj.cells #[.int .i64 a.a, .int .i64 a.b] 67)).alloc (Obj.cells #[.int .i64 b.a, .int .i64 b.b] 67)).alloc (Obj.cells #[.int .i64 1, .int .i64 n] 69)).cell? ⟨w.heap.size + 1 + 1, 1, none⟩ = some (.int .i64 n) := by simp [go_sem]
  generalize (((w.alloc (Obj.cells #[.int .i64 a.a, .int .i64 a.b] 67)).alloc (Obj.cells #[.int .i64 b.a, .int .i64 b.b] 67)).alloc (Obj.cells #[.int .i64 1, .int .i64 n] 69)) = W0 at *
  refine (HA.out _).mono ?_
  rw [E1.out]
  rintro e w1 ⟨rfl, g1⟩
  replace A0 := cell_grow g1 A0
  replace A1 := cell_grow g1 A1
  replace B0 := cell_grow g1 B0
  replace B1 := cell_grow g1 B1
  replace X0 := cell_grow g1 X0
  replace X1 := cell_grow g1 X1
  replace G := G.trans g1
  clear g1
  simp only [Vc.val]
  replace A0 := cell_grow ((Grow.refl w1).alloc (Obj.cells #[.int .i64 J.a, .int .i64 J.b] 67)) A0
  replace A1 := cell_grow ((Grow.refl w1).alloc (Obj.cells #[.int .i64 J.a, .int .i64 J.b] 67)) A1
  replace B0 := cell_grow ((Grow.refl w1).alloc (Obj.cells #[.int .i64 J.a, .int .i64 J.b] 67)) B0
  replace B1 := cell_grow ((Grow.refl w1).alloc (Obj.cells #[.int .i64 J.a, .int .i64 J.b] 67)) B1
  replace X0 := cell_grow ((Grow.refl w1).alloc (Obj.cells #[.int .i64 J.a, .int .i64 J.b] 67)) X0
  replace X1 := cell_grow ((Grow.refl w1).alloc (Obj.cells #[.int .i64 J.a, .int .i64 J.b] 67)) X1
  have V0 : (w1.alloc (Obj.cells #[.int .i64 J.a, .int .i64 J.b] 67)).cell? ⟨w1.heap.size, 0, none⟩ = some (.int .i64 J.a) := by simp
  have V1 : (w1.alloc (Obj.cells #[.int .i64 J.a, .int .i64 J.b] 67)).cell? ⟨w1.heap.size, 1, none⟩ = some (.int .i64 J.b) := by simp
  replace G := G.alloc (Obj.cells #[.int .i64 J.a, .int .i64 J.b] 67)
  go_wp2_with fail
  generalize (w1.alloc (Obj.cells #[.int .i64 J.a, .int .i64 J.b] 67)) = W1 at *
  refine (HH.out _).mono ?_
  rw [E2.out]
  rintro e w2 ⟨rfl, g2⟩
  replace A0 := cell_grow g2 A0
  replace A1 := cell_grow g2 A1
  replace B0 := cell_grow g2 B0
  replace B1 := cell_grow g2 B1
  replace X0 := cell_grow g2 X0
  replace X1 := cell_grow g2 X1
  replace V0 := cell_grow g2 V0
  replace V1 := cell_grow g2 V1
  replace G := G.trans g2
  clear g2
  go_wp2_with fail
  refine (HW.out _).mono ?_
  rw [E3.out]
  rintro e w3 ⟨rfl, g3⟩
  replace A0 := cell_grow g3 A0
  replace A1 := cell_grow g3 A1
  replace B0 := cell_grow g3 B0
  replace B1 := cell_grow g3 B1
  replace X0 := cell_grow g3 X0
  replace X1 := cell_grow g3 X1
  replace V0 := cell_grow g3 V0
  replace V1 := cell_grow g3 V1
  replace G := G.trans g3
  clear g3
  go_wp2_with fail
  refine (HCA.out _).mono ?_
  rw [EA.out]
  rintro e w4 ⟨rfl, g4⟩
  replace A0 := cell_grow g4 A0
  replace A1 := cell_grow g4 A1
  replace B0 := cell_grow g4 B0
  replace B1 := cell_grow g4 B1
  replace X0 := cell_grow g4 X0
  replace X1 := cell_grow g4 X1
  replace V0 := cell_grow g4 V0
  replace V1 := cell_grow g4 V1
  replace G := G.trans g4
  clear g4
  go_wp2_with fail
  refine (HCB.out _).mono ?_
  rw [EB.out]
  rintro e w5 ⟨rfl, g5⟩
  replace A0 := cell_grow g5 A0
  replace A1 := cell_grow g5 A1
  replace B0 := cell_grow g5 B0
  replace B1 := cell_grow g5 B1
  replace X0 := cell_grow g5 X0
  replace X1 := cell_grow g5 X1
  replace V0 := cell_grow g5 V0
  replace V1 := cell_grow g5 V1
  replace G := G.trans g5
  clear g5
  go_wp2_with fail
  refine (refIsId_any _ _ _).mono ?_
  rw [show isIdB 1 n = true from HI.out]
  rintro e w6 ⟨rfl, g6⟩
  replace A0 := cell_grow g6 A0
  replace A1 := cell_grow g6 A1
  replace B0 := cell_grow g6 B0
  replace B1 := cell_grow g6 B1
  replace X0 := cell_grow g6 X0
  replace X1 := cell_grow g6 X1
  replace V0 := cell_grow g6 V0
  replace V1 := cell_grow g6 V1
  replace G := G.trans g6
  clear g6
  have sA0 := hold A0
  have sA1 := hold A1
  have sB0 := hold B0
  have sB1 := hold B1
  have sX0 := hold X0
  have sX1 := hold X1
  have sV0 := hold V0
  have sV1 := hold V1
  have GG := hold G
  replace A0 := cell_grow ((Grow.refl w6).alloc (Obj.cells #[.int .i64 0, .int .i64 0] 67)) A0
  replace A1 := cell_grow ((Grow.refl w6).alloc (Obj.cells #[.int .i64 0, .int .i64 0] 67)) A1
  replace B0 := cell_grow ((Grow.refl w6).alloc (Obj.cells #[.int .i64 0, .int .i64 0] 67)) B0
  replace B1 := cell_grow ((Grow.refl w6).alloc (Obj.cells #[.int .i64 0, .int .i64 0] 67)) B1
  replace X0 := cell_grow ((Grow.refl w6).alloc (Obj.cells #[.int .i64 0, .int .i64 0] 67)) X0
  replace X1 := cell_grow ((Grow.refl w6).alloc (Obj.cells #[.int .i64 0, .int .i64 0] 67)) X1
  replace V0 := cell_grow ((Grow.refl w6).alloc (Obj.cells #[.int .i64 0, .int .i64 0] 67)) V0
  replace V1 := cell_grow ((Grow.refl w6).alloc (Obj.cells #[.int .i64 0, .int .i64 0] 67)) V1
  have U0 : (w6.alloc (Obj.cells #[.int .i64 0, .int .i64 0] 67)).cell? ⟨w6.heap.size, 0, none⟩ = some (.int .i64 0) := by simp
  have U1 : (w6.alloc (Obj.cells #[.int .i64 0, .int .i64 0] 67)).cell? ⟨w6.heap.size, 1, none⟩ = some (.int .i64 0) := by simp
  replace G := G.alloc (Obj.cells #[.int .i64 0, .int .i64 0] 67)
  go_wp2_with fail
  clear G A0 A1 B0 B1 X0 X1 V0 V1 U0 U1
  go_loopw [17] (fun i wr => ∃ k : Nat, k ≤ 2 ∧ i = .int .i64 k ∧ Grow w6 wr ∧ wr.heap[w6.heap.size]? = some (.cells #[.int .i64 (if 1 ≤ k then J.a else a.a), .int .i64 (if 2 ≤ k then J.b else a.b)] 67 (0, 0))) (fun i _ => 2 - (intOf i).toNat)
  case atStart => exact ⟨0, by omega, rfl, (Grow.refl _).alloc _, heap_alloc_new _ _⟩
  case round =>
    obtain ⟨k, hk, rfl, hg, hu⟩ := hrel
    have A0 := cell_grow hg sA0.out
    have A1 := cell_grow hg sA1.out
    have B0 := cell_grow hg sB0.out
    have B1 := cell_grow hg sB1.out
    have X0 := cell_grow hg sX0.out
    have X1 := cell_grow hg sX1.out
    have V0 := cell_grow hg sV0.out
    have V1 := cell_grow hg sV1.out
    have HU := hold hu
    clear hu
    have hJa : J.a = max a.a b.a := by rw [← HJ.out]
    have hJb : J.b = max a.b b.b := by rw [← HJ.out]
    have HJa := hold hJa
    have HJb := hold hJb
    clear hJa hJb
    match k, hk, hg, HU with
    | 0, _, hg, HU =>
      have U0 := cell_of_block (o := 0) HU.out rfl
      have U1 := cell_of_block (o := 1) HU.out rfl
      have fU := free_of_block HU.out 0
      simp at U0 U1
      by_cases hc : a.a < b.a
      · have hc' : decide (a.a < b.a) = true := by simpa using hc
        have HE : Hid (J.a = b.a) := show J.a = _ by rw [HJa.out]; omega
        clear hc
        go_wp2_with fail
        have hgd := hold hg
        refine wp_region_path [(0, 0), (1, 0), (2, 0), (3, 0), (4, 0), (5, 0), (6, 2)] (by kernel_rfl) (by kernel_rfl) (by kernel_rfl) (by kernel_rfl) ?_
        simp only [parts, headed, headed2, List.getElem?_toArray, List.getElem?_cons_zero, List.getElem?_cons_succ]
        refine parts_step fun K HK => ?_
        go_wp2_with fail
        refine HK.out _ _ (Grow.refl _) ?_
        clear HK K
        refine parts_step2 (fun hw => by first | (cases hw; done) | (apply looks_run; intro w'; go_simp; try first | rfl | rw [if_neg (by omega)])) fun K HK => ?_
        go_wp2_with fail
        refine HK.out _ _ (Grow.refl _) ?_
        clear HK K
        refine parts_done ?_
        go_wp2
        go_roundw
        case rel => exact ⟨1, by omega, rfl, (hgd.out.drew).setCell (Nat.le_refl _) _, by have h := block_set (o := 0) (v := .int .i64 b.a) HU.out; have e : ∀ u : World, u.drew.heap = u.heap := fun _ => rfl; rw [e]; simpa [HE.out] using h⟩
        case measure => simp [intOf]
      · have hc' : decide (a.a < b.a) = false := by simpa using hc
        have HE : Hid (J.a = a.a) := show J.a = _ by rw [HJa.out]; omega
        clear hc
        go_wp2_with fail
        have hgd := hold hg
        refine wp_region_path [(0, 0), (1, 0), (2, 0), (3, 0), (4, 0), (5, 0), (6, 2)] (by kernel_rfl) (by kernel_rfl) (by kernel_rfl) (by kernel_rfl) ?_
        simp only [parts, headed, headed2, List.getElem?_toArray, List.getElem?_cons_zero, List.getElem?_cons_succ]
        refine parts_step fun K HK => ?_
        go_wp2_with fail
        refine HK.out _ _ (Grow.refl _) ?_
        clear HK K
        refine parts_step2 (fun hw => by first | (cases hw; done) | (apply looks_run; intro w'; go_simp; try first | rfl | rw [if_neg (by omega)])) fun K HK => ?_
        go_wp2_with fail
        refine HK.out _ _ (Grow.refl _) ?_
        clear HK K
        refine parts_done ?_
        go_wp2
        go_roundw
        case rel => exact ⟨1, by omega, rfl, hgd.out.drew, by have h := HU.out; have e : ∀ u : World, u.drew.heap = u.heap := fun _ => rfl; rw [e]; simpa [HE.out] using h⟩
        case measure => simp [intOf]
    | 1, _, hg, HU =>
      have U0 := cell_of_block (o := 0) HU.out rfl
      have U1 := cell_of_block (o := 1) HU.out rfl
      have fU := free_of_block HU.out 1
      simp at U0 U1
      by_cases hc : a.b < b.b
      · have hc' : decide (a.b < b.b) = true := by simpa using hc
        have HE : Hid (J.b = b.b) := show J.b = _ by rw [HJb.out]; omega
        clear hc
        go_wp2_with fail
        have hgd := hold hg
        refine wp_region_path [(0, 0), (1, 0), (2, 0), (3, 0), (4, 0), (5, 0), (6, 2)] (by kernel_rfl) (by kernel_rfl) (by kernel_rfl) (by kernel_rfl) ?_
        simp only [parts, headed, headed2, List.getElem?_toArray, List.getElem?_cons_zero, List.getElem?_cons_succ]
        refine parts_step fun K HK => ?_
        go_wp2_with fail
        refine HK.out _ _ (Grow.refl _) ?_
        clear HK K
        refine parts_step2 (fun hw => by first | (cases hw; done) | (apply looks_run; intro w'; go_simp; try first | rfl | rw [if_neg (by omega)])) fun K HK => ?_
        go_wp2_with fail
        refine HK.out _ _ (Grow.refl _) ?_
        clear HK K
        refine parts_done ?_
        go_wp2
        go_roundw
        case rel => exact ⟨2, by omega, rfl, (hgd.out.drew).setCell (Nat.le_refl _) _, by have h := block_set (o := 1) (v := .int .i64 b.b) HU.out; have e : ∀ u : World, u.drew.heap = u.heap := fun _ => rfl; rw [e]; simpa [HE.out] using h⟩
        case measure => simp [intOf]
      · have hc' : decide (a.b < b.b) = false := by simpa using hc
        have HE : Hid (J.b = a.b) := show J.b = _ by rw [HJb.out]; omega
        clear hc
        go_wp2_with fail
        have hgd := hold hg
        refine wp_region_path [(0, 0), (1, 0), (2, 0), (3, 0), (4, 0), (5, 0), (6, 2)] (by kernel_rfl) (by kernel_rfl) (by kernel_rfl) (by kernel_rfl) ?_
        simp only [parts, headed, headed2, List.getElem?_toArray, List.getElem?_cons_zero, List.getElem?_cons_succ]
        refine parts_step fun K HK => ?_
        go_wp2_with fail
        refine HK.out _ _ (Grow.refl _) ?_
        clear HK K
        refine parts_step2 (fun hw => by first | (cases hw; done) | (apply looks_run; intro w'; go_simp; try first | rfl | rw [if_neg (by omega)])) fun K HK => ?_
        go_wp2_with fail
        refine HK.out _ _ (Grow.refl _) ?_
        clear HK K
        refine parts_done ?_
        go_wp2
        go_roundw
        case rel => exact ⟨2, by omega, rfl, hgd.out.drew, by have h := HU.out; have e : ∀ u : World, u.drew.heap = u.heap := fun _ => rfl; rw [e]; simpa [HE.out] using h⟩
        case measure => simp [intOf]
    | 2, _, hg, HU =>
      have G := GG.out.trans hg
      have U0 := cell_of_block (o := 0) HU.out rfl
      have U1 := cell_of_block (o := 1) HU.out rfl
      simp at U0 U1
      clear HU HJa HJb hg GG sA0 sA1 sB0 sB1 sX0 sX1 sV0 sV1
      go_wp2_with fail
      have g : Grow wr wr.drew := (Grow.refl wr).drew
      replace A0 := cell_grow g A0
      replace A1 := cell_grow g A1
      replace B0 := cell_grow g B0
      replace B1 := cell_grow g B1
      replace X0 := cell_grow g X0
      replace X1 := cell_grow g X1
      replace V0 := cell_grow g V0
      replace V1 := cell_grow g V1
      replace U0 := cell_grow g U0
      replace U1 := cell_grow g U1
      replace G := G.trans g
      clear g
      have hv := veq
      cases h1 : decide (a.a ≤ b.a)
      all_goals
        refine wp_region_path [(0, 1), (1, 0), (2, 0), (4, 0), (3, 1), (5, 2), (6, 0), (7, 0), (8, 0), (9, 0), (10, 2), (11, 0), (12, 0), (13, 0), (14, 0), (15, 2), (16, 0), (17, 0), (18, 0), (19, 0), (20, 2), (21, 0), (22, 0), (23, 0), (24, 0), (25, 2), (26, 0), (27, 0), (28, 0), (29, 0), (30, 0), (31, 0), (32, 0), (33, 2), (34, 0), (35, 2), (36, 0), (37, 0), (38, 0), (39, 0), (40, 2), (41, 0), (42, 0), (43, 0), (44, 0), (45, 2), (46, 0), (47, 0), (48, 0), (49, 0), (50, 0), (51, 2), (52, 0), (53, 0), (54, 0), (55, 0), (56, 0), (57, 0), (58, 2), (59, 0), (60, 2), (61, 0), (62, 0)] (by kernel_rfl) (by kernel_rfl) (by kernel_rfl) (by kernel_rfl) ?_
        simp only [parts, headed, headed2, List.getElem?_toArray, List.getElem?_cons_zero, List.getElem?_cons_succ]
        generalize wr.drew = Wd at *
        refine parts_step fun K HK => ?_
        go_wp2_with fail
        refine (vbegun_any _).mono ?_
        rintro e v0 ⟨rfl, hg⟩
        replace A0 := cell_grow hg A0
        replace A1 := cell_grow hg A1
        replace B0 := cell_grow hg B0
        replace B1 := cell_grow hg B1
        replace X0 := cell_grow hg X0
        replace X1 := cell_grow hg X1
        replace V0 := cell_grow hg V0
        replace V1 := cell_grow hg V1
        replace U0 := cell_grow hg U0
        replace U1 := cell_grow hg U1
        replace G := G.trans hg
        go_wp2_with fail
        refine HK.out _ _ hg ?_
        clear hg
        clear HK K
        refine parts_step fun K HK => ?_
        go_wp2_with fail
        refine (HV.out _).mono ?_
        rw [EA.out]
        rintro e v3 ⟨rfl, hg⟩
        replace A0 := cell_grow hg A0
        replace A1 := cell_grow hg A1
        replace B0 := cell_grow hg B0
        replace B1 := cell_grow hg B1
        replace X0 := cell_grow hg X0
        replace X1 := cell_grow hg X1
        replace V0 := cell_grow hg V0
        replace V1 := cell_grow hg V1
        replace U0 := cell_grow hg U0
        replace U1 := cell_grow hg U1
        replace G := G.trans hg
        go_wp2_with fail
        refine HK.out _ _ hg ?_
        clear hg
        clear HK K
        refine parts_step2 (fun hw => by first | (cases hw; done) | (apply looks_run; intro w'; go_simp; try first | rfl | rw [if_neg (by omega)])) fun K HK => ?_
        go_wp2_with fail
        refine HK.out _ _ (Grow.refl _) ?_
        clear HK K
        refine parts_step2 (fun hw => by first | (cases hw; done) | (apply looks_run; intro w'; go_simp; try first | rfl | rw [if_neg (by omega)])) fun K HK => ?_
        go_wp2_with fail
        refine HK.out _ _ (Grow.refl _) ?_
        clear HK K
        refine parts_step2 (fun hw => by first | (cases hw; done) | (apply looks_run; intro w'; go_simp; try first | rfl | rw [if_neg (by omega)])) fun K HK => ?_
        go_wp2_with fail
        refine HK.out _ _ (Grow.refl _) ?_
        clear HK K
        refine parts_step2 (fun hw => by first | (cases hw; done) | (apply looks_run; intro w'; go_simp; try first | rfl | rw [if_neg (by omega)])) fun K HK => ?_
        go_wp2_with fail
        refine HK.out _ _ (Grow.refl _) ?_
        clear HK K
        refine parts_step2 (fun hw => by first | (cases hw; done) | (apply looks_run; intro w'; go_simp; try first | rfl | rw [if_neg (by omega)])) fun K HK => ?_
        go_wp2_with fail
        refine HK.out _ _ (Grow.refl _) ?_
        clear HK K
        refine parts_step2 (fun hw => by first | (cases hw; done) | (apply looks_run; intro w'; go_simp; try first | rfl | rw [if_neg (by omega)])) fun K HK => ?_
        go_wp2_with fail
        refine HK.out _ _ (Grow.refl _) ?_
        clear HK K
        refine parts_step2 (fun hw => by first | (cases hw; done) | (apply looks_run; intro w'; go_simp; try first | rfl | rw [if_neg (by omega)])) fun K HK => ?_
        go_wp2_with fail
        refine HK.out _ _ (Grow.refl _) ?_
        clear HK K
        refine parts_step2 (fun hw => by first | (cases hw; done) | (apply looks_run; intro w'; go_simp; try first | rfl | rw [if_neg (by omega)])) fun K HK => ?_
        go_wp2_with fail
        refine HK.out _ _ (Grow.refl _) ?_
        clear HK K
        refine parts_step2 (fun hw => by first | (cases hw; done) | (apply looks_run; intro w'; go_simp; try first | rfl | rw [if_neg (by omega)])) fun K HK => ?_
        go_wp2_with fail
        refine HK.out _ _ (Grow.refl _) ?_
        clear HK K
        refine parts_step2 (fun hw => by first | (cases hw; done) | (apply looks_run; intro w'; go_simp; try first | rfl | rw [if_neg (by omega)])) fun K HK => ?_
        go_wp2_with fail
        refine HK.out _ _ (Grow.refl _) ?_
        clear HK K
        refine parts_step2 (fun hw => by first | (cases hw; done) | (apply looks_run; intro w'; go_simp; try first | rfl | rw [if_neg (by omega)])) fun K HK => ?_
        go_wp2_with fail
        refine HK.out _ _ (Grow.refl _) ?_
        clear HK K
        refine parts_step2 (fun hw => by first | (cases hw; done) | (apply looks_run; intro w'; go_simp; try first | rfl | rw [if_neg (by omega)])) fun K HK => ?_
        go_wp2_with fail
        refine HK.out _ _ (Grow.refl _) ?_
        clear HK K
        refine parts_done ?_
        go_wp2
        go_ret
        exact ⟨by first | rfl | simp, G⟩
theorem vectorTells_walk (a b : Vc) (r n : Int) (w : World) : Calls Try.prog 8 #[a.val, b.val, .agg #[.int .i64 r, .int .i64 n]] w fun e w' => e = .returned (.bool true) ∧ Grow w w' := by
  cases hA : a.ok
  · exact vt_A a b r n w hA
  cases hI : isIdB r n
  · cases hB : b.ok
    · exact vt_BX a b r n w hA hB hI hI
    · exact vt_DX a b r n w hA hB hI hI
  have hr : r = 0 ∨ r = 1 := by
    have h3 : isReg r = true := by
      have h2 := hI
      unfold isIdB at h2
      cases hq : isReg r
      · rw [hq] at h2; cases h2
      · rfl
    simpa [isReg] using h3
  rcases hr with rfl | rfl
  · cases hB : b.ok
    · exact vt_B0 a b n w hA hB hI hI
    · exact vt_D0 a b n w hA hB hI hI
  · cases hB : b.ok
    · exact vt_B1 a b n w hA hB hI hI
    · exact vt_D1 a b n w hA hB hI hI
end Go.Proofs.Ytoimoehdnmcmkab
