/- The document's check of an entry: cutwaterref.CheckEntry. -/
import Derived.Test.YtikdncgjaomlcaaR1
namespace Go.Proofs.Ytikdncgjaomlcaa
open Go.RowKit

theorem betw_col (c : Int) : betw c 1 7 = !(decide (c < 1) || decide (7 < c)) := by
  unfold betw
  rw [Bool.eq_iff_iff]
  simp
theorem checkErr_eq (r n c : Int) (tl len : Nat) (R N : Nat → Int) : checkErr r n c tl len R N = if isIdB r n = false ∨ betw c 1 7 = false then 3 else if 12 < tl ∨ 6 < len then 2 else linksErr r n R N len := by
  unfold checkErr
  have : (isIdB r n = false ∨ c < 1 ∨ 7 < c) ↔ (isIdB r n = false ∨ betw c 1 7 = false) := by rw [betw_col]; cases isIdB r n <;> simp <;> omega
  simp only [this]

set_option maxHeartbeats 4000000 in
theorem refLinks (r n c : Int) (s : ByteArray) (a : Option Addr) (len cap : Nat) (R N : Nat → Int) (w : World) (hids : IdsAt w a len R N) (hs : s.size ≤ 9223372036854775807) (hid : isIdB r n = true) (hc : betw c 1 7 = true) (ht : ¬ 12 < s.size) (hk : ¬ 6 < len) :
    Calls Try.prog 11 #[.agg #[.int .i64 r, .int .i64 n, .int .i64 c, .string s, .slice a len cap]] w fun e w' => e = .returned (.int .i64 (linksErr r n R N len)) ∧ Grow w w' := by
  have hl := hids.1
  have HI : Hid (IdsAt w a len R N) := hids
  clear hids
  have hd3 : decide (12 < s.size) = false := by simpa using ht
  have hd4 : decide (6 < len) = false := by simpa using hk
  go_enter Try.func11, Try.ntmps11
  go_wp2_with fail
  refine (refIsId_any _ _ _).mono ?_
  rw [hid]
  rintro e w1 ⟨rfl, g1⟩
  have e0 := cell_grow g1 (a := ⟨w.heap.size, 0, none⟩) (v := .int .i64 r) (by simp)
  have e1 := cell_grow g1 (a := ⟨w.heap.size, 1, none⟩) (v := .int .i64 n) (by simp)
  have e2 := cell_grow g1 (a := ⟨w.heap.size, 2, none⟩) (v := .int .i64 c) (by simp)
  have e3 := cell_grow g1 (a := ⟨w.heap.size, 3, none⟩) (v := .string s) (by simp)
  have e4 := cell_grow g1 (a := ⟨w.heap.size, 4, none⟩) (v := .slice a len cap) (by simp)
  have G1 := ((Grow.refl w).alloc _).trans g1
  clear g1
  go_wp2_with fail
  refine (between_any _ _ _ _).mono ?_
  rw [hc]
  rintro e w1 ⟨rfl, rfl⟩
  go_wp2_with fail
  clear e2 e3
  go_loopw [3] (fun i wr => ∃ k : Nat, k ≤ len ∧ i = .int .i64 k ∧ linksErr r n R N k = 0 ∧ Grow w wr ∧ IdsAt wr a len R N ∧ wr.cell? ⟨w.heap.size, 0, none⟩ = some (.int .i64 r) ∧ wr.cell? ⟨w.heap.size, 1, none⟩ = some (.int .i64 n) ∧ wr.cell? ⟨w.heap.size, 4, none⟩ = some (.slice a len cap)) (fun i _ => len - (intOf i).toNat)
  case atStart => exact ⟨0, Nat.zero_le _, rfl, rfl, G1, HI.out.grow G1, e0, e1, e4⟩
  case round =>
    clear e0 e1 e4 G1
    obtain ⟨k, hk, rfl, hz, q1, i1, e0, e1, e4⟩ := hrel
    have HZ : Hid (linksErr r n R N k = 0) := hz
    clear hz
    by_cases hlt : k < len
    · obtain ⟨b, off, rfl, c0, c1⟩ := i1.at k hlt
      have d0 := c0 k hlt
      have d1 := c1 k hlt
      have hlt' : (k : Int) < (len : Int) := by omega
      have HM := show Hid _ from linksErr_at r n R N k len HZ.out
      have HST := show Hid _ from linksErr_step r n R N k HZ.out
      cases hid' : isIdB (R k) (N k)
      · go_wp2_with fail
        refine (refIsId_any _ _ _).mono ?_
        rw [hid']
        rintro e w2 ⟨rfl, g2⟩
        go_wp2_with fail
        go_ret
        have e3 : linkErr r n R N k = 3 := by simp [linkErr, hid']
        exact ⟨by rw [HM.out (by rw [e3]; decide) hlt, e3]; rfl, q1.trans g2⟩
      · go_wp2_with fail
        refine (refIsId_any _ _ _).mono ?_
        rw [hid']
        rintro e w2 ⟨rfl, g2⟩
        replace c0 := cell_grow g2 (c0 (k - 1) (by omega))
        replace c1 := cell_grow g2 (c1 (k - 1) (by omega))
        replace e0 := cell_grow (g2.trans (Grow.refl w2).drew) e0
        replace e1 := cell_grow (g2.trans (Grow.refl w2).drew) e1
        replace e4 := cell_grow (g2.trans (Grow.refl w2).drew) e4
        replace d0 := cell_grow (g2.trans (Grow.refl w2).drew) d0
        replace d1 := cell_grow (g2.trans (Grow.refl w2).drew) d1
        replace q1 := q1.trans (g2.trans (Grow.refl w2).drew)
        replace i1 := i1.grow (g2.trans (Grow.refl w2).drew)
        clear g2
        by_cases hk0 : k = 0
        · subst hk0
          clear c0 c1
          rw [Nat.zero_mul, Nat.add_zero] at d0 d1
          by_cases hR : R 0 = r
          · have hR1 : (R 0 == r) = true := by simpa using hR
            have HR : Hid (R 0 = r) := hR
            clear hR
            by_cases hN : n ≤ N 0
            · have hN1 : decide (n ≤ N 0) = true := by simpa using hN
              go_wp2_with fail
              refine wp_region_path [(0, 0), (1, 2), (2, 0), (3, 0), (4, 0), (5, 0), (6, 2), (7, 0), (8, 0), (9, 0), (10, 0), (11, 0), (12, 0), (13, 0), (14, 1), (15, 0), (16, 0), (17, 0), (18, 0), (19, 0), (20, 0), (21, 0), (22, 0), (23, 0), (24, 0), (25, 0), (26, 0), (27, 2), (28, 0), (29, 0), (30, 0), (31, 0), (32, 0), (33, 0), (34, 0), (35, 0), (36, 0), (37, 0), (38, 2), (39, 0), (40, 0)] (by kernel_rfl) (by kernel_rfl) (by kernel_rfl) (by kernel_rfl) ?_
              simp only [parts, headed, headed2, List.getElem?_toArray, List.getElem?_cons_zero, List.getElem?_cons_succ]
              refine parts_step fun K HK => ?_
              go_wp2_with fail
              refine HK.out _ _ (Grow.refl _) ?_
              clear HK K
              refine parts_step2 (fun hw => by first | (cases hw; done) | (apply looks_run; intro w'; go_simp; try rfl)) fun K HK => ?_
              go_wp2_with fail
              refine HK.out _ _ (Grow.refl _) ?_
              clear HK K
              refine parts_step2 (fun hw => by first | (cases hw; done) | (apply looks_run; intro w'; go_simp; try rfl)) fun K HK => ?_
              go_wp2_with fail
              refine HK.out _ _ (Grow.refl _) ?_
              clear HK K
              refine parts_step fun K HK => ?_
              go_wp2_with fail
              refine HK.out _ _ (Grow.refl _) ?_
              clear HK K
              refine parts_step2 (fun hw => by first | (cases hw; done) | (apply looks_run; intro w'; go_simp; try rfl)) fun K HK => ?_
              go_wp2_with fail
              refine HK.out _ _ (Grow.refl _) ?_
              clear HK K
              refine parts_step2 (fun hw => by first | (cases hw; done) | (apply looks_run; intro w'; go_simp; try rfl)) fun K HK => ?_
              go_wp2_with fail
              refine HK.out _ _ (Grow.refl _) ?_
              clear HK K
              refine parts_done ?_
              go_wp2
              go_ret
              have e3 : linkErr r n R N 0 = 4 := by rw [linkErr, if_neg (by simp [hid']), if_neg (by simp), if_pos ⟨HR.out, hN⟩]
              exact ⟨by rw [HM.out (by rw [e3]; decide) hlt, e3]; rfl, q1⟩
            · have hN1 : decide (n ≤ N 0) = false := by simpa using hN
              go_wp2_with fail
              refine wp_region_path [(0, 0), (1, 2), (2, 0), (3, 0), (4, 0), (5, 0), (6, 2), (7, 0), (8, 0), (9, 0), (10, 0), (11, 0), (12, 0), (13, 0), (14, 1), (15, 0), (16, 0), (17, 0), (18, 0), (19, 0), (20, 0), (21, 0), (22, 0), (23, 0), (24, 0), (25, 0), (26, 0), (27, 2), (28, 0), (29, 0), (30, 0), (31, 0), (32, 0), (33, 0), (34, 0), (35, 0), (36, 0), (37, 0), (38, 2), (39, 0), (40, 0)] (by kernel_rfl) (by kernel_rfl) (by kernel_rfl) (by kernel_rfl) ?_
              simp only [parts, headed, headed2, List.getElem?_toArray, List.getElem?_cons_zero, List.getElem?_cons_succ]
              refine parts_step fun K HK => ?_
              go_wp2_with fail
              refine HK.out _ _ (Grow.refl _) ?_
              clear HK K
              refine parts_step2 (fun hw => by first | (cases hw; done) | (apply looks_run; intro w'; go_simp; try rfl)) fun K HK => ?_
              go_wp2_with fail
              refine HK.out _ _ (Grow.refl _) ?_
              clear HK K
              refine parts_step2 (fun hw => by first | (cases hw; done) | (apply looks_run; intro w'; go_simp; try rfl)) fun K HK => ?_
              go_wp2_with fail
              refine HK.out _ _ (Grow.refl _) ?_
              clear HK K
              refine parts_step fun K HK => ?_
              go_wp2_with fail
              refine HK.out _ _ (Grow.refl _) ?_
              clear HK K
              refine parts_step2 (fun hw => by first | (cases hw; done) | (apply looks_run; intro w'; go_simp; try rfl)) fun K HK => ?_
              go_wp2_with fail
              refine HK.out _ _ (Grow.refl _) ?_
              clear HK K
              refine parts_step2 (fun hw => by first | (cases hw; done) | (apply looks_run; intro w'; go_simp; try rfl)) fun K HK => ?_
              go_wp2_with fail
              refine HK.out _ _ (Grow.refl _) ?_
              clear HK K
              refine parts_done ?_
              go_wp2
              go_roundw
              case rel => exact ⟨1, by omega, by go_num, by rw [HST.out, linkErr, if_neg (by simp [hid']), if_neg (by simp), if_neg (by omega)], q1, i1, e0, e1, e4⟩
              case measure => simp [intOf]; omega
          · have hR1 : (R 0 == r) = false := by simpa using hR
            go_wp2_with fail
            refine wp_region_path [(0, 0), (1, 2), (2, 0), (3, 0), (4, 0), (5, 0), (6, 2), (7, 0), (8, 0), (9, 0), (10, 0), (11, 0), (12, 0), (13, 0), (14, 1), (15, 0), (16, 0), (17, 0), (18, 0), (19, 0), (20, 0), (21, 0), (22, 0), (23, 0), (24, 0), (25, 0), (26, 0), (27, 2), (28, 0), (29, 0), (30, 0), (31, 0), (32, 0), (33, 0), (34, 0), (35, 0), (36, 0), (37, 0), (38, 2), (39, 0), (40, 0)] (by kernel_rfl) (by kernel_rfl) (by kernel_rfl) (by kernel_rfl) ?_
            simp only [parts, headed, headed2, List.getElem?_toArray, List.getElem?_cons_zero, List.getElem?_cons_succ]
            refine parts_step fun K HK => ?_
            go_wp2_with fail
            refine HK.out _ _ (Grow.refl _) ?_
            clear HK K
            refine parts_step2 (fun hw => by first | (cases hw; done) | (apply looks_run; intro w'; go_simp; try rfl)) fun K HK => ?_
            go_wp2_with fail
            refine HK.out _ _ (Grow.refl _) ?_
            clear HK K
            refine parts_step2 (fun hw => by first | (cases hw; done) | (apply looks_run; intro w'; go_simp; try rfl)) fun K HK => ?_
            go_wp2_with fail
            refine HK.out _ _ (Grow.refl _) ?_
            clear HK K
            refine parts_step fun K HK => ?_
            go_wp2_with fail
            refine HK.out _ _ (Grow.refl _) ?_
            clear HK K
            refine parts_step2 (fun hw => by first | (cases hw; done) | (apply looks_run; intro w'; go_simp; try rfl)) fun K HK => ?_
            go_wp2_with fail
            refine HK.out _ _ (Grow.refl _) ?_
            clear HK K
            refine parts_step2 (fun hw => by first | (cases hw; done) | (apply looks_run; intro w'; go_simp; try rfl)) fun K HK => ?_
            go_wp2_with fail
            refine HK.out _ _ (Grow.refl _) ?_
            clear HK K
            refine parts_done ?_
            go_wp2
            go_roundw
            case rel => exact ⟨1, by omega, by go_num, by rw [HST.out, linkErr, if_neg (by simp [hid']), if_neg (by simp), if_neg (by omega)], q1, i1, e0, e1, e4⟩
            case measure => simp [intOf]; omega
        · obtain ⟨j, rfl⟩ : ∃ j, k = j + 1 := ⟨k - 1, by omega⟩
          replace c0 := cell_grow (Grow.refl w2).drew c0
          replace c1 := cell_grow (Grow.refl w2).drew c1
          simp only [Nat.add_sub_cancel] at c0 c1
          have hk1 : (j : Int) < (len : Int) := by omega
          have hk4 : decide ((0 : Int) < (j : Int) + 1) = true := by simp
          have hk6 : IntKind.i64.wrap (j : Int) = j := by simp [IntKind.wrap_i64]; omega
          cases hless : idLess (R j) (N j) (R (j + 1)) (N (j + 1))
          · have HLS : Hid (idLess (R j) (N j) (R (j + 1)) (N (j + 1)) = false) := hless
            clear hless
            go_wp2_with fail
            refine wp_region_path [(0, 0), (1, 2), (2, 0), (3, 0), (4, 0), (5, 0), (6, 2), (7, 0), (8, 0), (9, 0), (10, 0), (11, 0), (12, 0), (13, 0), (14, 1), (15, 0), (16, 0), (17, 0), (18, 0), (19, 0), (20, 0), (21, 0), (22, 0), (23, 0), (24, 0), (25, 0), (26, 0), (27, 2), (28, 0), (29, 0), (30, 0), (31, 0), (32, 0), (33, 0), (34, 0), (35, 0), (36, 0), (37, 0), (38, 2), (39, 0), (40, 0)] (by kernel_rfl) (by kernel_rfl) (by kernel_rfl) (by kernel_rfl) ?_
            simp only [parts, headed, headed2, List.getElem?_toArray, List.getElem?_cons_zero, List.getElem?_cons_succ]
            refine parts_step fun K HK => ?_
            go_wp2_with fail
            refine HK.out _ _ (Grow.refl _) ?_
            clear HK K
            refine parts_step2 (fun hw => by first | (cases hw; done) | (apply looks_run; intro w'; go_simp; try rfl)) fun K HK => ?_
            go_wp2_with fail
            refine HK.out _ _ (Grow.refl _) ?_
            clear HK K
            refine parts_step2 (fun hw => by first | (cases hw; done) | (apply looks_run; intro w'; go_simp; try rfl)) fun K HK => ?_
            go_wp2_with fail
            refine (refAhead_any _ _ _ _ _).mono ?_
            rw [HLS.out]
            rintro e w2 ⟨rfl, hg⟩
            replace e0 := cell_grow hg e0
            replace e1 := cell_grow hg e1
            replace e4 := cell_grow hg e4
            replace d0 := cell_grow hg d0
            replace d1 := cell_grow hg d1
            replace q1 := q1.trans hg
            replace i1 := i1.grow hg
            go_wp2_with fail
            refine HK.out _ _ hg ?_
            clear HK K
            refine parts_step fun K HK => ?_
            go_wp2_with fail
            refine HK.out _ _ (Grow.refl _) ?_
            clear HK K
            refine parts_step2 (fun hw => by first | (cases hw; done) | (apply looks_run; intro w'; go_simp; try rfl)) fun K HK => ?_
            go_wp2_with fail
            refine HK.out _ _ (Grow.refl _) ?_
            clear HK K
            refine parts_step2 (fun hw => by first | (cases hw; done) | (apply looks_run; intro w'; go_simp; try rfl)) fun K HK => ?_
            go_wp2_with fail
            refine HK.out _ _ (Grow.refl _) ?_
            clear HK K
            refine parts_done ?_
            go_wp2
            go_ret
            have e3 : linkErr r n R N (j + 1) = 4 := by rw [linkErr, if_neg (by simp [hid']), if_pos ⟨by omega, HLS.out⟩]
            exact ⟨by rw [HM.out (by rw [e3]; decide) hlt, e3]; rfl, q1⟩
          · have HLS : Hid (idLess (R j) (N j) (R (j + 1)) (N (j + 1)) = true) := hless
            clear hless
            by_cases hR : R (j + 1) = r
            · have hR1 : (R (j + 1) == r) = true := by simpa using hR
              have HR : Hid (R (j + 1) = r) := hR
              clear hR
              by_cases hN : n ≤ N (j + 1)
              · have hN1 : decide (n ≤ N (j + 1)) = true := by simpa using hN
                go_wp2_with fail
                refine wp_region_path [(0, 0), (1, 2), (2, 0), (3, 0), (4, 0), (5, 0), (6, 2), (7, 0), (8, 0), (9, 0), (10, 0), (11, 0), (12, 0), (13, 0), (14, 1), (15, 0), (16, 0), (17, 0), (18, 0), (19, 0), (20, 0), (21, 0), (22, 0), (23, 0), (24, 0), (25, 0), (26, 0), (27, 2), (28, 0), (29, 0), (30, 0), (31, 0), (32, 0), (33, 0), (34, 0), (35, 0), (36, 0), (37, 0), (38, 2), (39, 0), (40, 0)] (by kernel_rfl) (by kernel_rfl) (by kernel_rfl) (by kernel_rfl) ?_
                simp only [parts, headed, headed2, List.getElem?_toArray, List.getElem?_cons_zero, List.getElem?_cons_succ]
                refine parts_step fun K HK => ?_
                go_wp2_with fail
                refine HK.out _ _ (Grow.refl _) ?_
                clear HK K
                refine parts_step2 (fun hw => by first | (cases hw; done) | (apply looks_run; intro w'; go_simp; try rfl)) fun K HK => ?_
                go_wp2_with fail
                refine HK.out _ _ (Grow.refl _) ?_
                clear HK K
                refine parts_step2 (fun hw => by first | (cases hw; done) | (apply looks_run; intro w'; go_simp; try rfl)) fun K HK => ?_
                go_wp2_with fail
                refine (refAhead_any _ _ _ _ _).mono ?_
                rw [HLS.out]
                rintro e w2 ⟨rfl, hg⟩
                replace e0 := cell_grow hg e0
                replace e1 := cell_grow hg e1
                replace e4 := cell_grow hg e4
                replace d0 := cell_grow hg d0
                replace d1 := cell_grow hg d1
                replace q1 := q1.trans hg
                replace i1 := i1.grow hg
                go_wp2_with fail
                refine HK.out _ _ hg ?_
                clear HK K
                refine parts_step fun K HK => ?_
                go_wp2_with fail
                refine HK.out _ _ (Grow.refl _) ?_
                clear HK K
                refine parts_step2 (fun hw => by first | (cases hw; done) | (apply looks_run; intro w'; go_simp; try rfl)) fun K HK => ?_
                go_wp2_with fail
                refine HK.out _ _ (Grow.refl _) ?_
                clear HK K
                refine parts_step2 (fun hw => by first | (cases hw; done) | (apply looks_run; intro w'; go_simp; try rfl)) fun K HK => ?_
                go_wp2_with fail
                refine HK.out _ _ (Grow.refl _) ?_
                clear HK K
                refine parts_done ?_
                go_wp2
                go_ret
                have e3 : linkErr r n R N (j + 1) = 4 := by rw [linkErr, if_neg (by simp [hid']), if_neg (by simp [HLS.out]), if_pos ⟨HR.out, hN⟩]
                exact ⟨by rw [HM.out (by rw [e3]; decide) hlt, e3]; rfl, q1⟩
              · have hN1 : decide (n ≤ N (j + 1)) = false := by simpa using hN
                go_wp2_with fail
                refine wp_region_path [(0, 0), (1, 2), (2, 0), (3, 0), (4, 0), (5, 0), (6, 2), (7, 0), (8, 0), (9, 0), (10, 0), (11, 0), (12, 0), (13, 0), (14, 1), (15, 0), (16, 0), (17, 0), (18, 0), (19, 0), (20, 0), (21, 0), (22, 0), (23, 0), (24, 0), (25, 0), (26, 0), (27, 2), (28, 0), (29, 0), (30, 0), (31, 0), (32, 0), (33, 0), (34, 0), (35, 0), (36, 0), (37, 0), (38, 2), (39, 0), (40, 0)] (by kernel_rfl) (by kernel_rfl) (by kernel_rfl) (by kernel_rfl) ?_
                simp only [parts, headed, headed2, List.getElem?_toArray, List.getElem?_cons_zero, List.getElem?_cons_succ]
                refine parts_step fun K HK => ?_
                go_wp2_with fail
                refine HK.out _ _ (Grow.refl _) ?_
                clear HK K
                refine parts_step2 (fun hw => by first | (cases hw; done) | (apply looks_run; intro w'; go_simp; try rfl)) fun K HK => ?_
                go_wp2_with fail
                refine HK.out _ _ (Grow.refl _) ?_
                clear HK K
                refine parts_step2 (fun hw => by first | (cases hw; done) | (apply looks_run; intro w'; go_simp; try rfl)) fun K HK => ?_
                go_wp2_with fail
                refine (refAhead_any _ _ _ _ _).mono ?_
                rw [HLS.out]
                rintro e w2 ⟨rfl, hg⟩
                replace e0 := cell_grow hg e0
                replace e1 := cell_grow hg e1
                replace e4 := cell_grow hg e4
                replace d0 := cell_grow hg d0
                replace d1 := cell_grow hg d1
                replace q1 := q1.trans hg
                replace i1 := i1.grow hg
                go_wp2_with fail
                refine HK.out _ _ hg ?_
                clear HK K
                refine parts_step fun K HK => ?_
                go_wp2_with fail
                refine HK.out _ _ (Grow.refl _) ?_
                clear HK K
                refine parts_step2 (fun hw => by first | (cases hw; done) | (apply looks_run; intro w'; go_simp; try rfl)) fun K HK => ?_
                go_wp2_with fail
                refine HK.out _ _ (Grow.refl _) ?_
                clear HK K
                refine parts_step2 (fun hw => by first | (cases hw; done) | (apply looks_run; intro w'; go_simp; try rfl)) fun K HK => ?_
                go_wp2_with fail
                refine HK.out _ _ (Grow.refl _) ?_
                clear HK K
                refine parts_done ?_
                go_wp2
                go_roundw
                case rel => exact ⟨j + 2, by omega, by go_num, by rw [HST.out, linkErr, if_neg (by simp [hid']), if_neg (by simp [HLS.out]), if_neg (by omega)], q1, i1, e0, e1, e4⟩
                case measure => simp [intOf]; omega
            · have hR1 : (R (j + 1) == r) = false := by simpa using hR
              go_wp2_with fail
              refine wp_region_path [(0, 0), (1, 2), (2, 0), (3, 0), (4, 0), (5, 0), (6, 2), (7, 0), (8, 0), (9, 0), (10, 0), (11, 0), (12, 0), (13, 0), (14, 1), (15, 0), (16, 0), (17, 0), (18, 0), (19, 0), (20, 0), (21, 0), (22, 0), (23, 0), (24, 0), (25, 0), (26, 0), (27, 2), (28, 0), (29, 0), (30, 0), (31, 0), (32, 0), (33, 0), (34, 0), (35, 0), (36, 0), (37, 0), (38, 2), (39, 0), (40, 0)] (by kernel_rfl) (by kernel_rfl) (by kernel_rfl) (by kernel_rfl) ?_
              simp only [parts, headed, headed2, List.getElem?_toArray, List.getElem?_cons_zero, List.getElem?_cons_succ]
              refine parts_step fun K HK => ?_
              go_wp2_with fail
              refine HK.out _ _ (Grow.refl _) ?_
              clear HK K
              refine parts_step2 (fun hw => by first | (cases hw; done) | (apply looks_run; intro w'; go_simp; try rfl)) fun K HK => ?_
              go_wp2_with fail
              refine HK.out _ _ (Grow.refl _) ?_
              clear HK K
              refine parts_step2 (fun hw => by first | (cases hw; done) | (apply looks_run; intro w'; go_simp; try rfl)) fun K HK => ?_
              go_wp2_with fail
              refine (refAhead_any _ _ _ _ _).mono ?_
              rw [HLS.out]
              rintro e w2 ⟨rfl, hg⟩
              replace e0 := cell_grow hg e0
              replace e1 := cell_grow hg e1
              replace e4 := cell_grow hg e4
              replace d0 := cell_grow hg d0
              replace d1 := cell_grow hg d1
              replace q1 := q1.trans hg
              replace i1 := i1.grow hg
              go_wp2_with fail
              refine HK.out _ _ hg ?_
              clear HK K
              refine parts_step fun K HK => ?_
              go_wp2_with fail
              refine HK.out _ _ (Grow.refl _) ?_
              clear HK K
              refine parts_step2 (fun hw => by first | (cases hw; done) | (apply looks_run; intro w'; go_simp; try rfl)) fun K HK => ?_
              go_wp2_with fail
              refine HK.out _ _ (Grow.refl _) ?_
              clear HK K
              refine parts_step2 (fun hw => by first | (cases hw; done) | (apply looks_run; intro w'; go_simp; try rfl)) fun K HK => ?_
              go_wp2_with fail
              refine HK.out _ _ (Grow.refl _) ?_
              clear HK K
              refine parts_done ?_
              go_wp2
              go_roundw
              case rel => exact ⟨j + 2, by omega, by go_num, by rw [HST.out, linkErr, if_neg (by simp [hid']), if_neg (by simp [HLS.out]), if_neg (by omega)], q1, i1, e0, e1, e4⟩
              case measure => simp [intOf]; omega
    · go_wp2
      go_ret
      have : k = len := by omega
      subst this
      exact ⟨by rw [HZ.out]; rfl, q1⟩

set_option maxHeartbeats 1000000 in
/-- cutwaterref.CheckEntry answers as entry.Check does. -/
theorem refCheck_any (r n c : Int) (s : ByteArray) (a : Option Addr) (len cap : Nat) (R N : Nat → Int) (w : World) (hids : IdsAt w a len R N) (hs : s.size ≤ 9223372036854775807) :
    Calls Try.prog 11 #[.agg #[.int .i64 r, .int .i64 n, .int .i64 c, .string s, .slice a len cap]] w fun e w' => e = .returned (.int .i64 (checkErr r n c s.size len R N)) ∧ Grow w w' := by
  have hl := hids.1
  have HI : Hid (IdsAt w a len R N) := hids
  clear hids
  cases hid : isIdB r n
  · go_enter Try.func11, Try.ntmps11
    go_wp2_with fail
    refine (refIsId_any _ _ _).mono ?_
    rw [hid]
    rintro e w1 ⟨rfl, g1⟩
    go_wp2_with fail
    go_ret
    exact ⟨eq_ret (by rw [checkErr_eq, if_pos (.inl hid)]), ((Grow.refl _).alloc _).trans g1⟩
  cases hc : betw c 1 7
  · go_enter Try.func11, Try.ntmps11
    go_wp2_with fail
    refine (refIsId_any _ _ _).mono ?_
    rw [hid]
    rintro e w1 ⟨rfl, g1⟩
    have e0 := cell_grow g1 (a := ⟨w.heap.size, 0, none⟩) (v := .int .i64 r) (by simp)
    have e1 := cell_grow g1 (a := ⟨w.heap.size, 1, none⟩) (v := .int .i64 n) (by simp)
    have e2 := cell_grow g1 (a := ⟨w.heap.size, 2, none⟩) (v := .int .i64 c) (by simp)
    have e3 := cell_grow g1 (a := ⟨w.heap.size, 3, none⟩) (v := .string s) (by simp)
    have e4 := cell_grow g1 (a := ⟨w.heap.size, 4, none⟩) (v := .slice a len cap) (by simp)
    go_wp2_with fail
    refine (between_any _ _ _ _).mono ?_
    rw [hc]
    rintro e w1 ⟨rfl, rfl⟩
    go_wp2_with fail
    go_ret
    exact ⟨eq_ret (by rw [checkErr_eq, if_pos (.inr hc)]), ((Grow.refl _).alloc _).trans g1⟩
  have hno : ¬ (isIdB r n = false ∨ betw c 1 7 = false) := by simp [hid, hc]
  by_cases ht : 12 < s.size
  · have HN : Hid _ := hno
    clear hno
    have hd3 : decide (12 < s.size) = true := by simpa using ht
    go_enter Try.func11, Try.ntmps11
    go_wp2_with fail
    refine (refIsId_any _ _ _).mono ?_
    rw [hid]
    rintro e w1 ⟨rfl, g1⟩
    have e0 := cell_grow g1 (a := ⟨w.heap.size, 0, none⟩) (v := .int .i64 r) (by simp)
    have e1 := cell_grow g1 (a := ⟨w.heap.size, 1, none⟩) (v := .int .i64 n) (by simp)
    have e2 := cell_grow g1 (a := ⟨w.heap.size, 2, none⟩) (v := .int .i64 c) (by simp)
    have e3 := cell_grow g1 (a := ⟨w.heap.size, 3, none⟩) (v := .string s) (by simp)
    have e4 := cell_grow g1 (a := ⟨w.heap.size, 4, none⟩) (v := .slice a len cap) (by simp)
    go_wp2_with fail
    refine (between_any _ _ _ _).mono ?_
    rw [hc]
    rintro e w1 ⟨rfl, rfl⟩
    go_wp2_with fail
    go_ret
    exact ⟨eq_ret (by rw [checkErr_eq, if_neg HN.out, if_pos (.inl ht)]), ((Grow.refl _).alloc _).trans g1⟩
  by_cases hk : 6 < len
  · have HN : Hid _ := hno
    clear hno
    have hd3 : decide (12 < s.size) = false := by simpa using ht
    have hd4 : decide (6 < len) = true := by simpa using hk
    go_enter Try.func11, Try.ntmps11
    go_wp2_with fail
    refine (refIsId_any _ _ _).mono ?_
    rw [hid]
    rintro e w1 ⟨rfl, g1⟩
    have e0 := cell_grow g1 (a := ⟨w.heap.size, 0, none⟩) (v := .int .i64 r) (by simp)
    have e1 := cell_grow g1 (a := ⟨w.heap.size, 1, none⟩) (v := .int .i64 n) (by simp)
    have e2 := cell_grow g1 (a := ⟨w.heap.size, 2, none⟩) (v := .int .i64 c) (by simp)
    have e3 := cell_grow g1 (a := ⟨w.heap.size, 3, none⟩) (v := .string s) (by simp)
    have e4 := cell_grow g1 (a := ⟨w.heap.size, 4, none⟩) (v := .slice a len cap) (by simp)
    go_wp2_with fail
    refine (between_any _ _ _ _).mono ?_
    rw [hc]
    rintro e w1 ⟨rfl, rfl⟩
    go_wp2_with fail
    go_ret
    exact ⟨eq_ret (by rw [checkErr_eq, if_neg HN.out, if_pos (.inr hk)]), ((Grow.refl _).alloc _).trans g1⟩
  rw [checkErr_eq, if_neg hno, if_neg (by omega)]
  exact refLinks r n c s a len cap R N w HI.out hs hid hc ht hk
end Go.Proofs.Ytikdncgjaomlcaa
