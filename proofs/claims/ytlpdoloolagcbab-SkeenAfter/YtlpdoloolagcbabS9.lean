/- Who keeps a server: await. -/
import Derived.Test.YtlpdoloolagcbabS8
import Derived.Test.YtlpdoloolagcbabX
namespace Go.Proofs.Ytlpdoloolagcbab
open Go.RowKit

set_option maxHeartbeats 4000000 in
theorem await_any (base bk : Nat) (s : Sv) (x : Wt) (w : World) (hK : KeepAt base bk w s) (hl : s.waits.length ≤ 8) :
    Calls Try.prog 73 #[.pointer (some ⟨bk, 0, none⟩), x.val] w fun e w' => e = .returned (.tuple #[]) ∧ KeepAt base bk w' ⟨s.clock, insertW s.waits x, s.done⟩ ∧ Below base w w' := by
  obtain ⟨aW, cW, aD, cD, k0, hbase, ⟨oW, oD, ap3'⟩, ap1', ap2'⟩ := hK
  obtain ⟨clock, ws, ds⟩ := s
  simp only at k0 oW oD hl ⊢
  have ap1 := hid ap1'
  have ap2 := hid ap2'
  have ap3 := hid ap3'
  have HW : Hid (WaitsAt w aW cW ws) := RowAt.of_own Wt.enc3 (by omega) oW
  have hlt0 := lt_of_block k0
  have K0 := hid k0
  have oW0 := hid oW
  have oD0 := hid oD
  have hbk : Hid (some bk ≠ (Value.slice aW ws.length cW).ownBlock) := by
    show some bk ≠ _
    cases aW with
    | none => intro e; cases e
    | some y => intro e; exact ap1' y rfl (Option.some.inj e).symm
  have hne : Hid (∀ W : World, Grow w W → (Value.slice aW ws.length cW).ownBlock ≠ some W.heap.size) := by
    intro W hg e
    have := oW.lt W.heap.size e
    have := hg.size
    omega
  clear k0 oW oD ap1' ap2' ap3'
  have g0 : Grow w (w.alloc (Obj.cells #[.int .i64 x.number, .int .i64 x.time, .bool x.final] 64)) := (Grow.refl w).alloc _
  have kx := hid (heap_alloc_new w (Obj.cells #[.int .i64 x.number, .int .i64 x.time, .bool x.final] 64 (0, 0)))
  unfold Wt.val
  go_enter Try.func73, Try.ntmps73
  go_wp2_with fail
  go_loopw [4] (fun t wr => ∃ k : Nat, k ≤ ws.length ∧ t = .int .i64 k ∧ (∀ j, j < k → ∀ d, ws[j]? = some d → d.number < x.number) ∧ Grow (w.alloc (Obj.cells #[.int .i64 x.number, .int .i64 x.time, .bool x.final] 64)) wr) (fun t _ => ws.length - (intOf t).toNat)
  case atStart => exact ⟨0, Nat.zero_le _, rfl, fun j hj => by omega, Grow.refl _⟩
  case round =>
    obtain ⟨k, hk, rfl, hz, hG⟩ := hrel
    have HZ := hid hz
    clear hz
    have hGd : Grow w wr.drew := g0.trans hG.drew
    have kd := hid (grow_block hGd K0.out)
    have xd := hid (grow_block hG.drew kx.out)
    have hlt : bk < wr.drew.heap.size := Nat.lt_of_lt_of_le hlt0 hGd.size
    have oWd := hid (ownsRow_grow oW0.out hGd)
    have oDd := hid (ownsRow_grow oD0.out hGd)
    have hneD : Hid ((Value.slice aW ws.length cW).ownBlock ≠ some wr.drew.heap.size) := hne.out _ hGd
    have hB : Hid (Below base w wr.drew) := Below.mono hGd (by omega)
    have hdd : Grow wr.drew wr.drew.drew := (Grow.refl _).drew
    have hGR : Grow (w.alloc (Obj.cells #[.int .i64 x.number, .int .i64 x.time, .bool x.final] 64)) wr.drew := hG.drew
    by_cases hlk : k < ws.length
    · have hx : ws[k]? = some ws[k] := List.getElem?_eq_getElem hlk
      generalize ws[k] = d at hx
      obtain ⟨b, off, rfl, d0, d1, d2⟩ := (HW.out.grow hGd).at3 hx
      have HX := hid hx
      clear hx d1 d2
      have hlk' : (k : Int) < (ws.length : Int) := by omega
      have hlk'' : decide ((k : Int) < (ws.length : Int)) = true := by simpa using hlk'
      by_cases hd : d.number < x.number
      · have hd' : decide (d.number < x.number) = true := by simpa using hd
        have HD' := hid hd
        clear hd
        go_wp2_with fail
        refine wp_region_path [(0, 0), (1, 0), (2, 2), (3, 0), (4, 0), (5, 0), (6, 0), (7, 2), (8, 0), (9, 0), (10, 2), (11, 0), (12, 0), (13, 0), (14, 0), (15, 0), (16, 0), (17, 0), (18, 0), (19, 0), (20, 2), (21, 0)] (by kernel_rfl) (by kernel_rfl) (by kernel_rfl) (by kernel_rfl) ?_
        simp only [parts, headed, headed2, List.getElem?_toArray, List.getElem?_cons_zero, List.getElem?_cons_succ]
        generalize wr.drew = Wd at *
        have e1 := cell_of_block (o := 1) kd.out rfl; simp at e1
        have x0 := cell_of_block (o := 0) xd.out rfl; simp at x0
        have x1 := cell_of_block (o := 1) xd.out rfl; simp at x1
        have x2 := cell_of_block (o := 2) xd.out rfl; simp at x2
        refine parts_step fun K HK => ?_
        go_wp2_with fail
        refine HK.out _ _ (Grow.refl _) ?_
        clear HK K
        refine parts_step2 (fun hw => by first | (cases hw; done) | (apply looks_run; intro w'; go_simp; try first | rfl | rw [if_neg (by omega)] | rw [if_pos (by omega)])) fun K HK => ?_
        go_wp2_with fail
        refine HK.out _ _ (Grow.refl _) ?_
        clear HK K
        refine parts_step2 (fun hw => by first | (cases hw; done) | (apply looks_run; intro w'; go_simp; try first | rfl | rw [if_neg (by omega)] | rw [if_pos (by omega)])) fun K HK => ?_
        go_wp2_with fail
        refine HK.out _ _ (Grow.refl _) ?_
        clear HK K
        refine parts_step2 (fun hw => by first | (cases hw; done) | (apply looks_run; intro w'; go_simp; try first | rfl | rw [if_neg (by omega)] | rw [if_pos (by omega)])) fun K HK => ?_
        go_wp2_with fail
        refine HK.out _ _ (Grow.refl _) ?_
        clear HK K
        refine parts_step2 (fun hw => by first | (cases hw; done) | (apply looks_run; intro w'; go_simp; try first | rfl | rw [if_neg (by omega)] | rw [if_pos (by omega)])) fun K HK => ?_
        go_wp2_with fail
        refine HK.out _ _ (Grow.refl _) ?_
        clear HK K
        refine parts_done ?_
        go_wp2
        go_roundw
        case rel =>
          refine ⟨k + 1, by omega, by go_num, fun j hj e he => ?_, hGR⟩
          by_cases hjk : j = k
          · subst hjk
            rw [HX.out] at he
            cases he
            exact HD'.out
          · exact HZ.out j (by omega) e he
        case measure => simp [intOf]; omega
      · have hd' : decide (d.number < x.number) = false := by simpa using hd
        have INS : Hid (insAt ws x.number = k) := insAt_is ws x.number k HZ.out hk (fun e he => by rw [HX.out] at he; cases he; exact hd)
        clear hd
        go_wp2_with fail
        refine wp_region_path [(0, 0), (1, 0), (2, 2), (3, 0), (4, 0), (5, 0), (6, 0), (7, 2), (8, 0), (9, 0), (10, 2), (11, 0), (12, 0), (13, 0), (14, 0), (15, 0), (16, 0), (17, 0), (18, 0), (19, 0), (20, 2), (21, 0)] (by kernel_rfl) (by kernel_rfl) (by kernel_rfl) (by kernel_rfl) ?_
        simp only [parts, headed, headed2, List.getElem?_toArray, List.getElem?_cons_zero, List.getElem?_cons_succ]
        generalize wr.drew = Wd at *
        have e1 := cell_of_block (o := 1) kd.out rfl; simp at e1
        have x0 := cell_of_block (o := 0) xd.out rfl; simp at x0
        have x1 := cell_of_block (o := 1) xd.out rfl; simp at x1
        have x2 := cell_of_block (o := 2) xd.out rfl; simp at x2
        refine parts_step fun K HK => ?_
        go_wp2_with fail
        refine HK.out _ _ (Grow.refl _) ?_
        clear HK K
        refine parts_step2 (fun hw => by first | (cases hw; done) | (apply looks_run; intro w'; go_simp; try first | rfl | rw [if_neg (by omega)] | rw [if_pos (by omega)])) fun K HK => ?_
        go_wp2_with fail
        refine HK.out _ _ (Grow.refl _) ?_
        clear HK K
        refine parts_step2 (fun hw => by first | (cases hw; done) | (apply looks_run; intro w'; go_simp; try first | rfl | rw [if_neg (by omega)] | rw [if_pos (by omega)])) fun K HK => ?_
        go_wp2_with fail
        refine HK.out _ _ (Grow.refl _) ?_
        clear HK K
        refine parts_step2 (fun hw => by first | (cases hw; done) | (apply looks_run; intro w'; go_simp; try first | rfl | rw [if_neg (by omega)] | rw [if_pos (by omega)])) fun K HK => ?_
        go_wp2_with fail
        refine HK.out _ _ (Grow.refl _) ?_
        clear HK K
        refine parts_step2 (fun hw => by first | (cases hw; done) | (apply looks_run; intro w'; go_simp; try first | rfl | rw [if_neg (by omega)] | rw [if_pos (by omega)])) fun K HK => ?_
        go_wp2_with fail
        refine HK.out _ _ (Grow.refl _) ?_
        clear HK K
        refine parts_done ?_
        clear d0
        go_wp2_with fail
        refine wp_region_path2 [(0, 0), (1, 0), (2, 2), (3, 0), (4, 0), (5, 0), (6, 0), (7, 0), (8, 1), (9, 3), (10, 2), (11, 0), (12, 0), (13, 3)] (by kernel_rfl) (by kernel_rfl) (by kernel_rfl) (by kernel_rfl) ?_
        simp only [parts, headed, headed2, List.getElem?_toArray, List.getElem?_cons_zero, List.getElem?_cons_succ]
        have hG4 : Grow Wd Wd.drew := hdd
        replace kd := hid (grow_block hG4 kd.out)
        replace xd := hid (grow_block hG4 xd.out)
        replace oWd := hid (ownsRow_grow oWd.out hG4)
        replace oDd := hid (ownsRow_grow oDd.out hG4)
        replace hB := hid (hB.out.trans (Below.mono hG4 (by omega)))
        clear e1 x0 x1 x2
        replace hneD : Hid ((Value.slice (some ⟨b, off, none⟩) ws.length cW).ownBlock ≠ some Wd.drew.heap.size) := hneD.out
        replace hlt : bk < Wd.drew.heap.size := hlt
        clear hdd hG4
        generalize Wd.drew = We at *
        have e1 := cell_of_block (o := 1) kd.out rfl; simp at e1
        have x0 := cell_of_block (o := 0) xd.out rfl; simp at x0
        have x1 := cell_of_block (o := 1) xd.out rfl; simp at x1
        have x2 := cell_of_block (o := 2) xd.out rfl; simp at x2
        refine parts_step fun K HK => ?_
        go_wp2_with fail
        refine HK.out _ _ (Grow.refl _) ?_
        clear HK K
        refine parts_step2 (fun hw => by first | (cases hw; done) | (apply looks_run; intro w'; go_simp; try first | rfl | rw [if_neg (by omega)] | rw [if_pos (by omega)])) fun K HK => ?_
        go_wp2_with fail
        have hg : Grow We (We.alloc (Obj.cells #[.int .i64 x.number, .int .i64 x.time, .bool x.final] 64)) := (Grow.refl We).alloc _
        refine HK.out _ _ hg ?_
        clear HK K
        refine parts_cut fun K HK => ?_
        go_wp2_with fail
        refine (insert_any base (.slice (some ⟨b, off, none⟩) ws.length cW) ws.length k (flat Wt.enc ws) x.enc We.heap.size _ (oWd.out.alloc _) (heap_alloc_new We _) hneD.out rfl x.one (flat_one Wt.one ws) (by omega) (by omega) (by simp; omega)).mono ?_
        rintro e w2 ⟨g', cap', rfl, own2, gr2, hat2⟩
        have kz := (gr2.block bk (by simp; omega) hbk.out).trans ((Below.heap_alloc _ _ _ hlt).trans kd.out)
        have c1 := cell_of_block (o := 1) kz rfl; simp at c1
        have z1 := free_of_block kz 1
        go_wp2_with fail
        refine HK.out _ _ ?_
        clear HK K
        refine parts_cut2 (fun hw => by first | (cases hw; done) | (apply looks_run; intro w'; go_simp; try first | rfl | rw [if_neg (by omega)] | rw [if_pos (by omega)])) fun K HK => ?_
        go_wp2_with fail
        refine HK.out _ _ ?_
        clear HK K
        refine parts_step fun K HK => ?_
        go_wp2_with fail
        refine HK.out _ _ (Grow.refl _) ?_
        clear HK K
        refine parts_done ?_
        go_wp2
        go_end0
        refine ⟨rfl, KeepAt.put (s := ⟨clock, ws, ds⟩) (x := x) kd.out hbase oDd.out ap1.out ap2.out ap3.out INS.out gr2 own2 hat2, ?_⟩
        exact ((hB.out.alloc (by omega) _).trans (below_grown gr2 (fun g hg => (oWd.out.alloc (Obj.cells #[.int .i64 x.number, .int .i64 x.time, .bool x.final] 64)).lt g hg |>.1) (by simp; omega))).setCell (by simpa using hbase) _
    · obtain rfl : k = ws.length := by omega
      have INS : Hid (insAt ws x.number = ws.length) := insAt_is ws x.number _ HZ.out (Nat.le_refl _) (fun e he => by have := (List.getElem?_eq_some_iff.1 he).1; omega)
      have hlk'' : decide ((ws.length : Int) < (ws.length : Int)) = false := by simp
      go_wp2_with fail
      refine wp_region_path [(0, 0), (1, 0), (2, 2), (3, 0), (4, 0), (5, 0), (6, 0), (7, 2), (8, 0), (9, 0), (10, 2), (11, 0), (12, 0), (13, 0), (14, 0), (15, 0), (16, 0), (17, 0), (18, 0), (19, 0), (20, 2), (21, 0)] (by kernel_rfl) (by kernel_rfl) (by kernel_rfl) (by kernel_rfl) ?_
      simp only [parts, headed, headed2, List.getElem?_toArray, List.getElem?_cons_zero, List.getElem?_cons_succ]
      generalize wr.drew = Wd at *
      have e1 := cell_of_block (o := 1) kd.out rfl; simp at e1
      have x0 := cell_of_block (o := 0) xd.out rfl; simp at x0
      have x1 := cell_of_block (o := 1) xd.out rfl; simp at x1
      have x2 := cell_of_block (o := 2) xd.out rfl; simp at x2
      refine parts_step fun K HK => ?_
      go_wp2_with fail
      refine HK.out _ _ (Grow.refl _) ?_
      clear HK K
      refine parts_step2 (fun hw => by first | (cases hw; done) | (apply looks_run; intro w'; go_simp; try first | rfl | rw [if_neg (by omega)] | rw [if_pos (by omega)])) fun K HK => ?_
      go_wp2_with fail
      refine HK.out _ _ (Grow.refl _) ?_
      clear HK K
      refine parts_step2 (fun hw => by first | (cases hw; done) | (apply looks_run; intro w'; go_simp; try first | rfl | rw [if_neg (by omega)] | rw [if_pos (by omega)])) fun K HK => ?_
      go_wp2_with fail
      refine HK.out _ _ (Grow.refl _) ?_
      clear HK K
      refine parts_step2 (fun hw => by first | (cases hw; done) | (apply looks_run; intro w'; go_simp; try first | rfl | rw [if_neg (by omega)] | rw [if_pos (by omega)])) fun K HK => ?_
      go_wp2_with fail
      refine HK.out _ _ (Grow.refl _) ?_
      clear HK K
      refine parts_step2 (fun hw => by first | (cases hw; done) | (apply looks_run; intro w'; go_simp; try first | rfl | rw [if_neg (by omega)] | rw [if_pos (by omega)])) fun K HK => ?_
      go_wp2_with fail
      refine HK.out _ _ (Grow.refl _) ?_
      clear HK K
      refine parts_done ?_
      go_wp2_with fail
      refine wp_region_path2 [(0, 0), (1, 0), (2, 2), (3, 0), (4, 0), (5, 0), (6, 0), (7, 0), (8, 1), (9, 3), (10, 2), (11, 0), (12, 0), (13, 3)] (by kernel_rfl) (by kernel_rfl) (by kernel_rfl) (by kernel_rfl) ?_
      simp only [parts, headed, headed2, List.getElem?_toArray, List.getElem?_cons_zero, List.getElem?_cons_succ]
      have hG4 : Grow Wd Wd.drew := hdd
      replace kd := hid (grow_block hG4 kd.out)
      replace xd := hid (grow_block hG4 xd.out)
      replace oWd := hid (ownsRow_grow oWd.out hG4)
      replace oDd := hid (ownsRow_grow oDd.out hG4)
      replace hB := hid (hB.out.trans (Below.mono hG4 (by omega)))
      clear e1 x0 x1 x2
      replace hneD : Hid ((Value.slice aW ws.length cW).ownBlock ≠ some Wd.drew.heap.size) := hneD.out
      replace hlt : bk < Wd.drew.heap.size := hlt
      clear hdd hG4
      generalize Wd.drew = We at *
      have e1 := cell_of_block (o := 1) kd.out rfl; simp at e1
      have x0 := cell_of_block (o := 0) xd.out rfl; simp at x0
      have x1 := cell_of_block (o := 1) xd.out rfl; simp at x1
      have x2 := cell_of_block (o := 2) xd.out rfl; simp at x2
      refine parts_step fun K HK => ?_
      go_wp2_with fail
      refine HK.out _ _ (Grow.refl _) ?_
      clear HK K
      refine parts_step2 (fun hw => by first | (cases hw; done) | (apply looks_run; intro w'; go_simp; try first | rfl | rw [if_neg (by omega)] | rw [if_pos (by omega)])) fun K HK => ?_
      go_wp2_with fail
      have hg : Grow We (We.alloc (Obj.cells #[.int .i64 x.number, .int .i64 x.time, .bool x.final] 64)) := (Grow.refl We).alloc _
      refine HK.out _ _ hg ?_
      clear HK K
      refine parts_cut fun K HK => ?_
      go_wp2_with fail
      refine (insert_any base (.slice aW ws.length cW) ws.length ws.length (flat Wt.enc ws) x.enc We.heap.size _ (oWd.out.alloc _) (heap_alloc_new We _) hneD.out rfl x.one (flat_one Wt.one ws) (by omega) (by omega) (by simp; omega)).mono ?_
      rintro e w2 ⟨g', cap', rfl, own2, gr2, hat2⟩
      have kz := (gr2.block bk (by simp; omega) hbk.out).trans ((Below.heap_alloc _ _ _ hlt).trans kd.out)
      have c1 := cell_of_block (o := 1) kz rfl; simp at c1
      have z1 := free_of_block kz 1
      go_wp2_with fail
      refine HK.out _ _ ?_
      clear HK K
      refine parts_cut2 (fun hw => by first | (cases hw; done) | (apply looks_run; intro w'; go_simp; try first | rfl | rw [if_neg (by omega)] | rw [if_pos (by omega)])) fun K HK => ?_
      go_wp2_with fail
      refine HK.out _ _ ?_
      clear HK K
      refine parts_step fun K HK => ?_
      go_wp2_with fail
      refine HK.out _ _ (Grow.refl _) ?_
      clear HK K
      refine parts_done ?_
      go_wp2
      go_end0
      refine ⟨rfl, KeepAt.put (s := ⟨clock, ws, ds⟩) (x := x) kd.out hbase oDd.out ap1.out ap2.out ap3.out INS.out gr2 own2 hat2, ?_⟩
      exact ((hB.out.alloc (by omega) _).trans (below_grown gr2 (fun g hg => (oWd.out.alloc (Obj.cells #[.int .i64 x.number, .int .i64 x.time, .bool x.final] 64)).lt g hg |>.1) (by simp; omega))).setCell (by simpa using hbase) _
end Go.Proofs.Ytlpdoloolagcbab
