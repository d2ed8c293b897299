/- Who keeps a server: settle. -/
import Derived.Test.YtlpdoloolagcbabSC
namespace Go.Proofs.Ytlpdoloolagcbab
open Go.RowKit

def lenAt (w : World) (bk : Nat) : Nat := match w.cell? ⟨bk, 1, none⟩ with
  | some (.slice _ n _) => n
  | _ => 0
theorem KeepAt.len {base bk : Nat} {w : World} {s : Sv} (h : KeepAt base bk w s) : lenAt w bk = s.waits.length := by
  obtain ⟨_, _, _, _, h1, _⟩ := h
  have := cell_of_block (o := 1) h1 rfl
  unfold lenAt
  rw [this]
  rfl
set_option maxHeartbeats 4000000 in
theorem settle_any (base bk : Nat) (s : Sv) (w : World) (hK : KeepAt base bk w s) (hl : s.waits.length ≤ 8) (hl2 : s.done.length ≤ 30) :
    Calls Try.prog 74 #[.pointer (some ⟨bk, 0, none⟩)] w fun e w' => e = .returned (.tuple #[]) ∧ KeepAt base bk w' ⟨s.clock, (settle s.waits.length s.waits s.done).1, (settle s.waits.length s.waits s.done).2⟩ ∧ Below base w w' ∧ (settle s.waits.length s.waits s.done).2.length ≤ 38 := by
  obtain ⟨i1, hinf', hy0, hy1, hy2⟩ := info_parts Try.infoInt
  have HK := hid hK
  clear hK
  generalize hfin : settle s.waits.length s.waits s.done = fin
  have HFIN := hid hfin
  clear hfin
  go_enter Try.func74, Try.ntmps74
  go_wp2_with fail
  go_loopw [2] (fun _ wr => ∃ ws ds, KeepAt base bk wr ⟨s.clock, ws, ds⟩ ∧ settle ws.length ws ds = fin ∧ ws.length ≤ 8 ∧ ds.length + ws.length ≤ 38 ∧ Below base w wr) (fun _ wr => lenAt wr bk)
  case atStart => exact ⟨s.waits, s.done, HK.out, HFIN.out, hl, by omega, Below.refl _ _⟩
  case round =>
    obtain ⟨ws, ds, K, hset, hw8, hd, hB⟩ := hrel
    have hlen := hid K.len
    have HB := hid hB
    have HSET := hid hset
    have hlt := K.lt
    have KK := hid K
    obtain ⟨aW, cW, aD, cD, k0, hbase, ⟨oW, oD, ap3⟩, ap1, ap2⟩ := K
    simp only at k0 oW oD
    have HW : Hid (WaitsAt wr aW cW ws) := RowAt.of_own Wt.enc3 (by omega) oW
    have K0 := hid k0
    have e1 := cell_of_block (o := 1) k0 rfl; simp at e1
    have OW := hid oW
    have OD := hid oD
    have AP1 := hid ap1
    have AP2 := hid ap2
    have AP3 := hid ap3
    clear hB hset k0 oW oD ap1 ap2 ap3 HK HFIN
    go_wp2_with fail
    refine (isFinalFirst_any ws aW cW _ HW.out).mono ?_
    rintro e w1 ⟨rfl, g1⟩
    clear e1
    cases hff : finalFirst ws
    · have E : Hid (fin = (ws, ds)) := by show fin = _; rw [← HSET.out, settle_stop hff]
      go_wp2
      go_end0
      exact ⟨rfl, by rw [E.out]; exact KK.out.grow g1, HB.out.trans (Below.mono g1 (by omega)), by rw [E.out]; simp only; omega⟩
    · obtain ⟨x, hx, hxf⟩ := finalFirst_some hff
      obtain ⟨m, hm⟩ : ∃ m, ws.length = m + 1 := ⟨ws.length - 1, by have := (List.getElem?_eq_some_iff.1 hx).1; omega⟩
      have hfi : firstAt ws ≤ m := by have := (List.getElem?_eq_some_iff.1 hx).1; omega
      have HX := hid hx
      have E : Hid (settle m (ws.eraseIdx (firstAt ws)) (ds ++ [x.number]) = fin) := by show _ = _; rw [← HSET.out, hm, settle_step hx hxf]
      have hel : Hid ((ws.eraseIdx (firstAt ws)).length = m) := by show _ = _; rw [List.length_eraseIdx]; split <;> omega
      clear hx hxf hff HSET
      obtain ⟨g, hg⟩ : ∃ g, aW = some ⟨g, 0, none⟩ := by
        rcases OW.out.2 with ⟨h, h0⟩ | ⟨g, cap, cur, h, _⟩
        · omega
        · cases h; exact ⟨g, rfl⟩
      subst hg
      have k1 := hid (grow_block g1 K0.out)
      have e1 := cell_of_block (o := 1) k1.out rfl; simp at e1
      have HW1 := hid (HW.out.grow g1)
      have hfn := fun W h => first_any ws (some ⟨g, 0, none⟩) cW W h (by omega)
      have HM := hid hm
      clear hm
      go_wp2_with fail
      refine (hfn _ HW1.out).mono ?_
      rintro e w2 ⟨rfl, g2⟩
      have G2 : Grow wr w2.drew := g1.trans g2.drew
      have k2 := hid (grow_block G2 K0.out)
      have oW2 := hid (ownsRow_grow OW.out G2)
      have oD2 := hid (ownsRow_grow OD.out G2)
      have HB2 : Hid (Below base w w2.drew) := HB.out.trans (Below.mono G2 (by omega))
      have hlt2 : bk < w2.drew.heap.size := Nat.lt_of_lt_of_le hlt G2.size
      obtain ⟨b', off', eq, d0, d1, d2⟩ := (HW.out.grow G2).at3 HX.out
      cases eq
      rw [Nat.zero_add] at d0
      clear e1 d1 d2 g1 g2 k1 HW HW1 OW OD K0 HB KK hfn
      have hf' : (firstAt ws : Int) < (ws.length : Int) := by have := HM.out; omega
      generalize firstAt ws = f at *
      have hbkD : Hid (some bk ≠ (Value.slice aD ds.length cD).ownBlock) := by
        show some bk ≠ _
        cases aD with
        | none => intro e; cases e
        | some y => intro e; exact AP2.out y rfl (Option.some.inj e).symm
      go_wp2_with fail
      refine wp_region_path2 [(0, 0), (1, 0), (2, 2), (3, 0), (4, 0), (5, 0), (6, 0), (7, 2), (8, 0), (9, 0), (10, 0), (11, 0), (12, 0), (13, 0), (14, 0), (15, 1), (16, 3), (17, 2), (18, 0), (19, 0), (20, 3)] (by kernel_rfl) (by kernel_rfl) (by kernel_rfl) (by kernel_rfl) ?_
      simp only [parts, headed, headed2, List.getElem?_toArray, List.getElem?_cons_zero, List.getElem?_cons_succ]
      generalize w2.drew = Wd at *
      have e1 := cell_of_block (o := 1) k2.out rfl; simp at e1
      have e2 := cell_of_block (o := 2) k2.out rfl; simp at e2
      refine parts_step fun K HK => ?_
      go_wp2_with fail
      refine HK.out _ _ (Grow.refl _) ?_
      clear HK K
      refine parts_step2 (fun hw => by first | (cases hw; done) | (apply looks_run; intro w'; go_simp; try first | rfl | rw [if_neg (by omega)] | rw [if_pos (by omega)])) fun K HK => ?_
      go_wp2_with fail
      refine HK.out _ _ (Grow.refl _) ?_
      clear HK K
      refine parts_step2 (fun hw => by first | (cases hw; done) | (apply looks_run; intro w'; go_simp; try first | rfl | rw [if_neg (by omega)] | rw [if_pos (by omega)])) fun K HK => ?_
      go_wp2_with fail
      have hg : Grow Wd (Wd.alloc (Obj.cells #[.int .i64 x.number] 3)) := (Grow.refl Wd).alloc _
      refine HK.out _ _ hg ?_
      clear HK K
      refine parts_cut fun K HK => ?_
      go_wp2_with (at_builtin; go_must (refine wpList_append_lies _ (by rfl) _ _ 41 (by rfl) base 3 i1 (.int .i64 0) 1 8 Try.underlying41 hinf' hy0 hy1 hy2 (by rfl) (by decide) (.slice aD ds.length cD) ds.length (flat encZ ds) (by rfl) (oD2.out.alloc _) ⟨Wd.heap.size, 0, none⟩ 1 1 [.int .i64 x.number] (by rfl) (by rfl) (news_block (heap_alloc_new Wd (Obj.cells #[.int .i64 x.number] 3 (0, 0)))) (fun u hu => by (rw [List.mem_singleton.1 hu]; rfl)) (by decide) (by unfold maxLen; omega) (by omega) (by simp; omega) (Wd.heap.size + 1) (by simp) ?_; intro g' cap' w3 own3 gr3 hat3 hlt3))
      have kz := (gr3.block bk (by simp; omega) (hbkD.out)).trans ((Below.heap_alloc _ _ _ hlt2).trans k2.out)
      have c2 := cell_of_block (o := 2) kz rfl; simp at c2
      have z2 := free_of_block kz 2
      refine HK.out _ _ ?_
      clear HK K
      refine parts_cut2 (fun hw => by first | (cases hw; done) | (apply looks_run; intro w'; go_simp; try first | rfl | rw [if_neg (by omega)] | rw [if_pos (by omega)])) fun K HK => ?_
      go_wp2_with fail
      refine HK.out _ _ ?_
      clear HK K
      refine parts_step fun K HK => ?_
      go_wp2_with fail
      refine HK.out _ _ (Grow.refl _) ?_
      clear HK K
      refine parts_done ?_
      have KA := KeepAt.add (s := ⟨s.clock, ws, ds⟩) k2.out oW2.out AP1.out AP2.out AP3.out gr3 own3 (by simpa using hat3)
      have BA : Below base w (w3.setCell ⟨bk, 2, none⟩ (.slice (some ⟨g', 0, none⟩) (ds.length + 1) cap')) := ((HB2.out.alloc (by omega) _).trans (below_grown gr3 (fun j hj => ((oD2.out.alloc (Obj.cells #[.int .i64 x.number] 3)).lt j hj).1) (by simp; omega))).setCell (by simpa using hbase) _
      clear c2 z2 kz e1 e2 d0 hbkD HB2 gr3 own3 hat3 hlt3 k2 oW2 oD2
      simp only at KA
      generalize w3.setCell ⟨bk, 2, none⟩ (.slice (some ⟨g', 0, none⟩) (ds.length + 1) cap') = w4 at *
      obtain ⟨k4', oW4', oD4', hgb, hgg⟩ := KA
      have k4 := hid k4'
      have oW4 := hid oW4'
      have oD4 := hid oD4'
      have c1 := cell_of_block (o := 1) k4' rfl; simp at c1
      clear k4' oW4' oD4'
      have hw6 : IntKind.i64.wrap ((f : Int) + 1) = (f : Int) + 1 := by rw [IntKind.wrap_i64]; omega
      have hw7 : wrap64 ((f : Int) + 1) = (f : Int) + 1 := by unfold wrap64; omega
      have oWm : Hid (w4.ownsRow base 64 3 (.slice (some ⟨g, 0, none⟩) (m + 1) cW) (m + 1) (flat Wt.enc ws)) := by
        have := oW4.out
        rw [HM.out] at this
        exact this
      have hdel := hid (delete_any base g m cW f (flat Wt.enc ws) w4 oWm.out hfi (flat_one Wt.one ws) (by have := HM.out; omega))
      have HMI : Hid (ws.length = m + 1) := HM.out
      go_wp2_with fail
      rw [HMI.out]
      refine hdel.out.mono ?_
      rintro e w5 ⟨rfl, own5, gr5⟩
      have k4m := k4.out
      rw [HMI.out] at k4m
      have hgbk : g ≠ bk := AP1.out _ rfl
      have kz := (gr5.block bk (lt_of_block k4m) (fun e => hgbk (Option.some.inj e).symm)).trans k4m
      have c5 := cell_of_block (o := 1) kz rfl; simp at c5
      have z5 := free_of_block kz 1
      have KC := KeepAt.cut (c := s.clock) (ds := ds ++ [x.number]) HMI.out hfi (by simpa using k4m) hbase oD4.out hgbk (fun y hy => by cases hy; exact hgb) (fun y hy => by cases hy; exact hgg _ rfl) gr5 own5
      have BC : Below base w (w5.setCell ⟨bk, 1, none⟩ (.slice (some ⟨g, 0, none⟩) m cW)) := (BA.trans (below_grown gr5 (fun j hj => by cases hj; exact (oWm.out.lt g rfl).1) (by have := lt_of_block k4m; omega))).setCell (by simpa using hbase) _
      go_wp2
      go_roundw
      case rel =>
        refine ⟨_, _, KC, ?_, ?_, ?_, BC⟩
        · rw [hel.out]; exact E.out
        · rw [hel.out]; have := HMI.out; omega
        · rw [hel.out]; have := HMI.out; simp; omega
      case measure =>
        rw [KC.len, hlen.out]
        simp only
        rw [hel.out, HMI.out]
        omega
end Go.Proofs.Ytlpdoloolagcbab
