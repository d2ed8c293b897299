/- Several servers: each. -/
import Derived.Test.YtlpdoloolagcbabSI
import Derived.Test.YtlpdoloolagcbabSJ
namespace Go.Proofs.Ytlpdoloolagcbab
open Go.RowKit

/-- What a server does, first and last. -/
def fP (n : Int) (s : Sv) (g : Int) : Sv × Int × Int := (s.propR n, max g (s.propR n).clock, s.propE n)
def fC (n : Int) (s : Sv) (g : Int) : Sv × Int × Int := (s.commR n g, g, s.commE n g)

set_option maxHeartbeats 4000000 in
theorem each1_any (base g cap bN bG : Nat) (rs : List Rs) (ss : List Sv) (n gr colors : Int) (w : World) (hR : Row base w g cap rs ss) (h3 : rs.length = 3) (hc : 1 ≤ colors ∧ colors ≤ 7)
    (hN : w.heap[bN]? = some (Obj.cells #[.int .i64 n] 3 (0, 0))) (hG : w.heap[bG]? = some (Obj.cells #[.int .i64 gr] 3 (0, 0))) (hgN : g ≠ bN) (hgG : g ≠ bG) (hNG : bN ≠ bG) (hoG : ∀ r ∈ rs, r.off bG) (hbg : base ≤ g) (hbG : base ≤ bG) :
    Calls Try.prog 54 #[.slice (some ⟨g, 0, none⟩) 3 cap, .int .i64 colors, .func (.func 55) #[] #[.pointer (some ⟨bN, 0, none⟩), .pointer (some ⟨bG, 0, none⟩)]] w fun e w' => e = .returned (.int .i64 (eachGo (fP n) colors 3 0 ss gr).2.2) ∧ Below base w w' ∧
      ∃ rs', Row base w' g cap rs' (eachGo (fP n) colors 3 0 ss gr).1 ∧ rs'.length = 3 ∧ w'.heap[bN]? = some (Obj.cells #[.int .i64 n] 3 (0, 0)) ∧ w'.heap[bG]? = some (Obj.cells #[.int .i64 (eachGo (fP n) colors 3 0 ss gr).2.1] 3 (0, 0)) ∧ ∀ r ∈ rs', r.off bG := by
  generalize hfin : eachGo (fP n) colors 3 0 ss gr = fin
  have HFIN := hid hfin
  have HR := hid hR
  have HN := hid hN
  have HG := hid hG
  have HO := hid hoG
  have H3 := hid h3
  clear hfin hR hN hG hoG h3
  go_enter Try.func54, Try.ntmps54
  go_wp2_with fail
  go_loopw [13] (fun i wr => ∃ k : Nat, k ≤ 3 ∧ i = .int .i64 k ∧ ∃ rs ss gr, eachGo (fP n) colors (3 - k) k ss gr = fin ∧ Row base wr g cap rs ss ∧ rs.length = 3 ∧ wr.heap[bN]? = some (Obj.cells #[.int .i64 n] 3 (0, 0)) ∧ wr.heap[bG]? = some (Obj.cells #[.int .i64 gr] 3 (0, 0)) ∧ (∀ r ∈ rs, r.off bG) ∧ Below base w wr) (fun i _ => 3 - (intOf i).toNat)
  case atStart => exact ⟨0, Nat.zero_le _, rfl, rs, ss, gr, HFIN.out, HR.out, H3.out, HN.out, HG.out, HO.out, Below.refl _ _⟩
  case round =>
    clear HFIN HR HN HG HO H3
    obtain ⟨k, hk, rfl, rs, ss, gr, hfin, hR, h3, hN, hG, hoG, hB⟩ := hrel
    have HFIN := hid hfin
    have HR := hid hR
    have HN := hid hN
    have HG := hid hG
    have HO := hid hoG
    have H3 := hid h3
    have HB := hid hB
    have hgl := (hR.own.lt g rfl).2
    have hNl := lt_of_block hN
    have hGl := lt_of_block hG
    clear hfin hR hN hG hoG h3 hB
    by_cases hlt : k < 3
    · have hx : ss[k]? = some (ss[k]'(by have := HR.out.lies.1; have := H3.out; omega)) := List.getElem?_eq_getElem _
      have hr : rs[k]? = some (rs[k]'(by have := H3.out; omega)) := List.getElem?_eq_getElem _
      generalize ss[k]'(by have := HR.out.lies.1; have := H3.out; omega) = s at hx
      generalize rs[k]'(by have := H3.out; omega) = r at hr
      have HX := hid hx
      have SA := hid (HR.out.lies.2 k r s hr hx)
      have HRR := hid hr
      have hrow := RowAt.of_own (xs := rs) (enc := Rs.enc) Rs.enc3 (by have := H3.out; omega) HR.out.own
      obtain ⟨b', off', eq, c0, c1, c2⟩ := hrow.at3r hr
      cases eq
      simp only [Nat.zero_add] at c0 c1 c2
      clear hx hr hrow
      have hlt' : (k : Int) < 3 := by omega
      have hbit := bit_is colors hc k hlt
      obtain ⟨m, hm⟩ : ∃ m, 3 - k = m + 1 := ⟨2 - k, by omega⟩
      have ga : Grow wr (wr.alloc (Obj.cells #[.int .i64 r.clock, .slice r.aW r.nW r.cW, .slice r.aD r.nD r.cD] 43)) := (Grow.refl wr).alloc _
      cases hb : bitOf colors k
      · rw [hb] at hbit
        simp only [Bool.not_false] at hbit
        have E : Hid (eachGo (fP n) colors (3 - (k + 1)) (k + 1) ss gr = fin) := by
          show _ = fin
          rw [← HFIN.out, hm, eachGo, HX.out]
          simp only [hb, Bool.false_eq_true, if_false]
          rw [show 3 - (k + 1) = m from by omega]
        have hm' := hid hm
        clear hm
        go_wp2
        go_roundw
        case rel => exact ⟨k + 1, by omega, by go_num, rs, ss, gr, E.out, HR.out.grow ga, H3.out, grow_block ga HN.out, grow_block ga HG.out, HO.out, HB.out.trans (Below.mono ga (by omega))⟩
        case measure => simp [intOf]; omega
      · rw [hb] at hbit
        simp only [Bool.not_true] at hbit
        have EN : Hid (((fP n) s gr).2.2 = 0 → eachGo (fP n) colors (3 - (k + 1)) (k + 1) (ss.set k ((fP n) s gr).1) ((fP n) s gr).2.1 = fin) := fun h0 => by
          rw [← HFIN.out, hm, eachGo, HX.out]
          simp only [hb, if_true]
          rw [if_pos h0, show 3 - (k + 1) = m from by omega]
        have EE : Hid (((fP n) s gr).2.2 ≠ 0 → fin = (ss, ((fP n) s gr).2.1, ((fP n) s gr).2.2)) := fun h0 => by
          rw [← HFIN.out, hm, eachGo, HX.out]
          simp only [hb, if_true]
          rw [if_neg h0]
        have hm' := hid hm
        clear hm
        go_wp2_with (simp only [call_all1])
        refine (all1_any s r n gr bN bG _ (SA.out.grow ga) (grow_block ga HN.out) (grow_block ga HG.out)).mono ?_
        rintro e w2 ⟨r', rfl, hsv, hbut, hnew, hG2⟩
        have Row2 := hid ((HR.out.grow ga).but hbut hgG HO.out)
        have N2 := hid ((hbut.block bN (by simp; omega) (fun e => hNG (Option.some.inj e))).trans (grow_block ga HN.out))
        have G2 := hid hG2
        have B2 : Hid (Below base w w2) := (HB.out.trans (Below.mono ga (by omega))).trans (below_grown hbut (fun j hj => by (have hb' : bG = j := Option.some.inj hj); omega) (by simp; omega))
        have hsz : wr.heap.size + 1 ≤ w2.heap.size := by have := hbut.size; simp at this; omega
        have hnew' := hnew r'.clock r'.aW r'.nW r'.cW r'.aD r'.nD r'.cD rfl
        simp at hnew'
        have offg : Hid (r'.off g) := ⟨fun x hx => by have := hnew'.1 x hx; omega, fun x hx => by have := hnew'.2 x hx; omega⟩
        have offG : Hid (r'.off bG) := ⟨fun x hx => by have := hnew'.1 x hx; omega, fun x hx => by have := hnew'.2 x hx; omega⟩
        have SV := hid hsv
        clear hnew hnew' hsv hbut c0 c1 c2
        have gc : Grow w2 (w2.alloc (Obj.cells #[.int .i64 r'.clock, .slice r'.aW r'.nW r'.cW, .slice r'.aD r'.nD r'.cD] 43)) := (Grow.refl w2).alloc _
        have EN' : Hid (s.propE n = 0 → eachGo (fP n) colors (3 - (k + 1)) (k + 1) (ss.set k (s.propR n)) (max gr (s.propR n).clock) = fin) := EN.out
        have EE' : Hid (s.propE n ≠ 0 → fin = (ss, max gr (s.propR n).clock, s.propE n)) := EE.out
        clear EN EE
        generalize s.propE n = er at *
        generalize max gr (s.propR n).clock = gr2 at *
        generalize s.propR n = R at *
        unfold Rs.val
        by_cases h0 : er = 0
        case neg =>
          have hx0 : (er == 0) = false := by simpa using h0
          have hx1 : (er != 0) = true := by simpa using h0
          have E : Hid (fin = (ss, gr2, er)) := EE'.out h0
          clear h0 EN' EE'
          go_wp2
          go_ret
          exact ⟨by rw [E.out]; rfl, B2.out.trans (Below.mono gc (by omega)), rs, by rw [E.out]; exact Row2.out.grow gc, H3.out, grow_block gc N2.out, by rw [E.out]; exact grow_block gc G2.out, HO.out⟩
        case pos =>
          subst h0
          have E : Hid (eachGo (fP n) colors (3 - (k + 1)) (k + 1) (ss.set k R) gr2 = fin) := EN'.out rfl
          clear EN' EE'
          have Row3 := hid (Row2.out.grow gc)
          have hrow3 := RowAt.of_own (xs := rs) (enc := Rs.enc) Rs.enc3 (by have := H3.out; omega) Row3.out.own
          obtain ⟨b3, off3, eq3, x0, x1, x2⟩ := hrow3.at3r HRR.out
          cases eq3
          simp only [Nat.zero_add] at x0 x1 x2
          have hrow2 := RowAt.of_own (xs := rs) (enc := Rs.enc) Rs.enc3 (by have := H3.out; omega) Row2.out.own
          obtain ⟨b2, off2, eq2, y0, y1, y2⟩ := hrow2.at3r HRR.out
          cases eq2
          simp only [Nat.zero_add] at y0 y1 y2
          have u0 := Row2.out.own.frozenAt (k * 3)
          have u1 := Row2.out.own.frozenAt (k * 3 + 1)
          have u2 := Row2.out.own.frozenAt (k * 3 + 2)
          have v0 := Row3.out.own.frozenAt (k * 3)
          have v1 := Row3.out.own.frozenAt (k * 3 + 1)
          have v2 := Row3.out.own.frozenAt (k * 3 + 2)
          have hgn : g ≠ w2.heap.size := by omega
          clear hrow3 hrow2
          go_wp2
          go_roundw
          case rel =>
            have hk3 : k < rs.length := by have := H3.out; omega
            have RA := Row.set Row3.out hk3 (SV.out.grow gc) offg.out
            have RB := (Row.set Row2.out hk3 SV.out offg.out).grow ((Grow.refl _).alloc (Obj.cells #[.int .i64 r'.clock, .slice r'.aW r'.nW r'.cW, .slice r'.aD r'.nD r'.cD] 43))
            have hoff' : ∀ r'' ∈ rs.set k r', r''.off bG := fun r'' h => by
              rcases List.mem_or_eq_of_mem_set h with h | rfl
              · exact HO.out _ h
              · exact offG.out
            refine ⟨k + 1, by omega, by go_num, rs.set k r', ss.set k R, gr2, E.out, ?_, by rw [List.length_set]; exact H3.out, ?_, ?_, hoff', ?_⟩
            · first | exact RA | exact RB
            · first | exact block_far (a := ⟨g, k * 3 + 2, none⟩) (Ne.symm hgN) (block_far (a := ⟨g, k * 3 + 1, none⟩) (Ne.symm hgN) (block_far (a := ⟨g, k * 3, none⟩) (Ne.symm hgN) (grow_block gc N2.out))) | exact grow_block ((Grow.refl _).alloc _) (block_far (a := ⟨g, k * 3 + 2, none⟩) (Ne.symm hgN) (block_far (a := ⟨g, k * 3 + 1, none⟩) (Ne.symm hgN) (block_far (a := ⟨g, k * 3, none⟩) (Ne.symm hgN) N2.out)))
            · first | exact block_far (a := ⟨g, k * 3 + 2, none⟩) (Ne.symm hgG) (block_far (a := ⟨g, k * 3 + 1, none⟩) (Ne.symm hgG) (block_far (a := ⟨g, k * 3, none⟩) (Ne.symm hgG) (grow_block gc G2.out))) | exact grow_block ((Grow.refl _).alloc _) (block_far (a := ⟨g, k * 3 + 2, none⟩) (Ne.symm hgG) (block_far (a := ⟨g, k * 3 + 1, none⟩) (Ne.symm hgG) (block_far (a := ⟨g, k * 3, none⟩) (Ne.symm hgG) G2.out)))
            · first | exact (((B2.out.trans (Below.mono gc (by omega))).setCell (p := ⟨g, k * 3, none⟩) hbg _).setCell (p := ⟨g, k * 3 + 1, none⟩) hbg _).setCell (p := ⟨g, k * 3 + 2, none⟩) hbg _ | exact Below.alloc (((B2.out.setCell (p := ⟨g, k * 3, none⟩) hbg _).setCell (p := ⟨g, k * 3 + 1, none⟩) hbg _).setCell (p := ⟨g, k * 3 + 2, none⟩) hbg _) (by simp [World.setCell]; omega) _
          case measure => simp [intOf]; omega
    · obtain rfl : k = 3 := by omega
      have E : Hid (fin = (ss, gr, 0)) := by show fin = _; rw [← HFIN.out]; rfl
      go_wp2
      go_ret
      exact ⟨by rw [E.out]; rfl, HB.out, rs, by rw [E.out]; exact HR.out, H3.out, HN.out, by rw [E.out]; exact HG.out, HO.out⟩

set_option maxHeartbeats 4000000 in
theorem each2_any (base g cap bN bG : Nat) (rs : List Rs) (ss : List Sv) (n gr colors : Int) (w : World) (hR : Row base w g cap rs ss) (h3 : rs.length = 3) (hc : 1 ≤ colors ∧ colors ≤ 7)
    (hN : w.heap[bN]? = some (Obj.cells #[.int .i64 n] 3 (0, 0))) (hG : w.heap[bG]? = some (Obj.cells #[.int .i64 gr] 3 (0, 0))) (hgN : g ≠ bN) (hgG : g ≠ bG) (_ : bN ≠ bG) (hoG : ∀ r ∈ rs, r.off bG) (hbg : base ≤ g) (_ : base ≤ bG) :
    Calls Try.prog 54 #[.slice (some ⟨g, 0, none⟩) 3 cap, .int .i64 colors, .func (.func 56) #[] #[.pointer (some ⟨bN, 0, none⟩), .pointer (some ⟨bG, 0, none⟩)]] w fun e w' => e = .returned (.int .i64 (eachGo (fC n) colors 3 0 ss gr).2.2) ∧ Below base w w' ∧
      ∃ rs', Row base w' g cap rs' (eachGo (fC n) colors 3 0 ss gr).1 ∧ rs'.length = 3 ∧ w'.heap[bN]? = some (Obj.cells #[.int .i64 n] 3 (0, 0)) ∧ w'.heap[bG]? = some (Obj.cells #[.int .i64 (eachGo (fC n) colors 3 0 ss gr).2.1] 3 (0, 0)) ∧ ∀ r ∈ rs', r.off bG := by
  generalize hfin : eachGo (fC n) colors 3 0 ss gr = fin
  have HFIN := hid hfin
  have HR := hid hR
  have HN := hid hN
  have HG := hid hG
  have HO := hid hoG
  have H3 := hid h3
  clear hfin hR hN hG hoG h3
  go_enter Try.func54, Try.ntmps54
  go_wp2_with fail
  go_loopw [13] (fun i wr => ∃ k : Nat, k ≤ 3 ∧ i = .int .i64 k ∧ ∃ rs ss gr, eachGo (fC n) colors (3 - k) k ss gr = fin ∧ Row base wr g cap rs ss ∧ rs.length = 3 ∧ wr.heap[bN]? = some (Obj.cells #[.int .i64 n] 3 (0, 0)) ∧ wr.heap[bG]? = some (Obj.cells #[.int .i64 gr] 3 (0, 0)) ∧ (∀ r ∈ rs, r.off bG) ∧ Below base w wr) (fun i _ => 3 - (intOf i).toNat)
  case atStart => exact ⟨0, Nat.zero_le _, rfl, rs, ss, gr, HFIN.out, HR.out, H3.out, HN.out, HG.out, HO.out, Below.refl _ _⟩
  case round =>
    clear HFIN HR HN HG HO H3
    obtain ⟨k, hk, rfl, rs, ss, gr, hfin, hR, h3, hN, hG, hoG, hB⟩ := hrel
    have HFIN := hid hfin
    have HR := hid hR
    have HN := hid hN
    have HG := hid hG
    have HO := hid hoG
    have H3 := hid h3
    have HB := hid hB
    have hgl := (hR.own.lt g rfl).2
    have hNl := lt_of_block hN
    have hGl := lt_of_block hG
    clear hfin hR hN hG hoG h3 hB
    by_cases hlt : k < 3
    · have hx : ss[k]? = some (ss[k]'(by have := HR.out.lies.1; have := H3.out; omega)) := List.getElem?_eq_getElem _
      have hr : rs[k]? = some (rs[k]'(by have := H3.out; omega)) := List.getElem?_eq_getElem _
      generalize ss[k]'(by have := HR.out.lies.1; have := H3.out; omega) = s at hx
      generalize rs[k]'(by have := H3.out; omega) = r at hr
      have HX := hid hx
      have SA := hid (HR.out.lies.2 k r s hr hx)
      have HRR := hid hr
      have hrow := RowAt.of_own (xs := rs) (enc := Rs.enc) Rs.enc3 (by have := H3.out; omega) HR.out.own
      obtain ⟨b', off', eq, c0, c1, c2⟩ := hrow.at3r hr
      cases eq
      simp only [Nat.zero_add] at c0 c1 c2
      clear hx hr hrow
      have hlt' : (k : Int) < 3 := by omega
      have hbit := bit_is colors hc k hlt
      obtain ⟨m, hm⟩ : ∃ m, 3 - k = m + 1 := ⟨2 - k, by omega⟩
      have ga : Grow wr (wr.alloc (Obj.cells #[.int .i64 r.clock, .slice r.aW r.nW r.cW, .slice r.aD r.nD r.cD] 43)) := (Grow.refl wr).alloc _
      cases hb : bitOf colors k
      · rw [hb] at hbit
        simp only [Bool.not_false] at hbit
        have E : Hid (eachGo (fC n) colors (3 - (k + 1)) (k + 1) ss gr = fin) := by
          show _ = fin
          rw [← HFIN.out, hm, eachGo, HX.out]
          simp only [hb, Bool.false_eq_true, if_false]
          rw [show 3 - (k + 1) = m from by omega]
        have hm' := hid hm
        clear hm
        go_wp2
        go_roundw
        case rel => exact ⟨k + 1, by omega, by go_num, rs, ss, gr, E.out, HR.out.grow ga, H3.out, grow_block ga HN.out, grow_block ga HG.out, HO.out, HB.out.trans (Below.mono ga (by omega))⟩
        case measure => simp [intOf]; omega
      · rw [hb] at hbit
        simp only [Bool.not_true] at hbit
        have EN : Hid (((fC n) s gr).2.2 = 0 → eachGo (fC n) colors (3 - (k + 1)) (k + 1) (ss.set k ((fC n) s gr).1) ((fC n) s gr).2.1 = fin) := fun h0 => by
          rw [← HFIN.out, hm, eachGo, HX.out]
          simp only [hb, if_true]
          rw [if_pos h0, show 3 - (k + 1) = m from by omega]
        have EE : Hid (((fC n) s gr).2.2 ≠ 0 → fin = (ss, ((fC n) s gr).2.1, ((fC n) s gr).2.2)) := fun h0 => by
          rw [← HFIN.out, hm, eachGo, HX.out]
          simp only [hb, if_true]
          rw [if_neg h0]
        have hm' := hid hm
        clear hm
        go_wp2_with (simp only [call_all2])
        refine (all2_any s r n gr bN bG _ (SA.out.grow ga) (grow_block ga HN.out) (grow_block ga HG.out)).mono ?_
        rintro e w2 ⟨r', rfl, hsv, hbut, hnew⟩
        have Row2 := hid ((HR.out.grow ga).grow hbut)
        have N2 := hid (grow_block (ga.trans hbut) HN.out)
        have G2 := hid (grow_block (ga.trans hbut) HG.out)
        have B2 : Hid (Below base w w2) := HB.out.trans (Below.mono (ga.trans hbut) (by omega))
        have hsz : wr.heap.size + 1 ≤ w2.heap.size := by have := hbut.size; simp at this; omega
        have hnew' := hnew r'.clock r'.aW r'.nW r'.cW r'.aD r'.nD r'.cD rfl
        simp at hnew'
        have offg : Hid (r'.off g) := ⟨fun x hx => by have := hnew'.1 x hx; omega, fun x hx => by have := hnew'.2 x hx; omega⟩
        have offG : Hid (r'.off bG) := ⟨fun x hx => by have := hnew'.1 x hx; omega, fun x hx => by have := hnew'.2 x hx; omega⟩
        have SV := hid hsv
        clear hnew hnew' hsv hbut c0 c1 c2
        have gc : Grow w2 (w2.alloc (Obj.cells #[.int .i64 r'.clock, .slice r'.aW r'.nW r'.cW, .slice r'.aD r'.nD r'.cD] 43)) := (Grow.refl w2).alloc _
        have EN' : Hid (s.commE n gr = 0 → eachGo (fC n) colors (3 - (k + 1)) (k + 1) (ss.set k (s.commR n gr)) (gr) = fin) := EN.out
        have EE' : Hid (s.commE n gr ≠ 0 → fin = (ss, gr, s.commE n gr)) := EE.out
        clear EN EE
        generalize s.commE n gr = er at *
        generalize s.commR n gr = R at *
        unfold Rs.val
        by_cases h0 : er = 0
        case neg =>
          have hx0 : (er == 0) = false := by simpa using h0
          have hx1 : (er != 0) = true := by simpa using h0
          have E : Hid (fin = (ss, gr, er)) := EE'.out h0
          clear h0 EN' EE'
          go_wp2
          go_ret
          exact ⟨by rw [E.out]; rfl, B2.out.trans (Below.mono gc (by omega)), rs, by rw [E.out]; exact Row2.out.grow gc, H3.out, grow_block gc N2.out, by rw [E.out]; exact grow_block gc G2.out, HO.out⟩
        case pos =>
          subst h0
          have E : Hid (eachGo (fC n) colors (3 - (k + 1)) (k + 1) (ss.set k R) gr = fin) := EN'.out rfl
          clear EN' EE'
          have Row3 := hid (Row2.out.grow gc)
          have hrow3 := RowAt.of_own (xs := rs) (enc := Rs.enc) Rs.enc3 (by have := H3.out; omega) Row3.out.own
          obtain ⟨b3, off3, eq3, x0, x1, x2⟩ := hrow3.at3r HRR.out
          cases eq3
          simp only [Nat.zero_add] at x0 x1 x2
          have hrow2 := RowAt.of_own (xs := rs) (enc := Rs.enc) Rs.enc3 (by have := H3.out; omega) Row2.out.own
          obtain ⟨b2, off2, eq2, y0, y1, y2⟩ := hrow2.at3r HRR.out
          cases eq2
          simp only [Nat.zero_add] at y0 y1 y2
          have u0 := Row2.out.own.frozenAt (k * 3)
          have u1 := Row2.out.own.frozenAt (k * 3 + 1)
          have u2 := Row2.out.own.frozenAt (k * 3 + 2)
          have v0 := Row3.out.own.frozenAt (k * 3)
          have v1 := Row3.out.own.frozenAt (k * 3 + 1)
          have v2 := Row3.out.own.frozenAt (k * 3 + 2)
          have hgn : g ≠ w2.heap.size := by omega
          clear hrow3 hrow2
          go_wp2
          go_roundw
          case rel =>
            have hk3 : k < rs.length := by have := H3.out; omega
            have RA := Row.set Row3.out hk3 (SV.out.grow gc) offg.out
            have RB := (Row.set Row2.out hk3 SV.out offg.out).grow ((Grow.refl _).alloc (Obj.cells #[.int .i64 r'.clock, .slice r'.aW r'.nW r'.cW, .slice r'.aD r'.nD r'.cD] 43))
            have hoff' : ∀ r'' ∈ rs.set k r', r''.off bG := fun r'' h => by
              rcases List.mem_or_eq_of_mem_set h with h | rfl
              · exact HO.out _ h
              · exact offG.out
            refine ⟨k + 1, by omega, by go_num, rs.set k r', ss.set k R, gr, E.out, ?_, by rw [List.length_set]; exact H3.out, ?_, ?_, hoff', ?_⟩
            · first | exact RA | exact RB
            · first | exact block_far (a := ⟨g, k * 3 + 2, none⟩) (Ne.symm hgN) (block_far (a := ⟨g, k * 3 + 1, none⟩) (Ne.symm hgN) (block_far (a := ⟨g, k * 3, none⟩) (Ne.symm hgN) (grow_block gc N2.out))) | exact grow_block ((Grow.refl _).alloc _) (block_far (a := ⟨g, k * 3 + 2, none⟩) (Ne.symm hgN) (block_far (a := ⟨g, k * 3 + 1, none⟩) (Ne.symm hgN) (block_far (a := ⟨g, k * 3, none⟩) (Ne.symm hgN) N2.out)))
            · first | exact block_far (a := ⟨g, k * 3 + 2, none⟩) (Ne.symm hgG) (block_far (a := ⟨g, k * 3 + 1, none⟩) (Ne.symm hgG) (block_far (a := ⟨g, k * 3, none⟩) (Ne.symm hgG) (grow_block gc G2.out))) | exact grow_block ((Grow.refl _).alloc _) (block_far (a := ⟨g, k * 3 + 2, none⟩) (Ne.symm hgG) (block_far (a := ⟨g, k * 3 + 1, none⟩) (Ne.symm hgG) (block_far (a := ⟨g, k * 3, none⟩) (Ne.symm hgG) G2.out)))
            · first | exact (((B2.out.trans (Below.mono gc (by omega))).setCell (p := ⟨g, k * 3, none⟩) hbg _).setCell (p := ⟨g, k * 3 + 1, none⟩) hbg _).setCell (p := ⟨g, k * 3 + 2, none⟩) hbg _ | exact Below.alloc (((B2.out.setCell (p := ⟨g, k * 3, none⟩) hbg _).setCell (p := ⟨g, k * 3 + 1, none⟩) hbg _).setCell (p := ⟨g, k * 3 + 2, none⟩) hbg _) (by simp [World.setCell]; omega) _
          case measure => simp [intOf]; omega
    · obtain rfl : k = 3 := by omega
      have E : Hid (fin = (ss, gr, 0)) := by show fin = _; rw [← HFIN.out]; rfl
      go_wp2
      go_ret
      exact ⟨by rw [E.out]; rfl, HB.out, rs, by rw [E.out]; exact HR.out, H3.out, HN.out, by rw [E.out]; exact HG.out, HO.out⟩
end Go.Proofs.Ytlpdoloolagcbab
