/- skeen.All: what it answers, whatever it is handed. -/
import Derived.Test.YtlpdoloolagcbabSK
namespace Go.Proofs.Ytlpdoloolagcbab
open Go.RowKit

/-- The errno of All, and the servers. -/
def allP (ss : List Sv) (n colors : Int) : List Sv × Int × Int := eachGo (fP n) colors 3 0 ss 0
def allC (ss : List Sv) (n colors : Int) : List Sv × Int × Int := eachGo (fC n) colors 3 0 (allP ss n colors).1 (allP ss n colors).2.1
def allE (ss : List Sv) (n colors : Int) : Int := if allErr ss colors ≠ 0 then allErr ss colors else if (allP ss n colors).2.2 ≠ 0 then (allP ss n colors).2.2 else (allC ss n colors).2.2
def allR (ss : List Sv) (n colors : Int) : List Sv := if allE ss n colors = 0 then (allC ss n colors).1 else []
theorem allErr_zero {ss : List Sv} {colors : Int} (h : allErr ss colors = 0) : ss.length = 3 ∧ (∀ s ∈ ss, s.err = 0) ∧ 1 ≤ colors ∧ colors ≤ 7 := by
  unfold allErr at h
  split at h
  · cases h
  rename_i h1
  have h3 : ss.length = 3 := Decidable.not_not.1 h1
  split at h
  · rename_i h2; exact absurd h h2
  rename_i h2
  split at h
  · cases h
  rename_i h4
  refine ⟨h3, fun s hs => ?_, by omega, by omega⟩
  obtain ⟨i, hi⟩ := List.mem_iff_getElem?.1 hs
  have := firstErr_all _ _ (Decidable.not_not.1 h2) i (by have := (List.getElem?_eq_some_iff.1 hi).1; omega)
  simp only [hi] at this
  exact this
set_option maxHeartbeats 4000000 in
theorem all_any (ss : List Sv) (n colors : Int) (a : Option Addr) (cap : Nat) (w : World) (hs : SvsAt w a cap ss) :
    Calls Try.prog 21 #[.slice a ss.length cap, .int .i64 n, .int .i64 colors] w fun e w' => ∃ a' cap', e = .returned (.tuple #[.slice a' (allR ss n colors).length cap', .int .i64 (allE ss n colors)]) ∧ SvsAt w' a' cap' (allR ss n colors) ∧ Grow w w' := by
  have HS := hid hs
  have HE : Hid (allE ss n colors = if allErr ss colors ≠ 0 then allErr ss colors else if (allP ss n colors).2.2 ≠ 0 then (allP ss n colors).2.2 else (allC ss n colors).2.2) := rfl
  have HR : Hid (allR ss n colors = if allE ss n colors = 0 then (allC ss n colors).1 else []) := rfl
  have HP : Hid (allP ss n colors = eachGo (fP n) colors 3 0 ss 0) := rfl
  have HC : Hid (allC ss n colors = eachGo (fC n) colors 3 0 (allP ss n colors).1 (allP ss n colors).2.1) := rfl
  have HA := hid (@allErr_zero ss colors)
  generalize allR ss n colors = R at *
  generalize allE ss n colors = er at *
  generalize allC ss n colors = C at *
  generalize allP ss n colors = P at *
  clear hs
  have g0 : Grow w (w.alloc (Obj.cells #[.int .i64 n] 3)) := (Grow.refl w).alloc _
  have k0 := hid (heap_alloc_new w (Obj.cells #[.int .i64 n] 3 (0, 0)))
  go_enter Try.func21, Try.ntmps21
  go_wp2_with fail
  refine (checkAll_any ss colors a cap _ (HS.out.grow g0)).mono ?_
  rintro e w1 ⟨rfl, g1⟩
  have k1 := hid (grow_block g1 k0.out)
  have G1 := hid (g0.trans g1)
  have hs1 : w.heap.size < w1.heap.size := lt_of_block k1.out
  clear g0 g1 k0
  generalize allErr ss colors = ae at *
  by_cases h0 : ae = 0
  case neg =>
    have hx0 : (ae == 0) = false := by simpa using h0
    have hx1 : (ae != 0) = true := by simpa using h0
    have E : Hid (er = ae) := by show er = ae; rw [HE.out, if_pos h0]
    have ER : Hid (R = []) := by show R = []; rw [HR.out, if_neg (by rw [E.out]; exact h0)]
    clear h0 HE HR HA
    go_wp2
    go_ret2
    exact ⟨none, 0, by rw [E.out, ER.out]; rfl, by rw [ER.out]; exact ⟨[], RowAt.nil _ _ _, rfl, fun i r s hr => by cases hr⟩, G1.out⟩
  case pos =>
    subst h0
    obtain ⟨h3, hall, hc⟩ := HA.out rfl
    have HE1 : Hid (er = if P.2.2 ≠ 0 then P.2.2 else C.2.2) := by show er = _; rw [HE.out, if_neg (by simp)]
    have hcp := hid (copyAll_any ss a cap w1 (HS.out.grow G1.out) h3 (fun s hs => by have := Sv.fine (hall s hs); exact ⟨this.2.1, this.2.2.1⟩))
    have H3 := hid h3
    clear HE HA hall HS
    go_wp2_with fail
    refine hcp.out.mono ?_
    rintro e w2 ⟨g, cap2, rs, rfl, row2, g2, hgl, hbel⟩
    have hgn : g ≠ w.heap.size := by
      have := (row2.own.lt g rfl).1
      omega
    have g3 : Grow w2 (w2.alloc (Obj.cells #[.int .i64 0] 3)) := (Grow.refl w2).alloc _
    have H3r : Hid (rs.length = 3) := by show rs.length = 3; rw [row2.lies.1]; exact H3.out
    have hp := hid (each1_any w1.heap.size g cap2 w.heap.size w2.heap.size rs ss n 0 colors (w2.alloc (Obj.cells #[.int .i64 0] 3)) (row2.grow g3) H3r.out hc (grow_block (g2.trans g3) k1.out) (heap_alloc_new w2 _) hgn (by omega) (by have := g2.size; omega) (fun r hr => ⟨fun x hx => by have := (hbel r hr).1 x hx; omega, fun x hx => by have := (hbel r hr).2 x hx; omega⟩) (row2.own.lt g rfl).1 g2.size)
    have G3 := hid (G1.out.trans (g2.trans g3))
    have hlen1 := g2.size
    have hbg := (row2.own.lt g rfl).1
    clear row2 hbel hcp k1 G1 g2 g3
    go_wp2_with fail
    refine hp.out.mono ?_
    rintro e w4 ⟨rfl, B4, rs4, row4, h34, hN4, hG4, hoff4⟩
    have G4 : Hid (Grow w w4) := Below.trans G3.out (Below.mono B4 (by omega))
    have Row4 := hid row4
    have N4 := hid hN4
    have Gr4 := hid hG4
    have O4 := hid hoff4
    have L4 := hid h34
    clear row4 hN4 hG4 hoff4 h34 B4 hp G3
    rw [← HP.out]
    have hPg : Hid (eachGo (fP n) colors 3 0 ss 0 = P) := HP.out.symm
    rw [hPg.out] at Row4 Gr4
    generalize hpe : P.2.2 = pe at *
    have HPE := hid hpe
    clear hpe
    by_cases h0 : pe = 0
    case neg =>
      have hx0 : (pe == 0) = false := by simpa using h0
      have hx1 : (pe != 0) = true := by simpa using h0
      have E : Hid (er = pe) := by show er = pe; rw [HE1.out, if_pos h0]
      have ER : Hid (R = []) := by show R = []; rw [HR.out, if_neg (by rw [E.out]; exact h0)]
      clear h0 HE1 HR
      go_wp2
      go_ret2
      exact ⟨none, 0, by rw [E.out, ER.out]; rfl, by rw [ER.out]; exact ⟨[], RowAt.nil _ _ _, rfl, fun i r s hr => by cases hr⟩, G4.out⟩
    case pos =>
      subst h0
      have HE2 : Hid (er = C.2.2) := by show er = _; rw [HE1.out, if_neg (by simp)]
      clear HE1
      have hq := hid (each2_any w1.heap.size g cap2 w.heap.size w2.heap.size rs4 P.1 n P.2.1 colors w4 Row4.out L4.out hc N4.out Gr4.out hgn (by omega) (by omega) O4.out hbg hlen1)
      rw [← HC.out] at hq
      go_wp2_with fail
      refine hq.out.mono ?_
      rintro e w5 ⟨rfl, B5, rs5, row5, h35, _, _, _⟩
      have G5 : Hid (Grow w w5) := Below.trans G4.out (Below.mono B5 (by omega))
      have Row5 := hid row5
      have L5 := hid h35
      clear row5 h35 B5 hq Row4 Gr4 N4
      generalize hce : C.2.2 = ce at *
      by_cases h0 : ce = 0
      case neg =>
        have hx0 : (ce == 0) = false := by simpa using h0
        have hx1 : (ce != 0) = true := by simpa using h0
        have ER : Hid (R = []) := by show R = []; rw [HR.out, if_neg (by rw [HE2.out]; exact h0)]
        clear h0 HR hce
        go_wp2
        go_ret2
        exact ⟨none, 0, by rw [HE2.out, ER.out]; rfl, by rw [ER.out]; exact ⟨[], RowAt.nil _ _ _, rfl, fun i r s hr => by cases hr⟩, G5.out⟩
      case pos =>
        subst h0
        have ER : Hid (R = C.1) := by show R = _; rw [HR.out, if_pos HE2.out]
        have HLR : Hid (R.length = 3) := by show R.length = 3; rw [ER.out, ← Row5.out.lies.1]; exact L5.out
        clear HR hce
        go_wp2
        go_ret2
        exact ⟨some ⟨g, 0, none⟩, cap2, by rw [HE2.out, HLR.out]; rfl, ⟨rs5, RowAt.of_own (xs := rs5) (enc := Rs.enc) Rs.enc3 (by have := L5.out; omega) Row5.out.own, by rw [ER.out]; exact Row5.out.lies⟩, G5.out⟩
end Go.Proofs.Ytlpdoloolagcbab
