/- skeen.Commit: what it answers, whatever it is handed. -/
import Derived.Test.YtlpdoloolagcbabSE
namespace Go.Proofs.Ytlpdoloolagcbab
open Go.RowKit

theorem settle_len : ∀ (f : Nat) (ws : List Wt) (ds : List Int), (settle f ws ds).1.length ≤ ws.length
  | 0, _, _ => Nat.le_refl _
  | f + 1, ws, ds => by
    rw [settle]
    split
    · split
      · exact Nat.le_trans (settle_len f _ _) (by rw [List.length_eraseIdx]; split <;> omega)
      · exact Nat.le_refl _
    · exact Nat.le_refl _
/-- The errno of Commit, and the server. -/
def Sv.commE (s : Sv) (n t : Int) : Int := if s.err ≠ 0 then s.err else commErr s n t
def Sv.commR (s : Sv) (n t : Int) : Sv := if s.commE n t = 0 then commSv s n t ((findAt s.waits n).getD 0) else zeroSv
set_option maxHeartbeats 4000000 in
theorem scomm_any (s : Sv) (v : Value) (n t : Int) (w : World) (hs : SvAt w s v) :
    Calls Try.prog 20 #[v, .int .i64 n, .int .i64 t] w fun e w' => ∃ v', e = .returned (.tuple #[v', .int .i64 (s.commE n t)]) ∧ SvAt w' (s.commR n t) v' ∧ Grow w w' ∧ SvNew w.heap.size v' := by
  have HS := hid hs
  have HF := hid (@Sv.fine s)
  have HE : Hid (s.commE n t = if s.err ≠ 0 then s.err else commErr s n t) := rfl
  have HR : Hid (s.commR n t = if s.commE n t = 0 then commSv s n t ((findAt s.waits n).getD 0) else zeroSv) := rfl
  obtain ⟨aW, cW, aD, cD, rfl, _, _⟩ := hs
  generalize s.commR n t = R at *
  generalize s.commE n t = er at *
  have g0 : Grow w ((w.alloc (Obj.cells #[.int .i64 s.clock, .slice aW s.waits.length cW, .slice aD s.done.length cD] 43)).alloc (Obj.cells #[.int .i64 0, .slice none 0 0, .slice none 0 0] 43)) := ((Grow.refl w).alloc _).alloc _
  have kB := hid (show ((w.alloc (Obj.cells #[.int .i64 s.clock, .slice aW s.waits.length cW, .slice aD s.done.length cD] 43)).alloc (Obj.cells #[.int .i64 0, .slice none 0 0, .slice none 0 0] 43)).heap[w.heap.size]? = some (Obj.cells #[.int .i64 s.clock, .slice aW s.waits.length cW, .slice aD s.done.length cD] 43 (0, 0)) from (Below.heap_alloc _ _ _ (by simp)).trans (heap_alloc_new w _))
  have kR : Hid (((w.alloc (Obj.cells #[.int .i64 s.clock, .slice aW s.waits.length cW, .slice aD s.done.length cD] 43)).alloc (Obj.cells #[.int .i64 0, .slice none 0 0, .slice none 0 0] 43)).heap[w.heap.size + 1]? = some (Obj.cells #[.int .i64 0, .slice none 0 0, .slice none 0 0] 43 (0, 0))) := by
    have := heap_alloc_new (w.alloc (Obj.cells #[.int .i64 s.clock, .slice aW s.waits.length cW, .slice aD s.done.length cD] 43)) (Obj.cells #[.int .i64 0, .slice none 0 0, .slice none 0 0] 43 (0, 0))
    show _ = _
    simpa using this
  go_enter Try.func20, Try.ntmps20
  go_wp2_with fail
  refine (scheck_any s _ _ (HS.out.grow g0)).mono ?_
  rintro e w1 ⟨rfl, g1⟩
  have b1 := hid (grow_block g1 kB.out)
  have r1 := hid (grow_block g1 kR.out)
  have G1 := hid (g0.trans g1)
  have S1 := hid (HS.out.grow G1.out)
  have hs1 : w.heap.size + 2 ≤ w1.heap.size := by have := g1.size; simp at this; omega
  clear g0 g1 kB kR HS
  generalize hse : s.err = se at *
  by_cases h0 : se = 0
  case neg =>
    have hx0 : (se == 0) = false := by simpa using h0
    have hx1 : (se != 0) = true := by simpa using h0
    have E : Hid (er = se) := by show er = se; rw [HE.out, if_pos h0]
    have ER : Hid (R = zeroSv) := by show R = zeroSv; rw [HR.out, if_neg (by rw [E.out]; exact h0)]
    clear h0 HE HR HF hse
    have d0 := cell_of_block (o := 0) r1.out rfl; simp at d0
    have d1 := cell_of_block (o := 1) r1.out rfl; simp at d1
    have d2 := cell_of_block (o := 2) r1.out rfl; simp at d2
    have f0 := free_of_block r1.out 0
    have f1 := free_of_block r1.out 1
    have f2 := free_of_block r1.out 2
    go_wp2
    have rW := block_set (o := 2) (v := Value.slice none 0 0) (block_set (o := 1) (v := Value.slice none 0 0) (block_set (o := 0) (v := Value.int .i64 0) r1.out))
    have GW := Grow.setCell (Grow.setCell (Grow.setCell G1.out (p := ⟨w.heap.size + 1, 0, none⟩) (by simp) (Value.int .i64 0)) (p := ⟨w.heap.size + 1, 1, none⟩) (by simp) (Value.slice none 0 0)) (p := ⟨w.heap.size + 1, 2, none⟩) (by simp) (Value.slice none 0 0)
    simp at rW
    clear d0 d1 d2 f0 f1 f2
    generalize (((w1.setCell ⟨w.heap.size + 1, 0, none⟩ (Value.int .i64 0)).setCell ⟨w.heap.size + 1, 1, none⟩ (Value.slice none 0 0)).setCell ⟨w.heap.size + 1, 2, none⟩ (Value.slice none 0 0)) = W at *
    have y0 := cell_of_block (o := 0) rW rfl; simp at y0
    have y1 := cell_of_block (o := 1) rW rfl; simp at y1
    have y2 := cell_of_block (o := 2) rW rfl; simp at y2
    exact bodyPost_ret (v := .tuple #[.agg #[.int .i64 0, .slice none 0 0, .slice none 0 0], .int .i64 se]) (by simp [results, Try.results20, go_sem, y0, y1, y2]) rfl ⟨_, by rw [E.out], by rw [ER.out]; exact SvAt.zero _, GW, SvNew.zero _⟩
  case pos =>
    subst h0
    obtain ⟨_, hl1, hl2, _, _, _⟩ := HF.out rfl
    have HE1 : Hid (er = commErr s n t) := by show er = _; rw [HE.out, if_neg (by simp)]
    clear HE HF hse
    have d0 := cell_of_block (o := 0) b1.out rfl; simp at d0
    have d1 := cell_of_block (o := 1) b1.out rfl; simp at d1
    have d2 := cell_of_block (o := 2) b1.out rfl; simp at d2
    go_wp2_with fail
    refine (scopy_any s _ w1 S1.out hl1 hl2).mono ?_
    rintro e w2 ⟨aW', cW', aD', cD', rfl, g2, own⟩
    have r2 := hid (grow_block g2 r1.out)
    have hs2 := g2.size
    have gk : Grow w2 (w2.alloc (Obj.cells #[.int .i64 s.clock, .slice aW' s.waits.length cW', .slice aD' s.done.length cD'] 90)) := (Grow.refl w2).alloc _
    have KP : Hid (KeepAt w1.heap.size w2.heap.size (w2.alloc (Obj.cells #[.int .i64 s.clock, .slice aW' s.waits.length cW', .slice aD' s.done.length cD'] 90)) s) :=
      ⟨aW', cW', aD', cD', heap_alloc_new w2 _, hs2, ⟨ownsRow_grow own.1 gk, ownsRow_grow own.2.1 gk, own.2.2⟩, fun x hx => by have := own.1.lt x.block (by rw [hx]; rfl); omega, fun x hx => by have := own.2.1.lt x.block (by rw [hx]; rfl); omega⟩
    have G2 := hid (G1.out.trans (g2.trans gk))
    have r3 := hid (grow_block gk r2.out)
    clear d0 d1 d2 own
    go_wp2_with fail
    refine (kcommit_any w1.heap.size w2.heap.size s n t _ KP.out hl1 hl2).mono ?_
    rintro e w4 ⟨rfl, B4, K4⟩
    have r4 := hid ((B4.block (w.heap.size + 1) (by omega)).trans r3.out)
    have G4 : Hid (Grow w w4) := Below.trans G2.out (Below.mono B4 (by omega))
    have HK4 := hid K4
    clear K4 B4 gk g2 KP r3 G2 b1 r1 r2 S1
    generalize hpe : commErr s n t = pe at *
    have HCE := hid hpe
    clear hpe
    by_cases h0 : pe = 0
    case neg =>
      have hx0 : (pe == 0) = false := by simpa using h0
      have hx1 : (pe != 0) = true := by simpa using h0
      have ER : Hid (R = zeroSv) := by show R = zeroSv; rw [HR.out, if_neg (by rw [HE1.out]; exact h0)]
      clear h0 HR HK4
      have d0 := cell_of_block (o := 0) r4.out rfl; simp at d0
      have d1 := cell_of_block (o := 1) r4.out rfl; simp at d1
      have d2 := cell_of_block (o := 2) r4.out rfl; simp at d2
      have f0 := free_of_block r4.out 0
      have f1 := free_of_block r4.out 1
      have f2 := free_of_block r4.out 2
      go_wp2
      have rW := block_set (o := 2) (v := Value.slice none 0 0) (block_set (o := 1) (v := Value.slice none 0 0) (block_set (o := 0) (v := Value.int .i64 0) r4.out))
      have GW := Grow.setCell (Grow.setCell (Grow.setCell G4.out (p := ⟨w.heap.size + 1, 0, none⟩) (by simp) (Value.int .i64 0)) (p := ⟨w.heap.size + 1, 1, none⟩) (by simp) (Value.slice none 0 0)) (p := ⟨w.heap.size + 1, 2, none⟩) (by simp) (Value.slice none 0 0)
      simp at rW
      clear d0 d1 d2 f0 f1 f2
      generalize (((w4.setCell ⟨w.heap.size + 1, 0, none⟩ (Value.int .i64 0)).setCell ⟨w.heap.size + 1, 1, none⟩ (Value.slice none 0 0)).setCell ⟨w.heap.size + 1, 2, none⟩ (Value.slice none 0 0)) = W at *
      have y0 := cell_of_block (o := 0) rW rfl; simp at y0
      have y1 := cell_of_block (o := 1) rW rfl; simp at y1
      have y2 := cell_of_block (o := 2) rW rfl; simp at y2
      exact bodyPost_ret (v := .tuple #[.agg #[.int .i64 0, .slice none 0 0, .slice none 0 0], .int .i64 pe]) (by simp [results, Try.results20, go_sem, y0, y1, y2]) rfl ⟨_, by rw [HE1.out], by rw [ER.out]; exact SvAt.zero _, GW, SvNew.zero _⟩
    case pos =>
      subst h0
      have ER : Hid (R = commSv s n t ((findAt s.waits n).getD 0)) := by show R = _; rw [HR.out, if_pos HE1.out]
      have hce := HK4.out rfl
      obtain ⟨_, _, _, i, x, hfi, _, _, _, _, hd30⟩ := commErr_zero HCE.out
      have K5 := hce i hfi
      have eR : R = commSv s n t i := by rw [ER.out, hfi]; rfl
      rw [← eR] at K5
      have hR1 : R.waits.length ≤ 9 := by rw [eR]; have := settle_len s.waits.length (s.waits.set i ⟨n, t, true⟩) s.done; simp only [List.length_set] at this; show (settle s.waits.length (s.waits.set i ⟨n, t, true⟩) s.done).1.length ≤ 9; omega
      have hR2 : R.done.length ≤ 30 := by rw [eR]; exact hd30
      clear eR hce hd30 hfi
      have hbl : w.heap.size + 1 ≠ w2.heap.size := by omega
      obtain ⟨bW, dW, bD, dD, k5, _, ⟨o1, o2, _⟩, _, _⟩ := K5
      clear HK4 HR ER
      have o1' : Hid (WaitsAt w4 bW dW R.waits) := RowAt.of_own Wt.enc3 (by omega) o1
      have o2' : Hid (IntsAt w4 bD dD R.done) := RowAt.of_own (xs := R.done) (enc := encZ) (fun _ => rfl) (by omega) o2
      have n1 : Hid (∀ x, bW = some x → w1.heap.size ≤ x.block) := fun x hx => (o1.lt x.block (by rw [hx]; rfl)).1
      have n2 : Hid (∀ x, bD = some x → w1.heap.size ≤ x.block) := fun x hx => (o2.lt x.block (by rw [hx]; rfl)).1
      have c0 := cell_of_block (o := 0) k5 rfl; simp at c0
      have c1 := cell_of_block (o := 1) k5 rfl; simp at c1
      have c2 := cell_of_block (o := 2) k5 rfl; simp at c2
      have d0 := cell_of_block (o := 0) r4.out rfl; simp at d0
      have d1 := cell_of_block (o := 1) r4.out rfl; simp at d1
      have d2 := cell_of_block (o := 2) r4.out rfl; simp at d2
      have f0 := free_of_block r4.out 0
      have f1 := free_of_block r4.out 1
      have f2 := free_of_block r4.out 2
      clear o1 o2 k5
      go_wp2
      have rW := block_set (o := 2) (v := Value.slice bD R.done.length dD) (block_set (o := 1) (v := Value.slice bW R.waits.length dW) (block_set (o := 0) (v := Value.int .i64 R.clock) r4.out))
      have GW := Grow.setCell (Grow.setCell (Grow.setCell G4.out (p := ⟨w.heap.size + 1, 0, none⟩) (by simp) (Value.int .i64 R.clock)) (p := ⟨w.heap.size + 1, 1, none⟩) (by simp) (Value.slice bW R.waits.length dW)) (p := ⟨w.heap.size + 1, 2, none⟩) (by simp) (Value.slice bD R.done.length dD)
      have SW : SvAt (((w4.setCell ⟨w.heap.size + 1, 0, none⟩ (Value.int .i64 R.clock)).setCell ⟨w.heap.size + 1, 1, none⟩ (Value.slice bW R.waits.length dW)).setCell ⟨w.heap.size + 1, 2, none⟩ (Value.slice bD R.done.length dD)) R (.agg #[.int .i64 R.clock, .slice bW R.waits.length dW, .slice bD R.done.length dD]) :=
        ⟨bW, dW, bD, dD, rfl, RowAt.far (RowAt.far (RowAt.far o1'.out (fun x hx => by have := n1.out x hx; simp only; omega) _) (fun x hx => by have := n1.out x hx; simp only; omega) _) (fun x hx => by have := n1.out x hx; simp only; omega) _, RowAt.far (RowAt.far (RowAt.far o2'.out (fun x hx => by have := n2.out x hx; simp only; omega) _) (fun x hx => by have := n2.out x hx; simp only; omega) _) (fun x hx => by have := n2.out x hx; simp only; omega) _⟩
      simp at rW
      clear c0 c1 c2 d0 d1 d2 f0 f1 f2
      generalize (((w4.setCell ⟨w.heap.size + 1, 0, none⟩ (Value.int .i64 R.clock)).setCell ⟨w.heap.size + 1, 1, none⟩ (Value.slice bW R.waits.length dW)).setCell ⟨w.heap.size + 1, 2, none⟩ (Value.slice bD R.done.length dD)) = W at *
      have y0 := cell_of_block (o := 0) rW rfl; simp at y0
      have y1 := cell_of_block (o := 1) rW rfl; simp at y1
      have y2 := cell_of_block (o := 2) rW rfl; simp at y2
      exact bodyPost_ret (v := .tuple #[.agg #[.int .i64 R.clock, .slice bW R.waits.length dW, .slice bD R.done.length dD], .int .i64 0]) (by simp [results, Try.results20, go_sem, y0, y1, y2]) rfl ⟨_, by rw [HE1.out], SW, GW, SvNew.mk (fun x hx => by have := n1.out x hx; omega) (fun x hx => by have := n2.out x hx; omega)⟩
end Go.Proofs.Ytlpdoloolagcbab
