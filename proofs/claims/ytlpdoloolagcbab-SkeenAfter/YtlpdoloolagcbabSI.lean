/- Several servers: what each does. -/
import Derived.Test.YtlpdoloolagcbabSH
namespace Go.Proofs.Ytlpdoloolagcbab
open Go.RowKit

theorem call_all1 (u v x : Value) (w : World) : (callFunc 55 #[u, v, x]).run Try.prog w = .ok (.enter 55 #[u, v, x]) w := by simp [go_sem]
theorem call_all2 (u v x : Value) (w : World) : (callFunc 56 #[u, v, x]).run Try.prog w = .ok (.enter 56 #[u, v, x]) w := by simp [go_sem]
set_option maxHeartbeats 4000000 in
theorem all2_any (s : Sv) (r : Rs) (n gr : Int) (bN bG : Nat) (w : World) (hs : SvAt w s r.val) (hN : w.heap[bN]? = some (Obj.cells #[.int .i64 n] 3 (0, 0))) (hG : w.heap[bG]? = some (Obj.cells #[.int .i64 gr] 3 (0, 0))) :
    Calls Try.prog 56 #[r.val, .pointer (some ⟨bN, 0, none⟩), .pointer (some ⟨bG, 0, none⟩)] w fun e w' => ∃ r' : Rs, e = .returned (.tuple #[r'.val, .int .i64 (s.commE n gr)]) ∧ SvAt w' (s.commR n gr) r'.val ∧ Grow w w' ∧ SvNew w.heap.size r'.val := by
  have hcon := fun v W h => scomm_any s v n gr W h
  generalize s.commE n gr = er at *
  generalize s.commR n gr = R at *
  have HS := hid hs
  have g0 : Grow w ((w.alloc (Obj.cells #[.int .i64 r.clock, .slice r.aW r.nW r.cW, .slice r.aD r.nD r.cD] 43)).alloc (Obj.cells #[.int .i64 0, .slice none 0 0, .slice none 0 0] 43)) := ((Grow.refl w).alloc _).alloc _
  have kR : Hid (((w.alloc (Obj.cells #[.int .i64 r.clock, .slice r.aW r.nW r.cW, .slice r.aD r.nD r.cD] 43)).alloc (Obj.cells #[.int .i64 0, .slice none 0 0, .slice none 0 0] 43)).heap[w.heap.size + 1]? = some (Obj.cells #[.int .i64 0, .slice none 0 0, .slice none 0 0] 43 (0, 0))) := by
    have := heap_alloc_new (w.alloc (Obj.cells #[.int .i64 r.clock, .slice r.aW r.nW r.cW, .slice r.aD r.nD r.cD] 43)) (Obj.cells #[.int .i64 0, .slice none 0 0, .slice none 0 0] 43 (0, 0))
    show _ = _
    simpa using this
  have n0 := cell_grow g0 (cell_of_block (o := 0) hN rfl)
  have c0 := cell_grow g0 (cell_of_block (o := 0) hG rfl)
  clear hs hN hG
  unfold Rs.val
  go_enter Try.func56, Try.ntmps56
  go_wp2_with fail
  refine (hcon _ _ (HS.out.grow g0)).mono ?_
  rintro e w1 ⟨v', rfl, hsv, g1, hnew⟩
  obtain ⟨r', rfl, hsv'⟩ := hsv.raw
  have HSV := hid hsv'
  have HN' : Hid (SvNew w.heap.size r'.val) := fun c aW nW cW aD nD cD e => by
    have := hnew c aW nW cW aD nD cD e
    simp at this
    exact ⟨fun x hx => by have := this.1 x hx; omega, fun x hx => by have := this.2 x hx; omega⟩
  have HN2 : Hid (∀ x, (r'.aW = some x ∨ r'.aD = some x) → w.heap.size + 2 ≤ x.block) := fun x hx => by
    have := hnew r'.clock r'.aW r'.nW r'.cW r'.aD r'.nD r'.cD rfl
    simp at this
    rcases hx with hx | hx
    · exact this.1 x hx
    · exact this.2 x hx
  have r1 := hid (grow_block g1 kR.out)
  have G1 := hid (g0.trans g1)
  clear n0 c0 hsv hsv' hnew g0 g1 kR HS
  have d0 := cell_of_block (o := 0) r1.out rfl; simp at d0
  have d1 := cell_of_block (o := 1) r1.out rfl; simp at d1
  have d2 := cell_of_block (o := 2) r1.out rfl; simp at d2
  have f0 := free_of_block r1.out 0
  have f1 := free_of_block r1.out 1
  have f2 := free_of_block r1.out 2
  unfold Rs.val
  go_wp2
  have rW := block_set (o := 2) (v := Value.slice r'.aD r'.nD r'.cD) (block_set (o := 1) (v := Value.slice r'.aW r'.nW r'.cW) (block_set (o := 0) (v := Value.int .i64 r'.clock) r1.out))
  have GW := Grow.setCell (Grow.setCell (Grow.setCell G1.out (p := ⟨w.heap.size + 1, 0, none⟩) (by simp) (Value.int .i64 r'.clock)) (p := ⟨w.heap.size + 1, 1, none⟩) (by simp) (Value.slice r'.aW r'.nW r'.cW)) (p := ⟨w.heap.size + 1, 2, none⟩) (by simp) (Value.slice r'.aD r'.nD r'.cD)
  have hoff : r'.off (w.heap.size + 1) := ⟨fun x hx => by have := HN2.out x (.inl hx); omega, fun x hx => by have := HN2.out x (.inr hx); omega⟩
  have SW := SvAt.set (SvAt.set (SvAt.set HSV.out (p := ⟨w.heap.size + 1, 0, none⟩) hoff (Value.int .i64 r'.clock)) (p := ⟨w.heap.size + 1, 1, none⟩) hoff (Value.slice r'.aW r'.nW r'.cW)) (p := ⟨w.heap.size + 1, 2, none⟩) hoff (Value.slice r'.aD r'.nD r'.cD)
  simp at rW
  clear d0 d1 d2 f0 f1 f2
  generalize (((w1.setCell ⟨w.heap.size + 1, 0, none⟩ (Value.int .i64 r'.clock)).setCell ⟨w.heap.size + 1, 1, none⟩ (Value.slice r'.aW r'.nW r'.cW)).setCell ⟨w.heap.size + 1, 2, none⟩ (Value.slice r'.aD r'.nD r'.cD)) = W at *
  have y0 := cell_of_block (o := 0) rW rfl; simp at y0
  have y1 := cell_of_block (o := 1) rW rfl; simp at y1
  have y2 := cell_of_block (o := 2) rW rfl; simp at y2
  exact bodyPost_ret (v := .tuple #[.agg #[.int .i64 r'.clock, .slice r'.aW r'.nW r'.cW, .slice r'.aD r'.nD r'.cD], .int .i64 er]) (by simp [results, Try.results56, go_sem, y0, y1, y2]) rfl ⟨r', rfl, SW, GW, HN'.out⟩
/-- The world has grown, but for one block. -/
def But (b : Nat) (w w' : World) : Prop := w.grownBy w' (some b)
set_option maxHeartbeats 4000000 in
theorem all1_any (s : Sv) (r : Rs) (n gr : Int) (bN bG : Nat) (w : World) (hs : SvAt w s r.val) (hN : w.heap[bN]? = some (Obj.cells #[.int .i64 n] 3 (0, 0))) (hG : w.heap[bG]? = some (Obj.cells #[.int .i64 gr] 3 (0, 0))) :
    Calls Try.prog 55 #[r.val, .pointer (some ⟨bN, 0, none⟩), .pointer (some ⟨bG, 0, none⟩)] w fun e w' => ∃ r' : Rs, e = .returned (.tuple #[r'.val, .int .i64 (s.propE n)]) ∧ SvAt w' (s.propR n) r'.val ∧ w.grownBy w' (some bG) ∧ SvNew w.heap.size r'.val ∧ w'.heap[bG]? = some (Obj.cells #[.int .i64 (max gr (s.propR n).clock)] 3 (0, 0)) := by
  have hcon := fun v W h => sprop_any s v n W h
  generalize s.propE n = er at *
  generalize s.propR n = R at *
  have HS := hid hs
  have hGl := lt_of_block hG
  have g0 : Grow w ((w.alloc (Obj.cells #[.int .i64 r.clock, .slice r.aW r.nW r.cW, .slice r.aD r.nD r.cD] 43)).alloc (Obj.cells #[.int .i64 0, .slice none 0 0, .slice none 0 0] 43)) := ((Grow.refl w).alloc _).alloc _
  have kR : Hid (((w.alloc (Obj.cells #[.int .i64 r.clock, .slice r.aW r.nW r.cW, .slice r.aD r.nD r.cD] 43)).alloc (Obj.cells #[.int .i64 0, .slice none 0 0, .slice none 0 0] 43)).heap[w.heap.size + 1]? = some (Obj.cells #[.int .i64 0, .slice none 0 0, .slice none 0 0] 43 (0, 0))) := by
    have := heap_alloc_new (w.alloc (Obj.cells #[.int .i64 r.clock, .slice r.aW r.nW r.cW, .slice r.aD r.nD r.cD] 43)) (Obj.cells #[.int .i64 0, .slice none 0 0, .slice none 0 0] 43 (0, 0))
    show _ = _
    simpa using this
  have n0 := cell_grow g0 (cell_of_block (o := 0) hN rfl)
  have KG := hid (grow_block g0 hG)
  clear hs hN hG
  unfold Rs.val
  go_enter Try.func55, Try.ntmps55
  go_wp2_with fail
  refine (hcon _ _ (HS.out.grow g0)).mono ?_
  rintro e w1 ⟨v', rfl, hsv, g1, hnew⟩
  obtain ⟨r', rfl, hsv'⟩ := hsv.raw
  have HSV := hid hsv'
  have HN' : Hid (SvNew w.heap.size r'.val) := fun c aW nW cW aD nD cD e => by
    have := hnew c aW nW cW aD nD cD e
    simp at this
    exact ⟨fun x hx => by have := this.1 x hx; omega, fun x hx => by have := this.2 x hx; omega⟩
  have HN2 : Hid (∀ x, (r'.aW = some x ∨ r'.aD = some x) → w.heap.size + 2 ≤ x.block) := fun x hx => by
    have := hnew r'.clock r'.aW r'.nW r'.cW r'.aD r'.nD r'.cD rfl
    simp at this
    rcases hx with hx | hx
    · exact this.1 x hx
    · exact this.2 x hx
  have ga : Grow w1 (w1.alloc (Obj.cells #[.int .i64 r'.clock, .slice r'.aW r'.nW r'.cW, .slice r'.aD r'.nD r'.cD] 43)) := (Grow.refl w1).alloc _
  have hs1 : w.heap.size + 2 ≤ w1.heap.size := by have := g1.size; simp at this; omega
  have r1 := hid (grow_block g1 kR.out)
  have q1 := hid (grow_block g1 KG.out)
  have G1 := hid (g0.trans g1)
  clear n0 hsv hsv' hnew g0 g1 kR HS KG
  have m0 := cell_of_block (o := 0) q1.out rfl; simp at m0
  have mf := free_of_block q1.out 0
  have d0 := cell_of_block (o := 0) r1.out rfl; simp at d0
  have d1 := cell_of_block (o := 1) r1.out rfl; simp at d1
  have d2 := cell_of_block (o := 2) r1.out rfl; simp at d2
  have f0 := free_of_block r1.out 0
  have f1 := free_of_block r1.out 1
  have f2 := free_of_block r1.out 2
  have m0' := cell_grow ga m0
  have mf' := free_of_block (grow_block ga q1.out) 0
  have hbn1 : bG ≠ w1.heap.size := by omega
  have hbn2 : bG ≠ w.heap.size + 1 := by omega
  have hrn : w.heap.size + 1 ≠ w1.heap.size := by omega
  unfold Rs.val
  by_cases hmx : gr < R.clock
  · have hmx' : decide (gr < R.clock) = true := by simpa using hmx
    have HMX : Hid (max gr R.clock = R.clock) := by show max gr R.clock = R.clock; omega
    have k2 : ((w1.alloc (Obj.cells #[.int .i64 r'.clock, .slice r'.aW r'.nW r'.cW, .slice r'.aD r'.nD r'.cD] 43)).setCell ⟨bG, 0, none⟩ (.int .i64 R.clock)).heap[w.heap.size + 1]? = some (Obj.cells #[.int .i64 0, .slice none 0 0, .slice none 0 0] 43 (0, 0)) := block_far (a := ⟨bG, 0, none⟩) (Ne.symm hbn2) (grow_block ga r1.out)
    have K2 := hid k2
    have z0 : ((w1.alloc (Obj.cells #[.int .i64 r'.clock, .slice r'.aW r'.nW r'.cW, .slice r'.aD r'.nD r'.cD] 43)).setCell ⟨bG, 0, none⟩ (.int .i64 R.clock)).cell? ⟨w.heap.size + 1, 0, none⟩ = some (.int .i64 0) := cell_of_block k2 rfl
    have z1 : ((w1.alloc (Obj.cells #[.int .i64 r'.clock, .slice r'.aW r'.nW r'.cW, .slice r'.aD r'.nD r'.cD] 43)).setCell ⟨bG, 0, none⟩ (.int .i64 R.clock)).cell? ⟨w.heap.size + 1, 1, none⟩ = some (.slice none 0 0) := cell_of_block k2 rfl
    have z2 : ((w1.alloc (Obj.cells #[.int .i64 r'.clock, .slice r'.aW r'.nW r'.cW, .slice r'.aD r'.nD r'.cD] 43)).setCell ⟨bG, 0, none⟩ (.int .i64 R.clock)).cell? ⟨w.heap.size + 1, 2, none⟩ = some (.slice none 0 0) := cell_of_block k2 rfl
    have zf0 : ((w1.alloc (Obj.cells #[.int .i64 r'.clock, .slice r'.aW r'.nW r'.cW, .slice r'.aD r'.nD r'.cD] 43)).setCell ⟨bG, 0, none⟩ (.int .i64 R.clock)).frozen? ⟨w.heap.size + 1, 0, none⟩ = false := free_of_block k2 0
    have zf1 : ((w1.alloc (Obj.cells #[.int .i64 r'.clock, .slice r'.aW r'.nW r'.cW, .slice r'.aD r'.nD r'.cD] 43)).setCell ⟨bG, 0, none⟩ (.int .i64 R.clock)).frozen? ⟨w.heap.size + 1, 1, none⟩ = false := free_of_block k2 1
    have zf2 : ((w1.alloc (Obj.cells #[.int .i64 r'.clock, .slice r'.aW r'.nW r'.cW, .slice r'.aD r'.nD r'.cD] 43)).setCell ⟨bG, 0, none⟩ (.int .i64 R.clock)).frozen? ⟨w.heap.size + 1, 2, none⟩ = false := free_of_block k2 2
    have b2 := hid (block_set (o := 0) (v := Value.int .i64 R.clock) (grow_block ga q1.out))
    clear k2
    go_wp2
    have rW := block_set (o := 2) (v := Value.slice r'.aD r'.nD r'.cD) (block_set (o := 1) (v := Value.slice r'.aW r'.nW r'.cW) (block_set (o := 0) (v := Value.int .i64 r'.clock) K2.out))
    have bW := block_far (a := ⟨w.heap.size + 1, 2, none⟩) (v := Value.slice r'.aD r'.nD r'.cD) hbn2 (block_far (a := ⟨w.heap.size + 1, 1, none⟩) (v := Value.slice r'.aW r'.nW r'.cW) hbn2 (block_far (a := ⟨w.heap.size + 1, 0, none⟩) (v := Value.int .i64 r'.clock) hbn2 b2.out))
    have GW : w.grownBy (((((w1.alloc (Obj.cells #[.int .i64 r'.clock, .slice r'.aW r'.nW r'.cW, .slice r'.aD r'.nD r'.cD] 43)).setCell ⟨bG, 0, none⟩ (.int .i64 R.clock)).setCell ⟨w.heap.size + 1, 0, none⟩ (Value.int .i64 r'.clock)).setCell ⟨w.heap.size + 1, 1, none⟩ (Value.slice r'.aW r'.nW r'.cW)).setCell ⟨w.heap.size + 1, 2, none⟩ (Value.slice r'.aD r'.nD r'.cD)) (some bG) := ⟨by have := Below.os G1.out; exact this, by have := Below.tape G1.out; exact this, by have := Below.output G1.out; exact this, by have := G1.out.size; simp [World.setCell]; omega, fun j hj hn => by
      have hjb : j ≠ bG := fun e => hn (by rw [e])
      rw [Below.heap_setCell _ _ _ _ (show j ≠ w.heap.size + 1 by omega), Below.heap_setCell _ _ _ _ (show j ≠ w.heap.size + 1 by omega), Below.heap_setCell _ _ _ _ (show j ≠ w.heap.size + 1 by omega), Below.heap_setCell _ _ _ _ hjb, Below.heap_alloc _ _ _ (by omega)]
      exact Below.block G1.out j hj⟩
    have hoff : r'.off (w.heap.size + 1) := ⟨fun x hx => by have := HN2.out x (.inl hx); omega, fun x hx => by have := HN2.out x (.inr hx); omega⟩
    have hoffG : r'.off bG := ⟨fun x hx => by have := HN2.out x (.inl hx); omega, fun x hx => by have := HN2.out x (.inr hx); omega⟩
    have SW := SvAt.set (SvAt.set (SvAt.set (SvAt.set (HSV.out.grow ga) (p := ⟨bG, 0, none⟩) hoffG (Value.int .i64 R.clock)) (p := ⟨w.heap.size + 1, 0, none⟩) hoff (Value.int .i64 r'.clock)) (p := ⟨w.heap.size + 1, 1, none⟩) hoff (Value.slice r'.aW r'.nW r'.cW)) (p := ⟨w.heap.size + 1, 2, none⟩) hoff (Value.slice r'.aD r'.nD r'.cD)
    simp at rW bW
    clear m0 m0' mf mf' d0 d1 d2 f0 f1 f2 z0 z1 z2 zf0 zf1 zf2
    generalize (((((w1.alloc (Obj.cells #[.int .i64 r'.clock, .slice r'.aW r'.nW r'.cW, .slice r'.aD r'.nD r'.cD] 43)).setCell ⟨bG, 0, none⟩ (.int .i64 R.clock)).setCell ⟨w.heap.size + 1, 0, none⟩ (Value.int .i64 r'.clock)).setCell ⟨w.heap.size + 1, 1, none⟩ (Value.slice r'.aW r'.nW r'.cW)).setCell ⟨w.heap.size + 1, 2, none⟩ (Value.slice r'.aD r'.nD r'.cD)) = W at *
    have y0 := cell_of_block (o := 0) rW rfl; simp at y0
    have y1 := cell_of_block (o := 1) rW rfl; simp at y1
    have y2 := cell_of_block (o := 2) rW rfl; simp at y2
    exact bodyPost_ret (v := .tuple #[.agg #[.int .i64 r'.clock, .slice r'.aW r'.nW r'.cW, .slice r'.aD r'.nD r'.cD], .int .i64 er]) (by simp [results, Try.results55, go_sem, y0, y1, y2]) rfl ⟨r', rfl, SW, GW, HN'.out, by rw [HMX.out]; exact bW⟩
  · have hmx' : decide (gr < R.clock) = false := by simpa using hmx
    have HMX : Hid (max gr R.clock = gr) := by show max gr R.clock = gr; omega
    have k2 : ((w1.alloc (Obj.cells #[.int .i64 r'.clock, .slice r'.aW r'.nW r'.cW, .slice r'.aD r'.nD r'.cD] 43)).setCell ⟨bG, 0, none⟩ (.int .i64 gr)).heap[w.heap.size + 1]? = some (Obj.cells #[.int .i64 0, .slice none 0 0, .slice none 0 0] 43 (0, 0)) := block_far (a := ⟨bG, 0, none⟩) (Ne.symm hbn2) (grow_block ga r1.out)
    have K2 := hid k2
    have z0 : ((w1.alloc (Obj.cells #[.int .i64 r'.clock, .slice r'.aW r'.nW r'.cW, .slice r'.aD r'.nD r'.cD] 43)).setCell ⟨bG, 0, none⟩ (.int .i64 gr)).cell? ⟨w.heap.size + 1, 0, none⟩ = some (.int .i64 0) := cell_of_block k2 rfl
    have z1 : ((w1.alloc (Obj.cells #[.int .i64 r'.clock, .slice r'.aW r'.nW r'.cW, .slice r'.aD r'.nD r'.cD] 43)).setCell ⟨bG, 0, none⟩ (.int .i64 gr)).cell? ⟨w.heap.size + 1, 1, none⟩ = some (.slice none 0 0) := cell_of_block k2 rfl
    have z2 : ((w1.alloc (Obj.cells #[.int .i64 r'.clock, .slice r'.aW r'.nW r'.cW, .slice r'.aD r'.nD r'.cD] 43)).setCell ⟨bG, 0, none⟩ (.int .i64 gr)).cell? ⟨w.heap.size + 1, 2, none⟩ = some (.slice none 0 0) := cell_of_block k2 rfl
    have zf0 : ((w1.alloc (Obj.cells #[.int .i64 r'.clock, .slice r'.aW r'.nW r'.cW, .slice r'.aD r'.nD r'.cD] 43)).setCell ⟨bG, 0, none⟩ (.int .i64 gr)).frozen? ⟨w.heap.size + 1, 0, none⟩ = false := free_of_block k2 0
    have zf1 : ((w1.alloc (Obj.cells #[.int .i64 r'.clock, .slice r'.aW r'.nW r'.cW, .slice r'.aD r'.nD r'.cD] 43)).setCell ⟨bG, 0, none⟩ (.int .i64 gr)).frozen? ⟨w.heap.size + 1, 1, none⟩ = false := free_of_block k2 1
    have zf2 : ((w1.alloc (Obj.cells #[.int .i64 r'.clock, .slice r'.aW r'.nW r'.cW, .slice r'.aD r'.nD r'.cD] 43)).setCell ⟨bG, 0, none⟩ (.int .i64 gr)).frozen? ⟨w.heap.size + 1, 2, none⟩ = false := free_of_block k2 2
    have b2 := hid (block_set (o := 0) (v := Value.int .i64 gr) (grow_block ga q1.out))
    clear k2
    have hmx2 : R.clock ≤ gr := by omega
    go_wp2
    have rW := block_set (o := 2) (v := Value.slice r'.aD r'.nD r'.cD) (block_set (o := 1) (v := Value.slice r'.aW r'.nW r'.cW) (block_set (o := 0) (v := Value.int .i64 r'.clock) K2.out))
    have bW := block_far (a := ⟨w.heap.size + 1, 2, none⟩) (v := Value.slice r'.aD r'.nD r'.cD) hbn2 (block_far (a := ⟨w.heap.size + 1, 1, none⟩) (v := Value.slice r'.aW r'.nW r'.cW) hbn2 (block_far (a := ⟨w.heap.size + 1, 0, none⟩) (v := Value.int .i64 r'.clock) hbn2 b2.out))
    have GW : w.grownBy (((((w1.alloc (Obj.cells #[.int .i64 r'.clock, .slice r'.aW r'.nW r'.cW, .slice r'.aD r'.nD r'.cD] 43)).setCell ⟨bG, 0, none⟩ (.int .i64 gr)).setCell ⟨w.heap.size + 1, 0, none⟩ (Value.int .i64 r'.clock)).setCell ⟨w.heap.size + 1, 1, none⟩ (Value.slice r'.aW r'.nW r'.cW)).setCell ⟨w.heap.size + 1, 2, none⟩ (Value.slice r'.aD r'.nD r'.cD)) (some bG) := ⟨by have := Below.os G1.out; exact this, by have := Below.tape G1.out; exact this, by have := Below.output G1.out; exact this, by have := G1.out.size; simp [World.setCell]; omega, fun j hj hn => by
      have hjb : j ≠ bG := fun e => hn (by rw [e])
      rw [Below.heap_setCell _ _ _ _ (show j ≠ w.heap.size + 1 by omega), Below.heap_setCell _ _ _ _ (show j ≠ w.heap.size + 1 by omega), Below.heap_setCell _ _ _ _ (show j ≠ w.heap.size + 1 by omega), Below.heap_setCell _ _ _ _ hjb, Below.heap_alloc _ _ _ (by omega)]
      exact Below.block G1.out j hj⟩
    have hoff : r'.off (w.heap.size + 1) := ⟨fun x hx => by have := HN2.out x (.inl hx); omega, fun x hx => by have := HN2.out x (.inr hx); omega⟩
    have hoffG : r'.off bG := ⟨fun x hx => by have := HN2.out x (.inl hx); omega, fun x hx => by have := HN2.out x (.inr hx); omega⟩
    have SW := SvAt.set (SvAt.set (SvAt.set (SvAt.set (HSV.out.grow ga) (p := ⟨bG, 0, none⟩) hoffG (Value.int .i64 gr)) (p := ⟨w.heap.size + 1, 0, none⟩) hoff (Value.int .i64 r'.clock)) (p := ⟨w.heap.size + 1, 1, none⟩) hoff (Value.slice r'.aW r'.nW r'.cW)) (p := ⟨w.heap.size + 1, 2, none⟩) hoff (Value.slice r'.aD r'.nD r'.cD)
    simp at rW bW
    clear m0 m0' mf mf' d0 d1 d2 f0 f1 f2 z0 z1 z2 zf0 zf1 zf2
    generalize (((((w1.alloc (Obj.cells #[.int .i64 r'.clock, .slice r'.aW r'.nW r'.cW, .slice r'.aD r'.nD r'.cD] 43)).setCell ⟨bG, 0, none⟩ (.int .i64 gr)).setCell ⟨w.heap.size + 1, 0, none⟩ (Value.int .i64 r'.clock)).setCell ⟨w.heap.size + 1, 1, none⟩ (Value.slice r'.aW r'.nW r'.cW)).setCell ⟨w.heap.size + 1, 2, none⟩ (Value.slice r'.aD r'.nD r'.cD)) = W at *
    have y0 := cell_of_block (o := 0) rW rfl; simp at y0
    have y1 := cell_of_block (o := 1) rW rfl; simp at y1
    have y2 := cell_of_block (o := 2) rW rfl; simp at y2
    exact bodyPost_ret (v := .tuple #[.agg #[.int .i64 r'.clock, .slice r'.aW r'.nW r'.cW, .slice r'.aD r'.nD r'.cD], .int .i64 er]) (by simp [results, Try.results55, go_sem, y0, y1, y2]) rfl ⟨r', rfl, SW, GW, HN'.out, by rw [HMX.out]; exact bW⟩
end Go.Proofs.Ytlpdoloolagcbab
