/- Who keeps a server: its lists are its own. -/
import Derived.Test.YtlpdoloolagcbabS4
import Derived.Test.YtlpdoloolagcbabS6
namespace Go.Proofs.Ytlpdoloolagcbab
open Go.RowKit

theorem hid {p : Prop} (h : p) : Hid p := h
theorem Try.infoInt : (Try.prog.info? 3).map (fun i => (i.zero, i.size, i.bytes)) = some (some (.int .i64 0), 1, 8) := by kernel_rfl
theorem encZ_one (x : Int) : ∀ v ∈ encZ x, v.oneCell' = true := by
  intro v hv
  simp [encZ] at hv
  rw [hv]
  rfl
theorem ownsRow_mono {w : World} {base base' : Nat} {e : TypeId} {size : Nat} {v : Value} {n : Nat} {xs : List Value} (h : w.ownsRow base e size v n xs) (hb : base' ≤ base) : w.ownsRow base' e size v n xs := by
  refine ⟨h.1, h.2.imp id ?_⟩
  rintro ⟨g, cap, cur, h1, h2, r⟩
  exact ⟨g, cap, cur, h1, Nat.le_trans hb h2, r⟩
/-- A server's lists, its own. -/
def OwnSv (base : Nat) (w : World) (s : Sv) (aW : Option Addr) (cW : Nat) (aD : Option Addr) (cD : Nat) : Prop :=
  w.ownsRow base 64 3 (.slice aW s.waits.length cW) s.waits.length (flat Wt.enc s.waits) ∧ w.ownsRow base 3 1 (.slice aD s.done.length cD) s.done.length (flat encZ s.done) ∧ (∀ x y, aW = some x → aD = some y → x.block ≠ y.block)
theorem OwnSv.at {base : Nat} {w : World} {s : Sv} {aW aD : Option Addr} {cW cD : Nat} (h : OwnSv base w s aW cW aD cD) (h1 : s.waits.length ≤ 1000) (h2 : s.done.length ≤ 1000) : WaitsAt w aW cW s.waits ∧ IntsAt w aD cD s.done :=
  ⟨RowAt.of_own Wt.enc3 (by omega) h.1, RowAt.of_own (xs := s.done) (enc := encZ) (fun _ => rfl) (by omega) h.2.1⟩
set_option maxHeartbeats 2000000 in
theorem scopy_any (s : Sv) (v : Value) (w : World) (hs : SvAt w s v) (hl1 : s.waits.length ≤ 8) (hl2 : s.done.length ≤ 30) :
    Calls Try.prog 49 #[v] w fun e w' => ∃ aW cW aD cD, e = .returned (.agg #[.int .i64 s.clock, .slice aW s.waits.length cW, .slice aD s.done.length cD]) ∧ Grow w w' ∧ OwnSv w.heap.size w' s aW cW aD cD := by
  obtain ⟨aW, cW, aD, cD, rfl, hw, hd⟩ := hs
  obtain ⟨clock, ws, ds⟩ := s
  simp only at hw hd hl1 hl2 ⊢
  obtain ⟨i0, hinf, hz0, hz1, hz2⟩ := info_parts Try.infoWait
  obtain ⟨i1, hinf', hy0, hy1, hy2⟩ := info_parts Try.infoInt
  have HW : Hid (WaitsAt w aW cW ws) := hw
  have HD : Hid (IntsAt w aD cD ds) := hd
  clear hw hd
  have g0 : Grow w ((w.alloc (Obj.cells #[.int .i64 clock, .slice aW ws.length cW, .slice aD ds.length cD] 43)).alloc (Obj.cells #[.int .i64 0, .slice none 0 0, .slice none 0 0] 43)) := ((Grow.refl w).alloc _).alloc _
  have kB : ((w.alloc (Obj.cells #[.int .i64 clock, .slice aW ws.length cW, .slice aD ds.length cD] 43)).alloc (Obj.cells #[.int .i64 0, .slice none 0 0, .slice none 0 0] 43)).heap[w.heap.size]? = some (Obj.cells #[.int .i64 clock, .slice aW ws.length cW, .slice aD ds.length cD] 43 (0, 0)) := (Below.heap_alloc _ _ _ (by simp)).trans (heap_alloc_new w _)
  have kR : ((w.alloc (Obj.cells #[.int .i64 clock, .slice aW ws.length cW, .slice aD ds.length cD] 43)).alloc (Obj.cells #[.int .i64 0, .slice none 0 0, .slice none 0 0] 43)).heap[w.heap.size + 1]? = some (Obj.cells #[.int .i64 0, .slice none 0 0, .slice none 0 0] 43 (0, 0)) := by
    have := heap_alloc_new (w.alloc (Obj.cells #[.int .i64 clock, .slice aW ws.length cW, .slice aD ds.length cD] 43)) (Obj.cells #[.int .i64 0, .slice none 0 0, .slice none 0 0] 43 (0, 0))
    simpa using this
  go_enter Try.func49, Try.ntmps49
  have HB := hid kB
  have HR := hid kR
  clear kB kR
  go_wp2_with (first
    | (at_builtin; refine wpList_append_copy (enc := Wt.enc) (by rfl) _ _ 40 (by rfl) (w.heap.size + 2) 64 i0 (.agg #[.int .i64 0, .int .i64 0, .bool false]) 3 24 Try.underlying40 hinf hz0 hz1 hz2 (by rfl) (by decide) (by rfl) aW cW ws (by rfl) (HW.out.grow g0) Wt.enc3 Wt.one (by omega) (by unfold maxLen; omega) (by simp) (w.heap.size + 2) (by simp) ?_; intro aW' cW' w2 own2 g2 new2; have k2 := grow_block g2 HB.out; have d1 := cell_of_block (o := 1) k2 rfl; have d2 := cell_of_block (o := 2) k2 rfl; have f1 := free_of_block k2 1; simp at d1 d2; have G3 := Grow.setCell (g0.trans g2) (p := ⟨w.heap.size, 1, none⟩) (by simp) (Value.slice aW' ws.length cW'); have hs2 : w.heap.size + 2 ≤ w2.heap.size := (by have := g2.size; simp at this; omega))
    | (at_builtin; go_must (refine wpList_append_copy (enc := encZ) (by rfl) _ _ 41 (by rfl) (w.heap.size + 2) 3 i1 (.int .i64 0) 1 8 Try.underlying41 hinf' hy0 hy1 hy2 (by rfl) (by decide) (by rfl) aD cD ds (by rfl) (HD.out.grow G3) (fun _ => rfl) encZ_one (by omega) (by unfold maxLen; omega) (by simpa [World.setCell] using hs2) w2.heap.size (by simp [World.setCell]) ?_; intro aD' cD' w4 own4 g4 new4; have k4 := grow_block g4 (block_set (o := 1) (v := Value.slice aW' ws.length cW') k2); have r4 := grow_block g4 (block_far (a := ⟨w.heap.size, 1, none⟩) (v := Value.slice aW' ws.length cW') (by simp) (grow_block g2 HR.out)); simp at k4; have e0 := cell_of_block (o := 0) k4 rfl; have e1 := cell_of_block (o := 1) k4 rfl; have e2 := cell_of_block (o := 2) k4 rfl; have f2 := free_of_block k4 2; have r0 := cell_of_block (o := 0) r4 rfl; have r1 := cell_of_block (o := 1) r4 rfl; have r2 := cell_of_block (o := 2) r4 rfl; have q0 := free_of_block r4 0; have q1 := free_of_block r4 1; have q2 := free_of_block r4 2; simp at e0 e1 e2 r0 r1 r2)))
  have G4 := G3.trans g4
  have rW := block_set (o := 2) (v := Value.slice aD' ds.length cD') (block_set (o := 1) (v := Value.slice aW' ws.length cW') (block_set (o := 0) (v := Value.int .i64 clock) (block_far (a := ⟨w.heap.size, 2, none⟩) (v := Value.slice aD' ds.length cD') (by simp) r4)))
  have GW := Grow.setCell (Grow.setCell (Grow.setCell (Grow.setCell G4 (p := ⟨w.heap.size, 2, none⟩) (by simp) (Value.slice aD' ds.length cD')) (p := ⟨w.heap.size + 1, 0, none⟩) (by simp) (Value.int .i64 clock)) (p := ⟨w.heap.size + 1, 1, none⟩) (by simp) (Value.slice aW' ws.length cW')) (p := ⟨w.heap.size + 1, 2, none⟩) (by simp) (Value.slice aD' ds.length cD')
  have oW := ownsRow_far (ownsRow_far (ownsRow_far (ownsRow_far (ownsRow_grow (ownsRow_far own2 (p := ⟨w.heap.size, 1, none⟩) (by simp) (Value.slice aW' ws.length cW')) g4) (p := ⟨w.heap.size, 2, none⟩) (by simp) (Value.slice aD' ds.length cD')) (p := ⟨w.heap.size + 1, 0, none⟩) (by simp) (Value.int .i64 clock)) (p := ⟨w.heap.size + 1, 1, none⟩) (by simp) (Value.slice aW' ws.length cW')) (p := ⟨w.heap.size + 1, 2, none⟩) (by simp) (Value.slice aD' ds.length cD')
  have oD := ownsRow_far (ownsRow_far (ownsRow_far (ownsRow_far own4 (p := ⟨w.heap.size, 2, none⟩) (by simp) (Value.slice aD' ds.length cD')) (p := ⟨w.heap.size + 1, 0, none⟩) (by simp) (Value.int .i64 clock)) (p := ⟨w.heap.size + 1, 1, none⟩) (by simp) (Value.slice aW' ws.length cW')) (p := ⟨w.heap.size + 1, 2, none⟩) (by simp) (Value.slice aD' ds.length cD')
  have hap : ∀ x y, aW' = some x → aD' = some y → x.block ≠ y.block := fun x y hx hy => by
    have h1 := own2.lt x.block (by rw [hx]; rfl)
    have h2 := new4 y hy
    omega
  simp at rW
  clear d1 d2 f1 e0 e1 e2 f2 r0 r1 r2 q0 q1 q2 k2 k4 r4
  generalize ((((w4.setCell ⟨w.heap.size, 2, none⟩ (Value.slice aD' ds.length cD')).setCell ⟨w.heap.size + 1, 0, none⟩ (Value.int .i64 clock)).setCell ⟨w.heap.size + 1, 1, none⟩ (Value.slice aW' ws.length cW')).setCell ⟨w.heap.size + 1, 2, none⟩ (Value.slice aD' ds.length cD')) = W at *
  have y0 := cell_of_block (o := 0) rW rfl; simp at y0
  have y1 := cell_of_block (o := 1) rW rfl; simp at y1
  have y2 := cell_of_block (o := 2) rW rfl; simp at y2
  exact bodyPost_ret (v := .agg #[.int .i64 clock, .slice aW' ws.length cW', .slice aD' ds.length cD']) (by simp [results, Try.results49, go_sem, y0, y1, y2]) rfl ⟨aW', cW', aD', cD', rfl, GW, ownsRow_mono oW (by omega), ownsRow_mono oD (by omega), hap⟩
end Go.Proofs.Ytlpdoloolagcbab
