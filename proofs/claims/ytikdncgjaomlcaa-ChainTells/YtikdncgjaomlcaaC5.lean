/- chain.Seal, Open and Trim: what each answers, whatever it is handed. -/
import Derived.Test.YtikdncgjaomlcaaC4
namespace Go.Proofs.Ytikdncgjaomlcaa
open Go.RowKit

/-- What Seal answers. -/
def Ch.seal (c : Ch) (ep : Int) : Ch × Int := if c.err ≠ 0 then (zeroCh, c.err) else if ep ≠ c.epoch then (zeroCh, 4) else (⟨c.epoch, true, c.cut, c.cells⟩, 0)
/-- What Open answers. -/
def Ch.open (c : Ch) : Ch × Int := if c.err ≠ 0 then (zeroCh, c.err) else if c.sealed = false then (zeroCh, 4) else if c.epoch = 99 then (zeroCh, 2) else (⟨c.epoch + 1, false, c.cut, c.cells⟩, 0)
/-- What Trim answers. -/
def Ch.trim (c : Ch) (to : Int) : Ch × Int := if c.err ≠ 0 then (zeroCh, c.err) else if inTo to 30 = false then (zeroCh, 3) else (⟨c.epoch, c.sealed, max c.cut to, c.cells.drop (max c.cut to - c.cut).toNat⟩, 0)
set_option maxHeartbeats 2000000 in
theorem seal_any (c : Ch) (a : Option Addr) (cap : Nat) (ep : Int) (w : World) (hc : CellsAt w a cap c.cells) :
    Calls Try.prog 23 #[c.val a cap, .int .i64 ep] w fun e w' => ∃ a' cap', e = .returned (.tuple #[(c.seal ep).1.val a' cap', .int .i64 (c.seal ep).2]) ∧ Grow w w' ∧ CellsAt w' a' cap' (c.seal ep).1.cells := by
  have HC : Hid (CellsAt w a cap c.cells) := hc
  clear hc
  have g0 : Grow w ((w.alloc (Obj.cells #[.int .i64 c.epoch, .bool c.sealed, .int .i64 c.cut, .slice a c.cells.length cap] 42)).alloc (Obj.cells #[.int .i64 0, .bool false, .int .i64 0, .slice none 0 0] 42)) := ((Grow.refl w).alloc _).alloc _
  have b0 : ((w.alloc (Obj.cells #[.int .i64 c.epoch, .bool c.sealed, .int .i64 c.cut, .slice a c.cells.length cap] 42)).alloc (Obj.cells #[.int .i64 0, .bool false, .int .i64 0, .slice none 0 0] 42)).heap[w.heap.size]? = some (Obj.cells #[.int .i64 c.epoch, .bool c.sealed, .int .i64 c.cut, .slice a c.cells.length cap] 42 (0, 0)) := (Below.heap_alloc _ _ _ (by simp)).trans (heap_alloc_new w _)
  have a0 : ((w.alloc (Obj.cells #[.int .i64 c.epoch, .bool c.sealed, .int .i64 c.cut, .slice a c.cells.length cap] 42)).alloc (Obj.cells #[.int .i64 0, .bool false, .int .i64 0, .slice none 0 0] 42)).heap[w.heap.size + 1]? = some (Obj.cells #[.int .i64 0, .bool false, .int .i64 0, .slice none 0 0] 42 (0, 0)) := by
    have := heap_alloc_new (w.alloc (Obj.cells #[.int .i64 c.epoch, .bool c.sealed, .int .i64 c.cut, .slice a c.cells.length cap] 42)) (Obj.cells #[.int .i64 0, .bool false, .int .i64 0, .slice none 0 0] 42 (0, 0))
    have e : (w.alloc (Obj.cells #[.int .i64 c.epoch, .bool c.sealed, .int .i64 c.cut, .slice a c.cells.length cap] 42)).heap.size = w.heap.size + 1 := by simp
    rw [e] at this
    exact this
  unfold Ch.val
  go_enter Try.func23, Try.ntmps23
  go_wp2_with fail
  refine (check_any c a cap _ (HC.out.grow g0)).mono ?_
  rintro e w1 ⟨rfl, g1⟩
  have G1 := g0.trans g1
  have b1 := grow_block g1 b0
  have a1 := grow_block g1 a0
  have C1 := HC.out.grow G1
  clear g0 g1 a0 b0 HC
  by_cases h1 : c.err = 0
  · obtain ⟨_, hcut, hlen, _⟩ := Ch.fine h1
    have hlen' : c.cells.length ≤ 30 := by omega
    have R : Hid (c.seal ep = if ep ≠ c.epoch then (zeroCh, 4) else (⟨c.epoch, true, c.cut, c.cells⟩, 0)) := by show c.seal ep = _; rw [Ch.seal, if_neg (by simp [h1])]
    rw [h1]
    clear h1
    have d0_ := cell_of_block (o := 0) b1 rfl; simp at d0_
    by_cases h2 : ep = c.epoch
    · have h2' : (ep != c.epoch) = false := by simp [h2]
      rw [if_neg (by simp [h2])] at R
      subst h2
      have e3 := cell_of_block (o := 3) b1 rfl; simp at e3
      go_wp2_with fail
      refine (copyOf_any c.cells a cap _ C1 hlen').mono ?_
      rintro e w2 ⟨a', cap', rfl, g2, C2, hnew⟩
      have hlt1 := lt_of_block a1
      have G2 := G1.trans g2
      have b2 := grow_block g2 b1
      have a2 := grow_block g2 a1
      clear g2 e3
      clear d0_
      have d0 := cell_of_block (o := 0) a2 rfl; simp at d0
      have d1 := cell_of_block (o := 1) a2 rfl; simp at d1
      have d2 := cell_of_block (o := 2) a2 rfl; simp at d2
      have d3 := cell_of_block (o := 3) a2 rfl; simp at d3
      have f0 := free_of_block a2 0
      have f1 := free_of_block a2 1
      have f2 := free_of_block a2 2
      have f3 := free_of_block a2 3
      have e0 := cell_of_block (o := 0) b2 rfl; simp at e0
      have e1 := cell_of_block (o := 1) b2 rfl; simp at e1
      have e2 := cell_of_block (o := 2) b2 rfl; simp at e2
      have e3 := cell_of_block (o := 3) b2 rfl; simp at e3
      have k0 := free_of_block b2 0
      have k1 := free_of_block b2 1
      have k2 := free_of_block b2 2
      have k3 := free_of_block b2 3
      go_wp2
      have aW := (block_set (o := 3) (v := (.slice a' c.cells.length cap')) (block_set (o := 2) (v := .int .i64 c.cut) (block_set (o := 1) (v := .bool true) (block_set (o := 0) (v := .int .i64 c.epoch) (block_far (a := ⟨w.heap.size, 1, none⟩) (v := .bool true) (by simp) (block_far (a := ⟨w.heap.size, 3, none⟩) (v := (.slice a' c.cells.length cap')) (by simp) a2))))))
      have GW := (Grow.setCell (Grow.setCell (Grow.setCell (Grow.setCell (Grow.setCell (Grow.setCell G2 (p := ⟨w.heap.size, 3, none⟩) (by simp) ((.slice a' c.cells.length cap'))) (p := ⟨w.heap.size, 1, none⟩) (by simp) (.bool true)) (p := ⟨w.heap.size + 1, 0, none⟩) (by simp) (.int .i64 c.epoch)) (p := ⟨w.heap.size + 1, 1, none⟩) (by simp) (.bool true)) (p := ⟨w.heap.size + 1, 2, none⟩) (by simp) (.int .i64 c.cut)) (p := ⟨w.heap.size + 1, 3, none⟩) (by simp) ((.slice a' c.cells.length cap')))
      have CW := (CellsAt.far (CellsAt.far (CellsAt.far (CellsAt.far (CellsAt.far (CellsAt.far C2 (p := ⟨w.heap.size, 3, none⟩) (fun x hx => by have := hnew x hx; have := G1.size; simp only; omega) ((.slice a' c.cells.length cap'))) (p := ⟨w.heap.size, 1, none⟩) (fun x hx => by have := hnew x hx; have := G1.size; simp only; omega) (.bool true)) (p := ⟨w.heap.size + 1, 0, none⟩) (fun x hx => by have := hnew x hx; have := G1.size; simp only; omega) (.int .i64 c.epoch)) (p := ⟨w.heap.size + 1, 1, none⟩) (fun x hx => by have := hnew x hx; have := G1.size; simp only; omega) (.bool true)) (p := ⟨w.heap.size + 1, 2, none⟩) (fun x hx => by have := hnew x hx; have := G1.size; simp only; omega) (.int .i64 c.cut)) (p := ⟨w.heap.size + 1, 3, none⟩) (fun x hx => by have := hnew x hx; have := G1.size; simp only; omega) ((.slice a' c.cells.length cap')))
      simp only [List.setIfInBounds_toArray, List.set_cons_zero, List.set_cons_succ] at aW
      clear d0 d1 d2 d3 f0 f1 f2 f3 e0 e1 e2 e3 k0 k1 k2 k3
      generalize ((((((w2.setCell ⟨w.heap.size, 3, none⟩ ((.slice a' c.cells.length cap'))).setCell ⟨w.heap.size, 1, none⟩ (.bool true)).setCell ⟨w.heap.size + 1, 0, none⟩ (.int .i64 c.epoch)).setCell ⟨w.heap.size + 1, 1, none⟩ (.bool true)).setCell ⟨w.heap.size + 1, 2, none⟩ (.int .i64 c.cut)).setCell ⟨w.heap.size + 1, 3, none⟩ ((.slice a' c.cells.length cap'))) = W at *
      have y0 := cell_of_block (o := 0) aW rfl; simp at y0
      have y1 := cell_of_block (o := 1) aW rfl; simp at y1
      have y2 := cell_of_block (o := 2) aW rfl; simp at y2
      have y3 := cell_of_block (o := 3) aW rfl; simp at y3
      exact bodyPost_ret (v := .tuple #[.agg #[.int .i64 c.epoch, .bool true, .int .i64 c.cut, (.slice a' c.cells.length cap')], .int .i64 0]) (by simp [results, Try.results23, go_sem, y0, y1, y2, y3]) rfl ⟨a', cap', by rw [R.out], GW, by rw [R.out]; exact CW⟩
    · have h2' : (ep != c.epoch) = true := by simpa using h2
      have h2'' : (ep == c.epoch) = false := by simpa using h2
      rw [if_pos h2] at R
      clear h2
      have d0 := cell_of_block (o := 0) a1 rfl; simp at d0
      have d1 := cell_of_block (o := 1) a1 rfl; simp at d1
      have d2 := cell_of_block (o := 2) a1 rfl; simp at d2
      have d3 := cell_of_block (o := 3) a1 rfl; simp at d3
      have f0 := free_of_block a1 0
      have f1 := free_of_block a1 1
      have f2 := free_of_block a1 2
      have f3 := free_of_block a1 3
      go_wp2
      have aW := (block_set (o := 3) (v := .slice none 0 0) (block_set (o := 2) (v := .int .i64 0) (block_set (o := 1) (v := .bool false) (block_set (o := 0) (v := .int .i64 0) a1))))
      have GW := (Grow.setCell (Grow.setCell (Grow.setCell (Grow.setCell G1 (p := ⟨w.heap.size + 1, 0, none⟩) (by simp) (.int .i64 0)) (p := ⟨w.heap.size + 1, 1, none⟩) (by simp) (.bool false)) (p := ⟨w.heap.size + 1, 2, none⟩) (by simp) (.int .i64 0)) (p := ⟨w.heap.size + 1, 3, none⟩) (by simp) (.slice none 0 0))
      simp only [List.setIfInBounds_toArray, List.set_cons_zero, List.set_cons_succ] at aW
      clear d0 d1 d2 d3 f0 f1 f2 f3
      generalize ((((w1.setCell ⟨w.heap.size + 1, 0, none⟩ (.int .i64 0)).setCell ⟨w.heap.size + 1, 1, none⟩ (.bool false)).setCell ⟨w.heap.size + 1, 2, none⟩ (.int .i64 0)).setCell ⟨w.heap.size + 1, 3, none⟩ (.slice none 0 0)) = W at *
      have y0 := cell_of_block (o := 0) aW rfl; simp at y0
      have y1 := cell_of_block (o := 1) aW rfl; simp at y1
      have y2 := cell_of_block (o := 2) aW rfl; simp at y2
      have y3 := cell_of_block (o := 3) aW rfl; simp at y3
      exact bodyPost_ret (v := .tuple #[.agg #[.int .i64 0, .bool false, .int .i64 0, .slice none 0 0], .int .i64 4]) (by simp [results, Try.results23, go_sem, y0, y1, y2, y3]) rfl ⟨none, 0, by rw [R.out]; rfl, GW, by rw [R.out]; simp [CellsAt, zeroCh]⟩
  · have hx0 : (c.err == 0) = false := by simpa using h1
    have hx1 : (c.err != 0) = true := by simpa using h1
    have R : Hid (c.seal ep = (zeroCh, c.err)) := by show c.seal ep = _; rw [Ch.seal, if_pos h1]
    clear h1
    have d0 := cell_of_block (o := 0) a1 rfl; simp at d0
    have d1 := cell_of_block (o := 1) a1 rfl; simp at d1
    have d2 := cell_of_block (o := 2) a1 rfl; simp at d2
    have d3 := cell_of_block (o := 3) a1 rfl; simp at d3
    have f0 := free_of_block a1 0
    have f1 := free_of_block a1 1
    have f2 := free_of_block a1 2
    have f3 := free_of_block a1 3
    go_wp2
    have aW := (block_set (o := 3) (v := .slice none 0 0) (block_set (o := 2) (v := .int .i64 0) (block_set (o := 1) (v := .bool false) (block_set (o := 0) (v := .int .i64 0) a1))))
    have GW := (Grow.setCell (Grow.setCell (Grow.setCell (Grow.setCell G1 (p := ⟨w.heap.size + 1, 0, none⟩) (by simp) (.int .i64 0)) (p := ⟨w.heap.size + 1, 1, none⟩) (by simp) (.bool false)) (p := ⟨w.heap.size + 1, 2, none⟩) (by simp) (.int .i64 0)) (p := ⟨w.heap.size + 1, 3, none⟩) (by simp) (.slice none 0 0))
    simp only [List.setIfInBounds_toArray, List.set_cons_zero, List.set_cons_succ] at aW
    clear d0 d1 d2 d3 f0 f1 f2 f3
    generalize ((((w1.setCell ⟨w.heap.size + 1, 0, none⟩ (.int .i64 0)).setCell ⟨w.heap.size + 1, 1, none⟩ (.bool false)).setCell ⟨w.heap.size + 1, 2, none⟩ (.int .i64 0)).setCell ⟨w.heap.size + 1, 3, none⟩ (.slice none 0 0)) = W at *
    have y0 := cell_of_block (o := 0) aW rfl; simp at y0
    have y1 := cell_of_block (o := 1) aW rfl; simp at y1
    have y2 := cell_of_block (o := 2) aW rfl; simp at y2
    have y3 := cell_of_block (o := 3) aW rfl; simp at y3
    exact bodyPost_ret (v := .tuple #[.agg #[.int .i64 0, .bool false, .int .i64 0, .slice none 0 0], .int .i64 c.err]) (by simp [results, Try.results23, go_sem, y0, y1, y2, y3]) rfl ⟨none, 0, by rw [R.out]; rfl, GW, by rw [R.out]; simp [CellsAt, zeroCh]⟩
set_option maxHeartbeats 2000000 in
theorem open_any (c : Ch) (a : Option Addr) (cap : Nat) (w : World) (hc : CellsAt w a cap c.cells) :
    Calls Try.prog 24 #[c.val a cap] w fun e w' => ∃ a' cap', e = .returned (.tuple #[(c.open).1.val a' cap', .int .i64 (c.open).2]) ∧ Grow w w' ∧ CellsAt w' a' cap' (c.open).1.cells := by
  have HC : Hid (CellsAt w a cap c.cells) := hc
  clear hc
  have g0 : Grow w ((w.alloc (Obj.cells #[.int .i64 c.epoch, .bool c.sealed, .int .i64 c.cut, .slice a c.cells.length cap] 42)).alloc (Obj.cells #[.int .i64 0, .bool false, .int .i64 0, .slice none 0 0] 42)) := ((Grow.refl w).alloc _).alloc _
  have b0 : ((w.alloc (Obj.cells #[.int .i64 c.epoch, .bool c.sealed, .int .i64 c.cut, .slice a c.cells.length cap] 42)).alloc (Obj.cells #[.int .i64 0, .bool false, .int .i64 0, .slice none 0 0] 42)).heap[w.heap.size]? = some (Obj.cells #[.int .i64 c.epoch, .bool c.sealed, .int .i64 c.cut, .slice a c.cells.length cap] 42 (0, 0)) := (Below.heap_alloc _ _ _ (by simp)).trans (heap_alloc_new w _)
  have a0 : ((w.alloc (Obj.cells #[.int .i64 c.epoch, .bool c.sealed, .int .i64 c.cut, .slice a c.cells.length cap] 42)).alloc (Obj.cells #[.int .i64 0, .bool false, .int .i64 0, .slice none 0 0] 42)).heap[w.heap.size + 1]? = some (Obj.cells #[.int .i64 0, .bool false, .int .i64 0, .slice none 0 0] 42 (0, 0)) := by
    have := heap_alloc_new (w.alloc (Obj.cells #[.int .i64 c.epoch, .bool c.sealed, .int .i64 c.cut, .slice a c.cells.length cap] 42)) (Obj.cells #[.int .i64 0, .bool false, .int .i64 0, .slice none 0 0] 42 (0, 0))
    have e : (w.alloc (Obj.cells #[.int .i64 c.epoch, .bool c.sealed, .int .i64 c.cut, .slice a c.cells.length cap] 42)).heap.size = w.heap.size + 1 := by simp
    rw [e] at this
    exact this
  unfold Ch.val
  go_enter Try.func24, Try.ntmps24
  go_wp2_with fail
  refine (check_any c a cap _ (HC.out.grow g0)).mono ?_
  rintro e w1 ⟨rfl, g1⟩
  have G1 := g0.trans g1
  have b1 := grow_block g1 b0
  have a1 := grow_block g1 a0
  have C1 := HC.out.grow G1
  clear g0 g1 a0 b0 HC
  by_cases h1 : c.err = 0
  · obtain ⟨hep, hcut, hlen, _⟩ := Ch.fine h1
    have hlen' : c.cells.length ≤ 30 := by omega
    have R : Hid (c.open = if c.sealed = false then (zeroCh, 4) else if c.epoch = 99 then (zeroCh, 2) else (⟨c.epoch + 1, false, c.cut, c.cells⟩, 0)) := by show c.open = _; rw [Ch.open, if_neg (by simp [h1])]
    rw [h1]
    clear h1
    have d0_ := cell_of_block (o := 0) b1 rfl; simp at d0_
    have d1_ := cell_of_block (o := 1) b1 rfl; simp at d1_
    cases h2 : c.sealed
    · rw [if_pos h2] at R
      rw [h2] at d1_
      have d0 := cell_of_block (o := 0) a1 rfl; simp at d0
      have d1 := cell_of_block (o := 1) a1 rfl; simp at d1
      have d2 := cell_of_block (o := 2) a1 rfl; simp at d2
      have d3 := cell_of_block (o := 3) a1 rfl; simp at d3
      have f0 := free_of_block a1 0
      have f1 := free_of_block a1 1
      have f2 := free_of_block a1 2
      have f3 := free_of_block a1 3
      go_wp2
      have aW := (block_set (o := 3) (v := .slice none 0 0) (block_set (o := 2) (v := .int .i64 0) (block_set (o := 1) (v := .bool false) (block_set (o := 0) (v := .int .i64 0) a1))))
      have GW := (Grow.setCell (Grow.setCell (Grow.setCell (Grow.setCell G1 (p := ⟨w.heap.size + 1, 0, none⟩) (by simp) (.int .i64 0)) (p := ⟨w.heap.size + 1, 1, none⟩) (by simp) (.bool false)) (p := ⟨w.heap.size + 1, 2, none⟩) (by simp) (.int .i64 0)) (p := ⟨w.heap.size + 1, 3, none⟩) (by simp) (.slice none 0 0))
      simp only [List.setIfInBounds_toArray, List.set_cons_zero, List.set_cons_succ] at aW
      clear d0 d1 d2 d3 f0 f1 f2 f3
      generalize ((((w1.setCell ⟨w.heap.size + 1, 0, none⟩ (.int .i64 0)).setCell ⟨w.heap.size + 1, 1, none⟩ (.bool false)).setCell ⟨w.heap.size + 1, 2, none⟩ (.int .i64 0)).setCell ⟨w.heap.size + 1, 3, none⟩ (.slice none 0 0)) = W at *
      have y0 := cell_of_block (o := 0) aW rfl; simp at y0
      have y1 := cell_of_block (o := 1) aW rfl; simp at y1
      have y2 := cell_of_block (o := 2) aW rfl; simp at y2
      have y3 := cell_of_block (o := 3) aW rfl; simp at y3
      exact bodyPost_ret (v := .tuple #[.agg #[.int .i64 0, .bool false, .int .i64 0, .slice none 0 0], .int .i64 4]) (by simp [results, Try.results24, go_sem, y0, y1, y2, y3]) rfl ⟨none, 0, by rw [R.out]; rfl, GW, by rw [R.out]; simp [CellsAt, zeroCh]⟩
    · rw [if_neg (by simp [h2])] at R
      rw [h2] at d1_
      by_cases h3 : c.epoch = 99
      · rw [if_pos h3] at R
        rw [h3] at d0_
        have d0 := cell_of_block (o := 0) a1 rfl; simp at d0
        have d1 := cell_of_block (o := 1) a1 rfl; simp at d1
        have d2 := cell_of_block (o := 2) a1 rfl; simp at d2
        have d3 := cell_of_block (o := 3) a1 rfl; simp at d3
        have f0 := free_of_block a1 0
        have f1 := free_of_block a1 1
        have f2 := free_of_block a1 2
        have f3 := free_of_block a1 3
        go_wp2
        have aW := (block_set (o := 3) (v := .slice none 0 0) (block_set (o := 2) (v := .int .i64 0) (block_set (o := 1) (v := .bool false) (block_set (o := 0) (v := .int .i64 0) a1))))
        have GW := (Grow.setCell (Grow.setCell (Grow.setCell (Grow.setCell G1 (p := ⟨w.heap.size + 1, 0, none⟩) (by simp) (.int .i64 0)) (p := ⟨w.heap.size + 1, 1, none⟩) (by simp) (.bool false)) (p := ⟨w.heap.size + 1, 2, none⟩) (by simp) (.int .i64 0)) (p := ⟨w.heap.size + 1, 3, none⟩) (by simp) (.slice none 0 0))
        simp only [List.setIfInBounds_toArray, List.set_cons_zero, List.set_cons_succ] at aW
        clear d0 d1 d2 d3 f0 f1 f2 f3
        generalize ((((w1.setCell ⟨w.heap.size + 1, 0, none⟩ (.int .i64 0)).setCell ⟨w.heap.size + 1, 1, none⟩ (.bool false)).setCell ⟨w.heap.size + 1, 2, none⟩ (.int .i64 0)).setCell ⟨w.heap.size + 1, 3, none⟩ (.slice none 0 0)) = W at *
        have y0 := cell_of_block (o := 0) aW rfl; simp at y0
        have y1 := cell_of_block (o := 1) aW rfl; simp at y1
        have y2 := cell_of_block (o := 2) aW rfl; simp at y2
        have y3 := cell_of_block (o := 3) aW rfl; simp at y3
        exact bodyPost_ret (v := .tuple #[.agg #[.int .i64 0, .bool false, .int .i64 0, .slice none 0 0], .int .i64 2]) (by simp [results, Try.results24, go_sem, y0, y1, y2, y3]) rfl ⟨none, 0, by rw [R.out]; rfl, GW, by rw [R.out]; simp [CellsAt, zeroCh]⟩
      · rw [if_neg h3] at R
        have h3' : (c.epoch == 99) = false := by simpa using h3
        have e3 := cell_of_block (o := 3) b1 rfl; simp at e3
        go_wp2_with fail
        refine (copyOf_any c.cells a cap _ C1 hlen').mono ?_
        rintro e w2 ⟨a', cap', rfl, g2, C2, hnew⟩
        have hlt1 := lt_of_block a1
        have G2 := G1.trans g2
        have b2 := grow_block g2 b1
        have a2 := grow_block g2 a1
        clear g2 e3
        clear d0_ d1_
        have d0 := cell_of_block (o := 0) a2 rfl; simp at d0
        have d1 := cell_of_block (o := 1) a2 rfl; simp at d1
        have d2 := cell_of_block (o := 2) a2 rfl; simp at d2
        have d3 := cell_of_block (o := 3) a2 rfl; simp at d3
        have f0 := free_of_block a2 0
        have f1 := free_of_block a2 1
        have f2 := free_of_block a2 2
        have f3 := free_of_block a2 3
        have e0 := cell_of_block (o := 0) b2 rfl; simp at e0
        have e1 := cell_of_block (o := 1) b2 rfl; simp at e1
        have e2 := cell_of_block (o := 2) b2 rfl; simp at e2
        have e3 := cell_of_block (o := 3) b2 rfl; simp at e3
        have k0 := free_of_block b2 0
        have k1 := free_of_block b2 1
        have k2 := free_of_block b2 2
        have k3 := free_of_block b2 3
        go_wp2
        have aW := (block_set (o := 3) (v := (.slice a' c.cells.length cap')) (block_set (o := 2) (v := .int .i64 c.cut) (block_set (o := 1) (v := .bool false) (block_set (o := 0) (v := .int .i64 (c.epoch + 1)) (block_far (a := ⟨w.heap.size, 0, none⟩) (v := .int .i64 (c.epoch + 1)) (by simp) (block_far (a := ⟨w.heap.size, 1, none⟩) (v := .bool false) (by simp) (block_far (a := ⟨w.heap.size, 3, none⟩) (v := (.slice a' c.cells.length cap')) (by simp) a2)))))))
        have GW := (Grow.setCell (Grow.setCell (Grow.setCell (Grow.setCell (Grow.setCell (Grow.setCell (Grow.setCell G2 (p := ⟨w.heap.size, 3, none⟩) (by simp) ((.slice a' c.cells.length cap'))) (p := ⟨w.heap.size, 1, none⟩) (by simp) (.bool false)) (p := ⟨w.heap.size, 0, none⟩) (by simp) (.int .i64 (c.epoch + 1))) (p := ⟨w.heap.size + 1, 0, none⟩) (by simp) (.int .i64 (c.epoch + 1))) (p := ⟨w.heap.size + 1, 1, none⟩) (by simp) (.bool false)) (p := ⟨w.heap.size + 1, 2, none⟩) (by simp) (.int .i64 c.cut)) (p := ⟨w.heap.size + 1, 3, none⟩) (by simp) ((.slice a' c.cells.length cap')))
        have CW := (CellsAt.far (CellsAt.far (CellsAt.far (CellsAt.far (CellsAt.far (CellsAt.far (CellsAt.far C2 (p := ⟨w.heap.size, 3, none⟩) (fun x hx => by have := hnew x hx; have := G1.size; simp only; omega) ((.slice a' c.cells.length cap'))) (p := ⟨w.heap.size, 1, none⟩) (fun x hx => by have := hnew x hx; have := G1.size; simp only; omega) (.bool false)) (p := ⟨w.heap.size, 0, none⟩) (fun x hx => by have := hnew x hx; have := G1.size; simp only; omega) (.int .i64 (c.epoch + 1))) (p := ⟨w.heap.size + 1, 0, none⟩) (fun x hx => by have := hnew x hx; have := G1.size; simp only; omega) (.int .i64 (c.epoch + 1))) (p := ⟨w.heap.size + 1, 1, none⟩) (fun x hx => by have := hnew x hx; have := G1.size; simp only; omega) (.bool false)) (p := ⟨w.heap.size + 1, 2, none⟩) (fun x hx => by have := hnew x hx; have := G1.size; simp only; omega) (.int .i64 c.cut)) (p := ⟨w.heap.size + 1, 3, none⟩) (fun x hx => by have := hnew x hx; have := G1.size; simp only; omega) ((.slice a' c.cells.length cap')))
        simp only [List.setIfInBounds_toArray, List.set_cons_zero, List.set_cons_succ] at aW
        clear d0 d1 d2 d3 f0 f1 f2 f3 e0 e1 e2 e3 k0 k1 k2 k3
        generalize (((((((w2.setCell ⟨w.heap.size, 3, none⟩ ((.slice a' c.cells.length cap'))).setCell ⟨w.heap.size, 1, none⟩ (.bool false)).setCell ⟨w.heap.size, 0, none⟩ (.int .i64 (c.epoch + 1))).setCell ⟨w.heap.size + 1, 0, none⟩ (.int .i64 (c.epoch + 1))).setCell ⟨w.heap.size + 1, 1, none⟩ (.bool false)).setCell ⟨w.heap.size + 1, 2, none⟩ (.int .i64 c.cut)).setCell ⟨w.heap.size + 1, 3, none⟩ ((.slice a' c.cells.length cap'))) = W at *
        have y0 := cell_of_block (o := 0) aW rfl; simp at y0
        have y1 := cell_of_block (o := 1) aW rfl; simp at y1
        have y2 := cell_of_block (o := 2) aW rfl; simp at y2
        have y3 := cell_of_block (o := 3) aW rfl; simp at y3
        exact bodyPost_ret (v := .tuple #[.agg #[.int .i64 (c.epoch + 1), .bool false, .int .i64 c.cut, (.slice a' c.cells.length cap')], .int .i64 0]) (by simp [results, Try.results24, go_sem, y0, y1, y2, y3]) rfl ⟨a', cap', by rw [R.out], GW, by rw [R.out]; exact CW⟩
  · have hx0 : (c.err == 0) = false := by simpa using h1
    have hx1 : (c.err != 0) = true := by simpa using h1
    have R : Hid (c.open = (zeroCh, c.err)) := by show c.open = _; rw [Ch.open, if_pos h1]
    clear h1
    have d0 := cell_of_block (o := 0) a1 rfl; simp at d0
    have d1 := cell_of_block (o := 1) a1 rfl; simp at d1
    have d2 := cell_of_block (o := 2) a1 rfl; simp at d2
    have d3 := cell_of_block (o := 3) a1 rfl; simp at d3
    have f0 := free_of_block a1 0
    have f1 := free_of_block a1 1
    have f2 := free_of_block a1 2
    have f3 := free_of_block a1 3
    go_wp2
    have aW := (block_set (o := 3) (v := .slice none 0 0) (block_set (o := 2) (v := .int .i64 0) (block_set (o := 1) (v := .bool false) (block_set (o := 0) (v := .int .i64 0) a1))))
    have GW := (Grow.setCell (Grow.setCell (Grow.setCell (Grow.setCell G1 (p := ⟨w.heap.size + 1, 0, none⟩) (by simp) (.int .i64 0)) (p := ⟨w.heap.size + 1, 1, none⟩) (by simp) (.bool false)) (p := ⟨w.heap.size + 1, 2, none⟩) (by simp) (.int .i64 0)) (p := ⟨w.heap.size + 1, 3, none⟩) (by simp) (.slice none 0 0))
    simp only [List.setIfInBounds_toArray, List.set_cons_zero, List.set_cons_succ] at aW
    clear d0 d1 d2 d3 f0 f1 f2 f3
    generalize ((((w1.setCell ⟨w.heap.size + 1, 0, none⟩ (.int .i64 0)).setCell ⟨w.heap.size + 1, 1, none⟩ (.bool false)).setCell ⟨w.heap.size + 1, 2, none⟩ (.int .i64 0)).setCell ⟨w.heap.size + 1, 3, none⟩ (.slice none 0 0)) = W at *
    have y0 := cell_of_block (o := 0) aW rfl; simp at y0
    have y1 := cell_of_block (o := 1) aW rfl; simp at y1
    have y2 := cell_of_block (o := 2) aW rfl; simp at y2
    have y3 := cell_of_block (o := 3) aW rfl; simp at y3
    exact bodyPost_ret (v := .tuple #[.agg #[.int .i64 0, .bool false, .int .i64 0, .slice none 0 0], .int .i64 c.err]) (by simp [results, Try.results24, go_sem, y0, y1, y2, y3]) rfl ⟨none, 0, by rw [R.out]; rfl, GW, by rw [R.out]; simp [CellsAt, zeroCh]⟩
end Go.Proofs.Ytikdncgjaomlcaa
