/- chain.Write and chain.Fill: what each answers, whatever it is handed. -/
import Derived.Test.YtikdncgjaomlcaaC8
namespace Go.Proofs.Ytikdncgjaomlcaa
open Go.RowKit

/-- A text that comes to stand at a place, and junk. -/
def textCl (s : ByteArray) : Cl := ⟨true, false, s⟩
def junkCl : Cl := ⟨false, true, ⟨#[]⟩⟩
def notThere (y : Cl) : Bool := !y.there
theorem call_cwrite_any (v : Value) (w : World) : (callFunc 44 #[v]).run Try.prog w = .ok (.enter 44 #[v]) w := by simp [go_sem]
set_option maxHeartbeats 4000000 in
theorem cwrite_any (c : Ch) (a : Option Addr) (cap : Nat) (kn p : Int) (s : ByteArray) (w : World) (hc : CellsAt w a cap c.cells) (hs : s.size ≤ 9223372036854775807) :
    Calls Try.prog 19 #[c.val a cap, .int .i64 kn, .int .i64 p, .string s] w fun e w' => ∃ a' cap', e = .returned (.tuple #[(c.write kn p (textCl s) Cl.empty).1.val a' cap', .int .i64 (c.write kn p (textCl s) Cl.empty).2]) ∧ Grow w w' ∧ CellsAt w' a' cap' (c.write kn p (textCl s) Cl.empty).1.cells := by
  have HC : Hid (CellsAt w a cap c.cells) := hc
  clear hc
  have g0 : Grow w (((w.alloc (Obj.cells #[.int .i64 c.epoch, .bool c.sealed, .int .i64 c.cut, .slice a c.cells.length cap] 42)).alloc (Obj.cells #[.int .i64 0, .bool false, .int .i64 0, .slice none 0 0] 42)).alloc (Obj.cells #[.int .i64 c.epoch, .bool c.sealed, .int .i64 c.cut, .slice a c.cells.length cap, .int .i64 kn] 72)) := (((Grow.refl w).alloc _).alloc _).alloc _
  have e1 : (w.alloc (Obj.cells #[.int .i64 c.epoch, .bool c.sealed, .int .i64 c.cut, .slice a c.cells.length cap] 42)).heap.size = w.heap.size + 1 := by simp
  have a0 : (((w.alloc (Obj.cells #[.int .i64 c.epoch, .bool c.sealed, .int .i64 c.cut, .slice a c.cells.length cap] 42)).alloc (Obj.cells #[.int .i64 0, .bool false, .int .i64 0, .slice none 0 0] 42)).alloc (Obj.cells #[.int .i64 c.epoch, .bool c.sealed, .int .i64 c.cut, .slice a c.cells.length cap, .int .i64 kn] 72)).heap[w.heap.size + 1]? = some (Obj.cells #[.int .i64 0, .bool false, .int .i64 0, .slice none 0 0] 42 (0, 0)) := by
    have := heap_alloc_new (w.alloc (Obj.cells #[.int .i64 c.epoch, .bool c.sealed, .int .i64 c.cut, .slice a c.cells.length cap] 42)) (Obj.cells #[.int .i64 0, .bool false, .int .i64 0, .slice none 0 0] 42 (0, 0))
    rw [e1] at this
    exact (Below.heap_alloc _ _ _ (by simp)).trans this
  clear e1
  unfold Ch.val
  go_enter Try.func19, Try.ntmps19
  go_wp2_with fail
  refine (write_any 44 c a cap kn p (textCl s) Cl.empty call_cwrite_any mayWrite_any _ (HC.out.grow g0) hs).mono ?_
  generalize hr : c.write kn p (textCl s) Cl.empty = r
  obtain ⟨d, er⟩ := r
  have HR : Hid (c.write kn p (textCl s) Cl.empty = (d, er)) := hr
  clear hr
  rintro e w2 ⟨a', cap', rfl, g2, C2, hnew⟩
  have hlt1 := lt_of_block a0
  have a2 := grow_block g2 a0
  have G2 := g0.trans g2
  have hfar : ∀ x, a' = some x → w.heap.size + 1 ≠ x.block := fun x hx => by have := hnew x hx; simp at this; omega
  clear g0 g2 a0 HC hnew
  unfold Ch.val
  simp only at C2 ⊢
  have d0 := cell_of_block (o := 0) a2 rfl; simp at d0
  have d1 := cell_of_block (o := 1) a2 rfl; simp at d1
  have d2 := cell_of_block (o := 2) a2 rfl; simp at d2
  have d3 := cell_of_block (o := 3) a2 rfl; simp at d3
  have f0 := free_of_block a2 0
  have f1 := free_of_block a2 1
  have f2 := free_of_block a2 2
  have f3 := free_of_block a2 3
  go_wp2
  have aW := (block_set (o := 3) (v := (.slice a' d.cells.length cap')) (block_set (o := 2) (v := (.int .i64 d.cut)) (block_set (o := 1) (v := (.bool d.sealed)) (block_set (o := 0) (v := (.int .i64 d.epoch)) a2))))
  have GW := (Grow.setCell (Grow.setCell (Grow.setCell (Grow.setCell G2 (p := ⟨w.heap.size + 1, 0, none⟩) (by simp) ((.int .i64 d.epoch))) (p := ⟨w.heap.size + 1, 1, none⟩) (by simp) ((.bool d.sealed))) (p := ⟨w.heap.size + 1, 2, none⟩) (by simp) ((.int .i64 d.cut))) (p := ⟨w.heap.size + 1, 3, none⟩) (by simp) ((.slice a' d.cells.length cap')))
  have CW := (CellsAt.far (CellsAt.far (CellsAt.far (CellsAt.far C2 (p := ⟨w.heap.size + 1, 0, none⟩) (hfar) ((.int .i64 d.epoch))) (p := ⟨w.heap.size + 1, 1, none⟩) (hfar) ((.bool d.sealed))) (p := ⟨w.heap.size + 1, 2, none⟩) (hfar) ((.int .i64 d.cut))) (p := ⟨w.heap.size + 1, 3, none⟩) (hfar) ((.slice a' d.cells.length cap')))
  simp only [List.setIfInBounds_toArray, List.set_cons_zero, List.set_cons_succ] at aW
  clear d0 d1 d2 d3 f0 f1 f2 f3
  generalize ((((w2.setCell ⟨w.heap.size + 1, 0, none⟩ ((.int .i64 d.epoch))).setCell ⟨w.heap.size + 1, 1, none⟩ ((.bool d.sealed))).setCell ⟨w.heap.size + 1, 2, none⟩ ((.int .i64 d.cut))).setCell ⟨w.heap.size + 1, 3, none⟩ ((.slice a' d.cells.length cap'))) = W at *
  have y0 := cell_of_block (o := 0) aW rfl; simp at y0
  have y1 := cell_of_block (o := 1) aW rfl; simp at y1
  have y2 := cell_of_block (o := 2) aW rfl; simp at y2
  have y3 := cell_of_block (o := 3) aW rfl; simp at y3
  exact bodyPost_ret (v := .tuple #[.agg #[(.int .i64 d.epoch), (.bool d.sealed), (.int .i64 d.cut), (.slice a' d.cells.length cap')], .int .i64 er]) (by simp [results, Try.results19, go_sem, y0, y1, y2, y3]) rfl ⟨a', cap', by rw [HR.out], GW, by rw [HR.out]; exact CW⟩
theorem call_cfill_any (v : Value) (w : World) : (callFunc 45 #[v]).run Try.prog w = .ok (.enter 45 #[v]) w := by simp [go_sem]
set_option maxHeartbeats 4000000 in
theorem cfill_any (c : Ch) (a : Option Addr) (cap : Nat) (kn p : Int) (w : World) (hc : CellsAt w a cap c.cells) :
    Calls Try.prog 20 #[c.val a cap, .int .i64 kn, .int .i64 p] w fun e w' => ∃ a' cap', e = .returned (.tuple #[(c.write kn p junkCl notThere).1.val a' cap', .int .i64 (c.write kn p junkCl notThere).2]) ∧ Grow w w' ∧ CellsAt w' a' cap' (c.write kn p junkCl notThere).1.cells := by
  have HC : Hid (CellsAt w a cap c.cells) := hc
  clear hc
  have g0 : Grow w (((w.alloc (Obj.cells #[.int .i64 c.epoch, .bool c.sealed, .int .i64 c.cut, .slice a c.cells.length cap] 42)).alloc (Obj.cells #[.int .i64 0, .bool false, .int .i64 0, .slice none 0 0] 42)).alloc (Obj.cells #[.int .i64 c.epoch, .bool c.sealed, .int .i64 c.cut, .slice a c.cells.length cap, .int .i64 kn] 72)) := (((Grow.refl w).alloc _).alloc _).alloc _
  have e1 : (w.alloc (Obj.cells #[.int .i64 c.epoch, .bool c.sealed, .int .i64 c.cut, .slice a c.cells.length cap] 42)).heap.size = w.heap.size + 1 := by simp
  have a0 : (((w.alloc (Obj.cells #[.int .i64 c.epoch, .bool c.sealed, .int .i64 c.cut, .slice a c.cells.length cap] 42)).alloc (Obj.cells #[.int .i64 0, .bool false, .int .i64 0, .slice none 0 0] 42)).alloc (Obj.cells #[.int .i64 c.epoch, .bool c.sealed, .int .i64 c.cut, .slice a c.cells.length cap, .int .i64 kn] 72)).heap[w.heap.size + 1]? = some (Obj.cells #[.int .i64 0, .bool false, .int .i64 0, .slice none 0 0] 42 (0, 0)) := by
    have := heap_alloc_new (w.alloc (Obj.cells #[.int .i64 c.epoch, .bool c.sealed, .int .i64 c.cut, .slice a c.cells.length cap] 42)) (Obj.cells #[.int .i64 0, .bool false, .int .i64 0, .slice none 0 0] 42 (0, 0))
    rw [e1] at this
    exact (Below.heap_alloc _ _ _ (by simp)).trans this
  clear e1
  unfold Ch.val
  go_enter Try.func20, Try.ntmps20
  go_wp2_with fail
  refine (write_any 45 c a cap kn p junkCl notThere call_cfill_any mayFill_any _ (HC.out.grow g0) (by decide)).mono ?_
  generalize hr : c.write kn p junkCl notThere = r
  obtain ⟨d, er⟩ := r
  have HR : Hid (c.write kn p junkCl notThere = (d, er)) := hr
  clear hr
  rintro e w2 ⟨a', cap', rfl, g2, C2, hnew⟩
  have hlt1 := lt_of_block a0
  have a2 := grow_block g2 a0
  have G2 := g0.trans g2
  have hfar : ∀ x, a' = some x → w.heap.size + 1 ≠ x.block := fun x hx => by have := hnew x hx; simp at this; omega
  clear g0 g2 a0 HC hnew
  unfold Ch.val
  simp only at C2 ⊢
  have d0 := cell_of_block (o := 0) a2 rfl; simp at d0
  have d1 := cell_of_block (o := 1) a2 rfl; simp at d1
  have d2 := cell_of_block (o := 2) a2 rfl; simp at d2
  have d3 := cell_of_block (o := 3) a2 rfl; simp at d3
  have f0 := free_of_block a2 0
  have f1 := free_of_block a2 1
  have f2 := free_of_block a2 2
  have f3 := free_of_block a2 3
  go_wp2
  have aW := (block_set (o := 3) (v := (.slice a' d.cells.length cap')) (block_set (o := 2) (v := (.int .i64 d.cut)) (block_set (o := 1) (v := (.bool d.sealed)) (block_set (o := 0) (v := (.int .i64 d.epoch)) a2))))
  have GW := (Grow.setCell (Grow.setCell (Grow.setCell (Grow.setCell G2 (p := ⟨w.heap.size + 1, 0, none⟩) (by simp) ((.int .i64 d.epoch))) (p := ⟨w.heap.size + 1, 1, none⟩) (by simp) ((.bool d.sealed))) (p := ⟨w.heap.size + 1, 2, none⟩) (by simp) ((.int .i64 d.cut))) (p := ⟨w.heap.size + 1, 3, none⟩) (by simp) ((.slice a' d.cells.length cap')))
  have CW := (CellsAt.far (CellsAt.far (CellsAt.far (CellsAt.far C2 (p := ⟨w.heap.size + 1, 0, none⟩) (hfar) ((.int .i64 d.epoch))) (p := ⟨w.heap.size + 1, 1, none⟩) (hfar) ((.bool d.sealed))) (p := ⟨w.heap.size + 1, 2, none⟩) (hfar) ((.int .i64 d.cut))) (p := ⟨w.heap.size + 1, 3, none⟩) (hfar) ((.slice a' d.cells.length cap')))
  simp only [List.setIfInBounds_toArray, List.set_cons_zero, List.set_cons_succ] at aW
  clear d0 d1 d2 d3 f0 f1 f2 f3
  generalize ((((w2.setCell ⟨w.heap.size + 1, 0, none⟩ ((.int .i64 d.epoch))).setCell ⟨w.heap.size + 1, 1, none⟩ ((.bool d.sealed))).setCell ⟨w.heap.size + 1, 2, none⟩ ((.int .i64 d.cut))).setCell ⟨w.heap.size + 1, 3, none⟩ ((.slice a' d.cells.length cap'))) = W at *
  have y0 := cell_of_block (o := 0) aW rfl; simp at y0
  have y1 := cell_of_block (o := 1) aW rfl; simp at y1
  have y2 := cell_of_block (o := 2) aW rfl; simp at y2
  have y3 := cell_of_block (o := 3) aW rfl; simp at y3
  exact bodyPost_ret (v := .tuple #[.agg #[(.int .i64 d.epoch), (.bool d.sealed), (.int .i64 d.cut), (.slice a' d.cells.length cap')], .int .i64 er]) (by simp [results, Try.results20, go_sem, y0, y1, y2, y3]) rfl ⟨a', cap', by rw [HR.out], GW, by rw [HR.out]; exact CW⟩
end Go.Proofs.Ytikdncgjaomlcaa
