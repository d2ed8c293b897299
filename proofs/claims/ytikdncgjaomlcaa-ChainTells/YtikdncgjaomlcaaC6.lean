/- chain.Trim: what it answers, whatever it is handed. -/
import Derived.Test.YtikdncgjaomlcaaC5
namespace Go.Proofs.Ytikdncgjaomlcaa
open Go.RowKit

theorem CellsAt.drop {w : World} {b off cap m : Nat} {cs : List Cl} (h : CellsAt w (some ⟨b, off, none⟩) cap cs) (hm : m < cs.length) : CellsAt w (some ⟨b, off + m * 3, none⟩) (cap - m) (cs.drop m) := by
  have h1 := h.1
  have h2 := h.2.1
  refine ⟨by rw [List.length_drop]; omega, by rw [List.length_drop]; omega,   .inr ⟨b, off + m * 3, rfl, fun k c hk => ?_⟩⟩
  rw [List.getElem?_drop] at hk
  obtain ⟨b', off', e, d0, d1, d2, hs⟩ := h.at hk
  cases e
  rw [show off + m * 3 + k * 3 = off + (m + k) * 3 from by omega]
  exact ⟨d0, d1, d2, hs⟩
theorem cellsAt_nil (w : World) (a : Option Addr) (cap : Nat) : CellsAt w a cap [] := by simp [CellsAt]
set_option maxHeartbeats 2000000 in
theorem trim_any (c : Ch) (a : Option Addr) (cap : Nat) (to : Int) (w : World) (hc : CellsAt w a cap c.cells) :
    Calls Try.prog 25 #[c.val a cap, .int .i64 to] w fun e w' => ∃ a' cap', e = .returned (.tuple #[(c.trim to).1.val a' cap', .int .i64 (c.trim to).2]) ∧ Grow w w' ∧ CellsAt w' a' cap' (c.trim to).1.cells := by
  have HC : Hid (CellsAt w a cap c.cells) := hc
  clear hc
  have g0 : Grow w ((w.alloc (Obj.cells #[.int .i64 c.epoch, .bool c.sealed, .int .i64 c.cut, .slice a c.cells.length cap] 42)).alloc (Obj.cells #[.int .i64 0, .bool false, .int .i64 0, .slice none 0 0] 42)) := ((Grow.refl w).alloc _).alloc _
  have b0 : ((w.alloc (Obj.cells #[.int .i64 c.epoch, .bool c.sealed, .int .i64 c.cut, .slice a c.cells.length cap] 42)).alloc (Obj.cells #[.int .i64 0, .bool false, .int .i64 0, .slice none 0 0] 42)).heap[w.heap.size]? = some (Obj.cells #[.int .i64 c.epoch, .bool c.sealed, .int .i64 c.cut, .slice a c.cells.length cap] 42 (0, 0)) := (Below.heap_alloc _ _ _ (by simp)).trans (heap_alloc_new w _)
  have a0 : ((w.alloc (Obj.cells #[.int .i64 c.epoch, .bool c.sealed, .int .i64 c.cut, .slice a c.cells.length cap] 42)).alloc (Obj.cells #[.int .i64 0, .bool false, .int .i64 0, .slice none 0 0] 42)).heap[w.heap.size + 1]? = some (Obj.cells #[.int .i64 0, .bool false, .int .i64 0, .slice none 0 0] 42 (0, 0)) := by
    have := heap_alloc_new (w.alloc (Obj.cells #[.int .i64 c.epoch, .bool c.sealed, .int .i64 c.cut, .slice a c.cells.length cap] 42)) (Obj.cells #[.int .i64 0, .bool false, .int .i64 0, .slice none 0 0] 42 (0, 0))
    have e : (w.alloc (Obj.cells #[.int .i64 c.epoch, .bool c.sealed, .int .i64 c.cut, .slice a c.cells.length cap] 42)).heap.size = w.heap.size + 1 := by simp
    rw [e] at this
    exact this
  unfold Ch.val
  go_enter Try.func25, Try.ntmps25
  go_wp2_with fail
  refine (check_any c a cap _ (HC.out.grow g0)).mono ?_
  rintro e w1 ⟨rfl, g1⟩
  have G1 := g0.trans g1
  have b1 := grow_block g1 b0
  have a1 := grow_block g1 a0
  have C1 := HC.out.grow G1
  clear g0 g1 a0 b0 HC
  by_cases h1 : c.err = 0
  · obtain ⟨_, hcut, hlen, _⟩ := Ch.fine h1
    have hlen' : c.cells.length ≤ 30 := by omega
    have hcap := C1.2.1
    have R : Hid (c.trim to = if inTo to 30 = false then (zeroCh, 3) else (⟨c.epoch, c.sealed, max c.cut to, c.cells.drop (max c.cut to - c.cut).toNat⟩, 0)) := by show c.trim to = _; rw [Ch.trim, if_neg (by simp [h1])]
    rw [h1]
    clear h1
    go_wp2_with fail
    have hcutk := isCut_any to w1
    refine hcutk.mono ?_
    clear hcutk
    intro e w1' he
    obtain ⟨rfl, he2⟩ := he
    subst he2
    rename World => w1
    cases h2 : inTo to 30
    · rw [if_pos h2] at R
      have d0 := cell_of_block (o := 0) a1 rfl; simp at d0
      have d1 := cell_of_block (o := 1) a1 rfl; simp at d1
      have d2 := cell_of_block (o := 2) a1 rfl; simp at d2
      have d3 := cell_of_block (o := 3) a1 rfl; simp at d3
      have f0 := free_of_block a1 0
      have f1 := free_of_block a1 1
      have f2 := free_of_block a1 2
      have f3 := free_of_block a1 3
      go_wp2
      have aW := (block_set (o := 3) (v := .slice none 0 0) (block_set (o := 2) (v := .int .i64 0) (block_set (o := 1) (v := .bool false) (block_set (o := 0) (v := .int .i64 0) a1))))
      have GW := (Grow.setCell (Grow.setCell (Grow.setCell (Grow.setCell G1 (p := ⟨w.heap.size + 1, 0, none⟩) (by simp) (.int .i64 0)) (p := ⟨w.heap.size + 1, 1, none⟩) (by simp) (.bool false)) (p := ⟨w.heap.size + 1, 2, none⟩) (by simp) (.int .i64 0)) (p := ⟨w.heap.size + 1, 3, none⟩) (by simp) (.slice none 0 0))
      simp only [List.setIfInBounds_toArray, List.set_cons_zero, List.set_cons_succ] at aW
      clear d0 d1 d2 d3 f0 f1 f2 f3
      generalize ((((w1.setCell ⟨w.heap.size + 1, 0, none⟩ (.int .i64 0)).setCell ⟨w.heap.size + 1, 1, none⟩ (.bool false)).setCell ⟨w.heap.size + 1, 2, none⟩ (.int .i64 0)).setCell ⟨w.heap.size + 1, 3, none⟩ (.slice none 0 0)) = W at *
      have y0 := cell_of_block (o := 0) aW rfl; simp at y0
      have y1 := cell_of_block (o := 1) aW rfl; simp at y1
      have y2 := cell_of_block (o := 2) aW rfl; simp at y2
      have y3 := cell_of_block (o := 3) aW rfl; simp at y3
      exact bodyPost_ret (v := .tuple #[.agg #[.int .i64 0, .bool false, .int .i64 0, .slice none 0 0], .int .i64 3]) (by simp [results, Try.results25, go_sem, y0, y1, y2, y3]) rfl ⟨none, 0, by rw [R.out]; rfl, GW, by rw [R.out]; simp [CellsAt, zeroCh]⟩
    · rw [if_neg (by simp [h2])] at R
      have hto : 0 ≤ to ∧ to ≤ 30 := by simpa [inTo] using h2
      clear h2
      obtain ⟨m, hm⟩ : ∃ m : Nat, max c.cut to = c.cut + m := ⟨(max c.cut to - c.cut).toNat, by omega⟩
      rw [hm, show (c.cut + (m : Int) - c.cut).toNat = m from by omega] at R
      by_cases hct : to ≤ c.cut
      · obtain rfl : m = 0 := by omega
        have HD : Hid (c.cells.drop 0 = c.cells) := rfl
        rw [show c.cut + ((0 : Nat) : Int) = c.cut from by omega] at R
        have hmx : max c.cut to = c.cut := by omega
        have hmn : min (0 : Int) (c.cells.length : Int) = 0 := by omega
        clear hm
        by_cases hz : cap = 0
        · subst hz
          have hnil : c.cells = [] := List.length_eq_zero_iff.1 (by omega)
          have HD : Hid (c.cells.drop 0 = []) := hnil
          clear hnil
          have d2_ := cell_of_block (o := 2) b1 rfl; simp at d2_
          have d3_ := cell_of_block (o := 3) b1 rfl; simp at d3_
          go_wp2_with fail
          refine (copyOf_any ([] : List Cl) a 0 _ (cellsAt_nil _ _ _) (by decide)).mono ?_
          rintro e w2 ⟨a', cap', rfl, g2, C2, hnew⟩
          have hlt1 := lt_of_block a1
          have G2 := G1.trans g2
          have b2 := grow_block g2 b1
          have a2 := grow_block g2 a1
          clear g2 d2_ d3_
          have d0 := cell_of_block (o := 0) a2 rfl; simp at d0
          have d1 := cell_of_block (o := 1) a2 rfl; simp at d1
          have d2 := cell_of_block (o := 2) a2 rfl; simp at d2
          have d3 := cell_of_block (o := 3) a2 rfl; simp at d3
          have f0 := free_of_block a2 0
          have f1 := free_of_block a2 1
          have f2 := free_of_block a2 2
          have f3 := free_of_block a2 3
          have e0 := cell_of_block (o := 0) b2 rfl; simp at e0
          have e1 := cell_of_block (o := 1) b2 rfl; simp at e1
          have e2 := cell_of_block (o := 2) b2 rfl; simp at e2
          have e3 := cell_of_block (o := 3) b2 rfl; simp at e3
          have k0 := free_of_block b2 0
          have k1 := free_of_block b2 1
          have k2 := free_of_block b2 2
          have k3 := free_of_block b2 3
          go_wp2
          have aW := (block_set (o := 3) (v := (.slice a' ([] : List Cl).length cap')) (block_set (o := 2) (v := .int .i64 c.cut) (block_set (o := 1) (v := .bool c.sealed) (block_set (o := 0) (v := .int .i64 c.epoch) (block_far (a := ⟨w.heap.size, 2, none⟩) (v := .int .i64 c.cut) (by simp) (block_far (a := ⟨w.heap.size, 3, none⟩) (v := (.slice a' ([] : List Cl).length cap')) (by simp) a2))))))
          have GW := (Grow.setCell (Grow.setCell (Grow.setCell (Grow.setCell (Grow.setCell (Grow.setCell G2 (p := ⟨w.heap.size, 3, none⟩) (by simp) ((.slice a' ([] : List Cl).length cap'))) (p := ⟨w.heap.size, 2, none⟩) (by simp) (.int .i64 c.cut)) (p := ⟨w.heap.size + 1, 0, none⟩) (by simp) (.int .i64 c.epoch)) (p := ⟨w.heap.size + 1, 1, none⟩) (by simp) (.bool c.sealed)) (p := ⟨w.heap.size + 1, 2, none⟩) (by simp) (.int .i64 c.cut)) (p := ⟨w.heap.size + 1, 3, none⟩) (by simp) ((.slice a' ([] : List Cl).length cap')))
          have CW := (CellsAt.far (CellsAt.far (CellsAt.far (CellsAt.far (CellsAt.far (CellsAt.far C2 (p := ⟨w.heap.size, 3, none⟩) (fun x hx => by have := hnew x hx; have := G1.size; simp only; omega) ((.slice a' ([] : List Cl).length cap'))) (p := ⟨w.heap.size, 2, none⟩) (fun x hx => by have := hnew x hx; have := G1.size; simp only; omega) (.int .i64 c.cut)) (p := ⟨w.heap.size + 1, 0, none⟩) (fun x hx => by have := hnew x hx; have := G1.size; simp only; omega) (.int .i64 c.epoch)) (p := ⟨w.heap.size + 1, 1, none⟩) (fun x hx => by have := hnew x hx; have := G1.size; simp only; omega) (.bool c.sealed)) (p := ⟨w.heap.size + 1, 2, none⟩) (fun x hx => by have := hnew x hx; have := G1.size; simp only; omega) (.int .i64 c.cut)) (p := ⟨w.heap.size + 1, 3, none⟩) (fun x hx => by have := hnew x hx; have := G1.size; simp only; omega) ((.slice a' ([] : List Cl).length cap')))
          simp only [List.setIfInBounds_toArray, List.set_cons_zero, List.set_cons_succ] at aW
          clear d0 d1 d2 d3 f0 f1 f2 f3 e0 e1 e2 e3 k0 k1 k2 k3
          generalize ((((((w2.setCell ⟨w.heap.size, 3, none⟩ ((.slice a' ([] : List Cl).length cap'))).setCell ⟨w.heap.size, 2, none⟩ (.int .i64 c.cut)).setCell ⟨w.heap.size + 1, 0, none⟩ (.int .i64 c.epoch)).setCell ⟨w.heap.size + 1, 1, none⟩ (.bool c.sealed)).setCell ⟨w.heap.size + 1, 2, none⟩ (.int .i64 c.cut)).setCell ⟨w.heap.size + 1, 3, none⟩ ((.slice a' ([] : List Cl).length cap'))) = W at *
          have y0 := cell_of_block (o := 0) aW rfl; simp at y0
          have y1 := cell_of_block (o := 1) aW rfl; simp at y1
          have y2 := cell_of_block (o := 2) aW rfl; simp at y2
          have y3 := cell_of_block (o := 3) aW rfl; simp at y3
          exact bodyPost_ret (v := .tuple #[.agg #[.int .i64 c.epoch, .bool c.sealed, .int .i64 c.cut, (.slice a' ([] : List Cl).length cap')], .int .i64 0]) (by simp [results, Try.results25, go_sem, y0, y1, y2, y3]) rfl ⟨a', cap', by rw [R.out, HD.out], GW, by rw [R.out, HD.out]; exact CW⟩
        · have hpos : 0 < cap := by omega
          have d2_ := cell_of_block (o := 2) b1 rfl; simp at d2_
          have d3_ := cell_of_block (o := 3) b1 rfl; simp at d3_
          go_wp2_with fail
          refine (copyOf_any c.cells a cap _ C1 hlen').mono ?_
          rintro e w2 ⟨a', cap', rfl, g2, C2, hnew⟩
          have hlt1 := lt_of_block a1
          have G2 := G1.trans g2
          have b2 := grow_block g2 b1
          have a2 := grow_block g2 a1
          clear g2 d2_ d3_
          have d0 := cell_of_block (o := 0) a2 rfl; simp at d0
          have d1 := cell_of_block (o := 1) a2 rfl; simp at d1
          have d2 := cell_of_block (o := 2) a2 rfl; simp at d2
          have d3 := cell_of_block (o := 3) a2 rfl; simp at d3
          have f0 := free_of_block a2 0
          have f1 := free_of_block a2 1
          have f2 := free_of_block a2 2
          have f3 := free_of_block a2 3
          have e0 := cell_of_block (o := 0) b2 rfl; simp at e0
          have e1 := cell_of_block (o := 1) b2 rfl; simp at e1
          have e2 := cell_of_block (o := 2) b2 rfl; simp at e2
          have e3 := cell_of_block (o := 3) b2 rfl; simp at e3
          have k0 := free_of_block b2 0
          have k1 := free_of_block b2 1
          have k2 := free_of_block b2 2
          have k3 := free_of_block b2 3
          go_wp2
          have aW := (block_set (o := 3) (v := (.slice a' c.cells.length cap')) (block_set (o := 2) (v := .int .i64 c.cut) (block_set (o := 1) (v := .bool c.sealed) (block_set (o := 0) (v := .int .i64 c.epoch) (block_far (a := ⟨w.heap.size, 2, none⟩) (v := .int .i64 c.cut) (by simp) (block_far (a := ⟨w.heap.size, 3, none⟩) (v := (.slice a' c.cells.length cap')) (by simp) a2))))))
          have GW := (Grow.setCell (Grow.setCell (Grow.setCell (Grow.setCell (Grow.setCell (Grow.setCell G2 (p := ⟨w.heap.size, 3, none⟩) (by simp) ((.slice a' c.cells.length cap'))) (p := ⟨w.heap.size, 2, none⟩) (by simp) (.int .i64 c.cut)) (p := ⟨w.heap.size + 1, 0, none⟩) (by simp) (.int .i64 c.epoch)) (p := ⟨w.heap.size + 1, 1, none⟩) (by simp) (.bool c.sealed)) (p := ⟨w.heap.size + 1, 2, none⟩) (by simp) (.int .i64 c.cut)) (p := ⟨w.heap.size + 1, 3, none⟩) (by simp) ((.slice a' c.cells.length cap')))
          have CW := (CellsAt.far (CellsAt.far (CellsAt.far (CellsAt.far (CellsAt.far (CellsAt.far C2 (p := ⟨w.heap.size, 3, none⟩) (fun x hx => by have := hnew x hx; have := G1.size; simp only; omega) ((.slice a' c.cells.length cap'))) (p := ⟨w.heap.size, 2, none⟩) (fun x hx => by have := hnew x hx; have := G1.size; simp only; omega) (.int .i64 c.cut)) (p := ⟨w.heap.size + 1, 0, none⟩) (fun x hx => by have := hnew x hx; have := G1.size; simp only; omega) (.int .i64 c.epoch)) (p := ⟨w.heap.size + 1, 1, none⟩) (fun x hx => by have := hnew x hx; have := G1.size; simp only; omega) (.bool c.sealed)) (p := ⟨w.heap.size + 1, 2, none⟩) (fun x hx => by have := hnew x hx; have := G1.size; simp only; omega) (.int .i64 c.cut)) (p := ⟨w.heap.size + 1, 3, none⟩) (fun x hx => by have := hnew x hx; have := G1.size; simp only; omega) ((.slice a' c.cells.length cap')))
          simp only [List.setIfInBounds_toArray, List.set_cons_zero, List.set_cons_succ] at aW
          clear d0 d1 d2 d3 f0 f1 f2 f3 e0 e1 e2 e3 k0 k1 k2 k3
          generalize ((((((w2.setCell ⟨w.heap.size, 3, none⟩ ((.slice a' c.cells.length cap'))).setCell ⟨w.heap.size, 2, none⟩ (.int .i64 c.cut)).setCell ⟨w.heap.size + 1, 0, none⟩ (.int .i64 c.epoch)).setCell ⟨w.heap.size + 1, 1, none⟩ (.bool c.sealed)).setCell ⟨w.heap.size + 1, 2, none⟩ (.int .i64 c.cut)).setCell ⟨w.heap.size + 1, 3, none⟩ ((.slice a' c.cells.length cap'))) = W at *
          have y0 := cell_of_block (o := 0) aW rfl; simp at y0
          have y1 := cell_of_block (o := 1) aW rfl; simp at y1
          have y2 := cell_of_block (o := 2) aW rfl; simp at y2
          have y3 := cell_of_block (o := 3) aW rfl; simp at y3
          exact bodyPost_ret (v := .tuple #[.agg #[.int .i64 c.epoch, .bool c.sealed, .int .i64 c.cut, (.slice a' c.cells.length cap')], .int .i64 0]) (by simp [results, Try.results25, go_sem, y0, y1, y2, y3]) rfl ⟨a', cap', by rw [R.out, HD.out], GW, by rw [R.out, HD.out]; exact CW⟩
      · obtain rfl : to = c.cut + m := by omega
        clear hm
        have hd : c.cut + (m : Int) - c.cut = m := by omega
        have hmx : max c.cut (c.cut + (m : Int)) = c.cut + m := by omega
        by_cases hml : m < c.cells.length
        · obtain ⟨b, off, rfl, _⟩ := C1.at (List.getElem?_eq_getElem hml)
          obtain ⟨ds, hds⟩ : ∃ ds, c.cells.drop m = ds := ⟨_, rfl⟩
          have HD : Hid (c.cells.drop m = ds) := hds
          have HL : Hid (ds.length = c.cells.length - m) := by show ds.length = _; rw [← hds, List.length_drop]
          have Cd := C1.drop hml
          rw [hds] at Cd
          have hdl : ds.length ≤ 30 := by rw [HL.out]; omega
          clear hds
          have hmn : min (m : Int) (c.cells.length : Int) = m := by omega
          have hz : ¬ cap - m = 0 := by omega
          have hml2 : (m : Int) < (c.cells.length : Int) := by omega
          have hcl2 : c.cut < c.cut + (m : Int) := by omega
          have d2_ := cell_of_block (o := 2) b1 rfl; simp at d2_
          have d3_ := cell_of_block (o := 3) b1 rfl; simp at d3_
          go_wp2_with fail
          rw [← HL.out]
          refine (copyOf_any ds (some ⟨b, off + m * 3, none⟩) (cap - m) _ Cd hdl).mono ?_
          rintro e w2 ⟨a', cap', rfl, g2, C2, hnew⟩
          have hlt1 := lt_of_block a1
          have G2 := G1.trans g2
          have b2 := grow_block g2 b1
          have a2 := grow_block g2 a1
          clear g2 d2_ d3_
          have d0 := cell_of_block (o := 0) a2 rfl; simp at d0
          have d1 := cell_of_block (o := 1) a2 rfl; simp at d1
          have d2 := cell_of_block (o := 2) a2 rfl; simp at d2
          have d3 := cell_of_block (o := 3) a2 rfl; simp at d3
          have f0 := free_of_block a2 0
          have f1 := free_of_block a2 1
          have f2 := free_of_block a2 2
          have f3 := free_of_block a2 3
          have e0 := cell_of_block (o := 0) b2 rfl; simp at e0
          have e1 := cell_of_block (o := 1) b2 rfl; simp at e1
          have e2 := cell_of_block (o := 2) b2 rfl; simp at e2
          have e3 := cell_of_block (o := 3) b2 rfl; simp at e3
          have k0 := free_of_block b2 0
          have k1 := free_of_block b2 1
          have k2 := free_of_block b2 2
          have k3 := free_of_block b2 3
          go_wp2
          have aW := (block_set (o := 3) (v := (.slice a' ds.length cap')) (block_set (o := 2) (v := .int .i64 (c.cut + m)) (block_set (o := 1) (v := .bool c.sealed) (block_set (o := 0) (v := .int .i64 c.epoch) (block_far (a := ⟨w.heap.size, 2, none⟩) (v := .int .i64 (c.cut + m)) (by simp) (block_far (a := ⟨w.heap.size, 3, none⟩) (v := (.slice a' ds.length cap')) (by simp) a2))))))
          have GW := (Grow.setCell (Grow.setCell (Grow.setCell (Grow.setCell (Grow.setCell (Grow.setCell G2 (p := ⟨w.heap.size, 3, none⟩) (by simp) ((.slice a' ds.length cap'))) (p := ⟨w.heap.size, 2, none⟩) (by simp) (.int .i64 (c.cut + m))) (p := ⟨w.heap.size + 1, 0, none⟩) (by simp) (.int .i64 c.epoch)) (p := ⟨w.heap.size + 1, 1, none⟩) (by simp) (.bool c.sealed)) (p := ⟨w.heap.size + 1, 2, none⟩) (by simp) (.int .i64 (c.cut + m))) (p := ⟨w.heap.size + 1, 3, none⟩) (by simp) ((.slice a' ds.length cap')))
          have CW := (CellsAt.far (CellsAt.far (CellsAt.far (CellsAt.far (CellsAt.far (CellsAt.far C2 (p := ⟨w.heap.size, 3, none⟩) (fun x hx => by have := hnew x hx; have := G1.size; simp only; omega) ((.slice a' ds.length cap'))) (p := ⟨w.heap.size, 2, none⟩) (fun x hx => by have := hnew x hx; have := G1.size; simp only; omega) (.int .i64 (c.cut + m))) (p := ⟨w.heap.size + 1, 0, none⟩) (fun x hx => by have := hnew x hx; have := G1.size; simp only; omega) (.int .i64 c.epoch)) (p := ⟨w.heap.size + 1, 1, none⟩) (fun x hx => by have := hnew x hx; have := G1.size; simp only; omega) (.bool c.sealed)) (p := ⟨w.heap.size + 1, 2, none⟩) (fun x hx => by have := hnew x hx; have := G1.size; simp only; omega) (.int .i64 (c.cut + m))) (p := ⟨w.heap.size + 1, 3, none⟩) (fun x hx => by have := hnew x hx; have := G1.size; simp only; omega) ((.slice a' ds.length cap')))
          simp only [List.setIfInBounds_toArray, List.set_cons_zero, List.set_cons_succ] at aW
          clear d0 d1 d2 d3 f0 f1 f2 f3 e0 e1 e2 e3 k0 k1 k2 k3
          generalize ((((((w2.setCell ⟨w.heap.size, 3, none⟩ ((.slice a' ds.length cap'))).setCell ⟨w.heap.size, 2, none⟩ (.int .i64 (c.cut + m))).setCell ⟨w.heap.size + 1, 0, none⟩ (.int .i64 c.epoch)).setCell ⟨w.heap.size + 1, 1, none⟩ (.bool c.sealed)).setCell ⟨w.heap.size + 1, 2, none⟩ (.int .i64 (c.cut + m))).setCell ⟨w.heap.size + 1, 3, none⟩ ((.slice a' ds.length cap'))) = W at *
          have y0 := cell_of_block (o := 0) aW rfl; simp at y0
          have y1 := cell_of_block (o := 1) aW rfl; simp at y1
          have y2 := cell_of_block (o := 2) aW rfl; simp at y2
          have y3 := cell_of_block (o := 3) aW rfl; simp at y3
          exact bodyPost_ret (v := .tuple #[.agg #[.int .i64 c.epoch, .bool c.sealed, .int .i64 (c.cut + m), (.slice a' ds.length cap')], .int .i64 0]) (by simp [results, Try.results25, go_sem, y0, y1, y2, y3]) rfl ⟨a', cap', by rw [R.out, HD.out], GW, by rw [R.out, HD.out]; exact CW⟩
        · have HD : Hid (c.cells.drop m = []) := List.drop_eq_nil_of_le (by omega)
          have hmn : min (m : Int) (c.cells.length : Int) = c.cells.length := by omega
          by_cases hme : m = c.cells.length
          · subst hme
            by_cases hz2 : cap - c.cells.length = 0
            · skip
              have d2_ := cell_of_block (o := 2) b1 rfl; simp at d2_
              have d3_ := cell_of_block (o := 3) b1 rfl; simp at d3_
              go_wp2_with fail
              refine (copyOf_any ([] : List Cl) a 0 _ (cellsAt_nil _ _ _) (by decide)).mono ?_
              rintro e w2 ⟨a', cap', rfl, g2, C2, hnew⟩
              have hlt1 := lt_of_block a1
              have G2 := G1.trans g2
              have b2 := grow_block g2 b1
              have a2 := grow_block g2 a1
              clear g2 d2_ d3_
              have d0 := cell_of_block (o := 0) a2 rfl; simp at d0
              have d1 := cell_of_block (o := 1) a2 rfl; simp at d1
              have d2 := cell_of_block (o := 2) a2 rfl; simp at d2
              have d3 := cell_of_block (o := 3) a2 rfl; simp at d3
              have f0 := free_of_block a2 0
              have f1 := free_of_block a2 1
              have f2 := free_of_block a2 2
              have f3 := free_of_block a2 3
              have e0 := cell_of_block (o := 0) b2 rfl; simp at e0
              have e1 := cell_of_block (o := 1) b2 rfl; simp at e1
              have e2 := cell_of_block (o := 2) b2 rfl; simp at e2
              have e3 := cell_of_block (o := 3) b2 rfl; simp at e3
              have k0 := free_of_block b2 0
              have k1 := free_of_block b2 1
              have k2 := free_of_block b2 2
              have k3 := free_of_block b2 3
              go_wp2
              have aW := (block_set (o := 3) (v := (.slice a' ([] : List Cl).length cap')) (block_set (o := 2) (v := .int .i64 (c.cut + c.cells.length)) (block_set (o := 1) (v := .bool c.sealed) (block_set (o := 0) (v := .int .i64 c.epoch) (block_far (a := ⟨w.heap.size, 2, none⟩) (v := .int .i64 (c.cut + c.cells.length)) (by simp) (block_far (a := ⟨w.heap.size, 3, none⟩) (v := (.slice a' ([] : List Cl).length cap')) (by simp) a2))))))
              have GW := (Grow.setCell (Grow.setCell (Grow.setCell (Grow.setCell (Grow.setCell (Grow.setCell G2 (p := ⟨w.heap.size, 3, none⟩) (by simp) ((.slice a' ([] : List Cl).length cap'))) (p := ⟨w.heap.size, 2, none⟩) (by simp) (.int .i64 (c.cut + c.cells.length))) (p := ⟨w.heap.size + 1, 0, none⟩) (by simp) (.int .i64 c.epoch)) (p := ⟨w.heap.size + 1, 1, none⟩) (by simp) (.bool c.sealed)) (p := ⟨w.heap.size + 1, 2, none⟩) (by simp) (.int .i64 (c.cut + c.cells.length))) (p := ⟨w.heap.size + 1, 3, none⟩) (by simp) ((.slice a' ([] : List Cl).length cap')))
              have CW := (CellsAt.far (CellsAt.far (CellsAt.far (CellsAt.far (CellsAt.far (CellsAt.far C2 (p := ⟨w.heap.size, 3, none⟩) (fun x hx => by have := hnew x hx; have := G1.size; simp only; omega) ((.slice a' ([] : List Cl).length cap'))) (p := ⟨w.heap.size, 2, none⟩) (fun x hx => by have := hnew x hx; have := G1.size; simp only; omega) (.int .i64 (c.cut + c.cells.length))) (p := ⟨w.heap.size + 1, 0, none⟩) (fun x hx => by have := hnew x hx; have := G1.size; simp only; omega) (.int .i64 c.epoch)) (p := ⟨w.heap.size + 1, 1, none⟩) (fun x hx => by have := hnew x hx; have := G1.size; simp only; omega) (.bool c.sealed)) (p := ⟨w.heap.size + 1, 2, none⟩) (fun x hx => by have := hnew x hx; have := G1.size; simp only; omega) (.int .i64 (c.cut + c.cells.length))) (p := ⟨w.heap.size + 1, 3, none⟩) (fun x hx => by have := hnew x hx; have := G1.size; simp only; omega) ((.slice a' ([] : List Cl).length cap')))
              simp only [List.setIfInBounds_toArray, List.set_cons_zero, List.set_cons_succ] at aW
              clear d0 d1 d2 d3 f0 f1 f2 f3 e0 e1 e2 e3 k0 k1 k2 k3
              generalize ((((((w2.setCell ⟨w.heap.size, 3, none⟩ ((.slice a' ([] : List Cl).length cap'))).setCell ⟨w.heap.size, 2, none⟩ (.int .i64 (c.cut + c.cells.length))).setCell ⟨w.heap.size + 1, 0, none⟩ (.int .i64 c.epoch)).setCell ⟨w.heap.size + 1, 1, none⟩ (.bool c.sealed)).setCell ⟨w.heap.size + 1, 2, none⟩ (.int .i64 (c.cut + c.cells.length))).setCell ⟨w.heap.size + 1, 3, none⟩ ((.slice a' ([] : List Cl).length cap'))) = W at *
              have y0 := cell_of_block (o := 0) aW rfl; simp at y0
              have y1 := cell_of_block (o := 1) aW rfl; simp at y1
              have y2 := cell_of_block (o := 2) aW rfl; simp at y2
              have y3 := cell_of_block (o := 3) aW rfl; simp at y3
              exact bodyPost_ret (v := .tuple #[.agg #[.int .i64 c.epoch, .bool c.sealed, .int .i64 (c.cut + c.cells.length), (.slice a' ([] : List Cl).length cap')], .int .i64 0]) (by simp [results, Try.results25, go_sem, y0, y1, y2, y3]) rfl ⟨a', cap', by rw [R.out, HD.out], GW, by rw [R.out, HD.out]; exact CW⟩
            · skip
              have d2_ := cell_of_block (o := 2) b1 rfl; simp at d2_
              have d3_ := cell_of_block (o := 3) b1 rfl; simp at d3_
              go_wp2_with fail
              refine (copyOf_any ([] : List Cl) (Option.map (fun x => x.add (c.cells.length * 3)) a) (cap - c.cells.length) _ (cellsAt_nil _ _ _) (by decide)).mono ?_
              rintro e w2 ⟨a', cap', rfl, g2, C2, hnew⟩
              have hlt1 := lt_of_block a1
              have G2 := G1.trans g2
              have b2 := grow_block g2 b1
              have a2 := grow_block g2 a1
              clear g2 d2_ d3_
              have d0 := cell_of_block (o := 0) a2 rfl; simp at d0
              have d1 := cell_of_block (o := 1) a2 rfl; simp at d1
              have d2 := cell_of_block (o := 2) a2 rfl; simp at d2
              have d3 := cell_of_block (o := 3) a2 rfl; simp at d3
              have f0 := free_of_block a2 0
              have f1 := free_of_block a2 1
              have f2 := free_of_block a2 2
              have f3 := free_of_block a2 3
              have e0 := cell_of_block (o := 0) b2 rfl; simp at e0
              have e1 := cell_of_block (o := 1) b2 rfl; simp at e1
              have e2 := cell_of_block (o := 2) b2 rfl; simp at e2
              have e3 := cell_of_block (o := 3) b2 rfl; simp at e3
              have k0 := free_of_block b2 0
              have k1 := free_of_block b2 1
              have k2 := free_of_block b2 2
              have k3 := free_of_block b2 3
              go_wp2
              have aW := (block_set (o := 3) (v := (.slice a' ([] : List Cl).length cap')) (block_set (o := 2) (v := .int .i64 (c.cut + c.cells.length)) (block_set (o := 1) (v := .bool c.sealed) (block_set (o := 0) (v := .int .i64 c.epoch) (block_far (a := ⟨w.heap.size, 2, none⟩) (v := .int .i64 (c.cut + c.cells.length)) (by simp) (block_far (a := ⟨w.heap.size, 3, none⟩) (v := (.slice a' ([] : List Cl).length cap')) (by simp) a2))))))
              have GW := (Grow.setCell (Grow.setCell (Grow.setCell (Grow.setCell (Grow.setCell (Grow.setCell G2 (p := ⟨w.heap.size, 3, none⟩) (by simp) ((.slice a' ([] : List Cl).length cap'))) (p := ⟨w.heap.size, 2, none⟩) (by simp) (.int .i64 (c.cut + c.cells.length))) (p := ⟨w.heap.size + 1, 0, none⟩) (by simp) (.int .i64 c.epoch)) (p := ⟨w.heap.size + 1, 1, none⟩) (by simp) (.bool c.sealed)) (p := ⟨w.heap.size + 1, 2, none⟩) (by simp) (.int .i64 (c.cut + c.cells.length))) (p := ⟨w.heap.size + 1, 3, none⟩) (by simp) ((.slice a' ([] : List Cl).length cap')))
              have CW := (CellsAt.far (CellsAt.far (CellsAt.far (CellsAt.far (CellsAt.far (CellsAt.far C2 (p := ⟨w.heap.size, 3, none⟩) (fun x hx => by have := hnew x hx; have := G1.size; simp only; omega) ((.slice a' ([] : List Cl).length cap'))) (p := ⟨w.heap.size, 2, none⟩) (fun x hx => by have := hnew x hx; have := G1.size; simp only; omega) (.int .i64 (c.cut + c.cells.length))) (p := ⟨w.heap.size + 1, 0, none⟩) (fun x hx => by have := hnew x hx; have := G1.size; simp only; omega) (.int .i64 c.epoch)) (p := ⟨w.heap.size + 1, 1, none⟩) (fun x hx => by have := hnew x hx; have := G1.size; simp only; omega) (.bool c.sealed)) (p := ⟨w.heap.size + 1, 2, none⟩) (fun x hx => by have := hnew x hx; have := G1.size; simp only; omega) (.int .i64 (c.cut + c.cells.length))) (p := ⟨w.heap.size + 1, 3, none⟩) (fun x hx => by have := hnew x hx; have := G1.size; simp only; omega) ((.slice a' ([] : List Cl).length cap')))
              simp only [List.setIfInBounds_toArray, List.set_cons_zero, List.set_cons_succ] at aW
              clear d0 d1 d2 d3 f0 f1 f2 f3 e0 e1 e2 e3 k0 k1 k2 k3
              generalize ((((((w2.setCell ⟨w.heap.size, 3, none⟩ ((.slice a' ([] : List Cl).length cap'))).setCell ⟨w.heap.size, 2, none⟩ (.int .i64 (c.cut + c.cells.length))).setCell ⟨w.heap.size + 1, 0, none⟩ (.int .i64 c.epoch)).setCell ⟨w.heap.size + 1, 1, none⟩ (.bool c.sealed)).setCell ⟨w.heap.size + 1, 2, none⟩ (.int .i64 (c.cut + c.cells.length))).setCell ⟨w.heap.size + 1, 3, none⟩ ((.slice a' ([] : List Cl).length cap'))) = W at *
              have y0 := cell_of_block (o := 0) aW rfl; simp at y0
              have y1 := cell_of_block (o := 1) aW rfl; simp at y1
              have y2 := cell_of_block (o := 2) aW rfl; simp at y2
              have y3 := cell_of_block (o := 3) aW rfl; simp at y3
              exact bodyPost_ret (v := .tuple #[.agg #[.int .i64 c.epoch, .bool c.sealed, .int .i64 (c.cut + c.cells.length), (.slice a' ([] : List Cl).length cap')], .int .i64 0]) (by simp [results, Try.results25, go_sem, y0, y1, y2, y3]) rfl ⟨a', cap', by rw [R.out, HD.out], GW, by rw [R.out, HD.out]; exact CW⟩
          · have hgt : (c.cells.length : Int) < (m : Int) := by omega
            by_cases hz2 : cap - c.cells.length = 0
            · skip
              have d2_ := cell_of_block (o := 2) b1 rfl; simp at d2_
              have d3_ := cell_of_block (o := 3) b1 rfl; simp at d3_
              go_wp2_with fail
              refine (copyOf_any ([] : List Cl) a 0 _ (cellsAt_nil _ _ _) (by decide)).mono ?_
              rintro e w2 ⟨a', cap', rfl, g2, C2, hnew⟩
              have hlt1 := lt_of_block a1
              have G2 := G1.trans g2
              have b2 := grow_block g2 b1
              have a2 := grow_block g2 a1
              clear g2 d2_ d3_
              have d0 := cell_of_block (o := 0) a2 rfl; simp at d0
              have d1 := cell_of_block (o := 1) a2 rfl; simp at d1
              have d2 := cell_of_block (o := 2) a2 rfl; simp at d2
              have d3 := cell_of_block (o := 3) a2 rfl; simp at d3
              have f0 := free_of_block a2 0
              have f1 := free_of_block a2 1
              have f2 := free_of_block a2 2
              have f3 := free_of_block a2 3
              have e0 := cell_of_block (o := 0) b2 rfl; simp at e0
              have e1 := cell_of_block (o := 1) b2 rfl; simp at e1
              have e2 := cell_of_block (o := 2) b2 rfl; simp at e2
              have e3 := cell_of_block (o := 3) b2 rfl; simp at e3
              have k0 := free_of_block b2 0
              have k1 := free_of_block b2 1
              have k2 := free_of_block b2 2
              have k3 := free_of_block b2 3
              go_wp2
              have aW := (block_set (o := 3) (v := (.slice a' ([] : List Cl).length cap')) (block_set (o := 2) (v := .int .i64 (c.cut + m)) (block_set (o := 1) (v := .bool c.sealed) (block_set (o := 0) (v := .int .i64 c.epoch) (block_far (a := ⟨w.heap.size, 2, none⟩) (v := .int .i64 (c.cut + m)) (by simp) (block_far (a := ⟨w.heap.size, 3, none⟩) (v := (.slice a' ([] : List Cl).length cap')) (by simp) a2))))))
              have GW := (Grow.setCell (Grow.setCell (Grow.setCell (Grow.setCell (Grow.setCell (Grow.setCell G2 (p := ⟨w.heap.size, 3, none⟩) (by simp) ((.slice a' ([] : List Cl).length cap'))) (p := ⟨w.heap.size, 2, none⟩) (by simp) (.int .i64 (c.cut + m))) (p := ⟨w.heap.size + 1, 0, none⟩) (by simp) (.int .i64 c.epoch)) (p := ⟨w.heap.size + 1, 1, none⟩) (by simp) (.bool c.sealed)) (p := ⟨w.heap.size + 1, 2, none⟩) (by simp) (.int .i64 (c.cut + m))) (p := ⟨w.heap.size + 1, 3, none⟩) (by simp) ((.slice a' ([] : List Cl).length cap')))
              have CW := (CellsAt.far (CellsAt.far (CellsAt.far (CellsAt.far (CellsAt.far (CellsAt.far C2 (p := ⟨w.heap.size, 3, none⟩) (fun x hx => by have := hnew x hx; have := G1.size; simp only; omega) ((.slice a' ([] : List Cl).length cap'))) (p := ⟨w.heap.size, 2, none⟩) (fun x hx => by have := hnew x hx; have := G1.size; simp only; omega) (.int .i64 (c.cut + m))) (p := ⟨w.heap.size + 1, 0, none⟩) (fun x hx => by have := hnew x hx; have := G1.size; simp only; omega) (.int .i64 c.epoch)) (p := ⟨w.heap.size + 1, 1, none⟩) (fun x hx => by have := hnew x hx; have := G1.size; simp only; omega) (.bool c.sealed)) (p := ⟨w.heap.size + 1, 2, none⟩) (fun x hx => by have := hnew x hx; have := G1.size; simp only; omega) (.int .i64 (c.cut + m))) (p := ⟨w.heap.size + 1, 3, none⟩) (fun x hx => by have := hnew x hx; have := G1.size; simp only; omega) ((.slice a' ([] : List Cl).length cap')))
              simp only [List.setIfInBounds_toArray, List.set_cons_zero, List.set_cons_succ] at aW
              clear d0 d1 d2 d3 f0 f1 f2 f3 e0 e1 e2 e3 k0 k1 k2 k3
              generalize ((((((w2.setCell ⟨w.heap.size, 3, none⟩ ((.slice a' ([] : List Cl).length cap'))).setCell ⟨w.heap.size, 2, none⟩ (.int .i64 (c.cut + m))).setCell ⟨w.heap.size + 1, 0, none⟩ (.int .i64 c.epoch)).setCell ⟨w.heap.size + 1, 1, none⟩ (.bool c.sealed)).setCell ⟨w.heap.size + 1, 2, none⟩ (.int .i64 (c.cut + m))).setCell ⟨w.heap.size + 1, 3, none⟩ ((.slice a' ([] : List Cl).length cap'))) = W at *
              have y0 := cell_of_block (o := 0) aW rfl; simp at y0
              have y1 := cell_of_block (o := 1) aW rfl; simp at y1
              have y2 := cell_of_block (o := 2) aW rfl; simp at y2
              have y3 := cell_of_block (o := 3) aW rfl; simp at y3
              exact bodyPost_ret (v := .tuple #[.agg #[.int .i64 c.epoch, .bool c.sealed, .int .i64 (c.cut + m), (.slice a' ([] : List Cl).length cap')], .int .i64 0]) (by simp [results, Try.results25, go_sem, y0, y1, y2, y3]) rfl ⟨a', cap', by rw [R.out, HD.out], GW, by rw [R.out, HD.out]; exact CW⟩
            · skip
              have d2_ := cell_of_block (o := 2) b1 rfl; simp at d2_
              have d3_ := cell_of_block (o := 3) b1 rfl; simp at d3_
              go_wp2_with fail
              refine (copyOf_any ([] : List Cl) (Option.map (fun x => x.add (c.cells.length * 3)) a) (cap - c.cells.length) _ (cellsAt_nil _ _ _) (by decide)).mono ?_
              rintro e w2 ⟨a', cap', rfl, g2, C2, hnew⟩
              have hlt1 := lt_of_block a1
              have G2 := G1.trans g2
              have b2 := grow_block g2 b1
              have a2 := grow_block g2 a1
              clear g2 d2_ d3_
              have d0 := cell_of_block (o := 0) a2 rfl; simp at d0
              have d1 := cell_of_block (o := 1) a2 rfl; simp at d1
              have d2 := cell_of_block (o := 2) a2 rfl; simp at d2
              have d3 := cell_of_block (o := 3) a2 rfl; simp at d3
              have f0 := free_of_block a2 0
              have f1 := free_of_block a2 1
              have f2 := free_of_block a2 2
              have f3 := free_of_block a2 3
              have e0 := cell_of_block (o := 0) b2 rfl; simp at e0
              have e1 := cell_of_block (o := 1) b2 rfl; simp at e1
              have e2 := cell_of_block (o := 2) b2 rfl; simp at e2
              have e3 := cell_of_block (o := 3) b2 rfl; simp at e3
              have k0 := free_of_block b2 0
              have k1 := free_of_block b2 1
              have k2 := free_of_block b2 2
              have k3 := free_of_block b2 3
              go_wp2
              have aW := (block_set (o := 3) (v := (.slice a' ([] : List Cl).length cap')) (block_set (o := 2) (v := .int .i64 (c.cut + m)) (block_set (o := 1) (v := .bool c.sealed) (block_set (o := 0) (v := .int .i64 c.epoch) (block_far (a := ⟨w.heap.size, 2, none⟩) (v := .int .i64 (c.cut + m)) (by simp) (block_far (a := ⟨w.heap.size, 3, none⟩) (v := (.slice a' ([] : List Cl).length cap')) (by simp) a2))))))
              have GW := (Grow.setCell (Grow.setCell (Grow.setCell (Grow.setCell (Grow.setCell (Grow.setCell G2 (p := ⟨w.heap.size, 3, none⟩) (by simp) ((.slice a' ([] : List Cl).length cap'))) (p := ⟨w.heap.size, 2, none⟩) (by simp) (.int .i64 (c.cut + m))) (p := ⟨w.heap.size + 1, 0, none⟩) (by simp) (.int .i64 c.epoch)) (p := ⟨w.heap.size + 1, 1, none⟩) (by simp) (.bool c.sealed)) (p := ⟨w.heap.size + 1, 2, none⟩) (by simp) (.int .i64 (c.cut + m))) (p := ⟨w.heap.size + 1, 3, none⟩) (by simp) ((.slice a' ([] : List Cl).length cap')))
              have CW := (CellsAt.far (CellsAt.far (CellsAt.far (CellsAt.far (CellsAt.far (CellsAt.far C2 (p := ⟨w.heap.size, 3, none⟩) (fun x hx => by have := hnew x hx; have := G1.size; simp only; omega) ((.slice a' ([] : List Cl).length cap'))) (p := ⟨w.heap.size, 2, none⟩) (fun x hx => by have := hnew x hx; have := G1.size; simp only; omega) (.int .i64 (c.cut + m))) (p := ⟨w.heap.size + 1, 0, none⟩) (fun x hx => by have := hnew x hx; have := G1.size; simp only; omega) (.int .i64 c.epoch)) (p := ⟨w.heap.size + 1, 1, none⟩) (fun x hx => by have := hnew x hx; have := G1.size; simp only; omega) (.bool c.sealed)) (p := ⟨w.heap.size + 1, 2, none⟩) (fun x hx => by have := hnew x hx; have := G1.size; simp only; omega) (.int .i64 (c.cut + m))) (p := ⟨w.heap.size + 1, 3, none⟩) (fun x hx => by have := hnew x hx; have := G1.size; simp only; omega) ((.slice a' ([] : List Cl).length cap')))
              simp only [List.setIfInBounds_toArray, List.set_cons_zero, List.set_cons_succ] at aW
              clear d0 d1 d2 d3 f0 f1 f2 f3 e0 e1 e2 e3 k0 k1 k2 k3
              generalize ((((((w2.setCell ⟨w.heap.size, 3, none⟩ ((.slice a' ([] : List Cl).length cap'))).setCell ⟨w.heap.size, 2, none⟩ (.int .i64 (c.cut + m))).setCell ⟨w.heap.size + 1, 0, none⟩ (.int .i64 c.epoch)).setCell ⟨w.heap.size + 1, 1, none⟩ (.bool c.sealed)).setCell ⟨w.heap.size + 1, 2, none⟩ (.int .i64 (c.cut + m))).setCell ⟨w.heap.size + 1, 3, none⟩ ((.slice a' ([] : List Cl).length cap'))) = W at *
              have y0 := cell_of_block (o := 0) aW rfl; simp at y0
              have y1 := cell_of_block (o := 1) aW rfl; simp at y1
              have y2 := cell_of_block (o := 2) aW rfl; simp at y2
              have y3 := cell_of_block (o := 3) aW rfl; simp at y3
              exact bodyPost_ret (v := .tuple #[.agg #[.int .i64 c.epoch, .bool c.sealed, .int .i64 (c.cut + m), (.slice a' ([] : List Cl).length cap')], .int .i64 0]) (by simp [results, Try.results25, go_sem, y0, y1, y2, y3]) rfl ⟨a', cap', by rw [R.out, HD.out], GW, by rw [R.out, HD.out]; exact CW⟩
  · have hx0 : (c.err == 0) = false := by simpa using h1
    have hx1 : (c.err != 0) = true := by simpa using h1
    have R : Hid (c.trim to = (zeroCh, c.err)) := by show c.trim to = _; rw [Ch.trim, if_pos h1]
    clear h1
    have d0 := cell_of_block (o := 0) a1 rfl; simp at d0
    have d1 := cell_of_block (o := 1) a1 rfl; simp at d1
    have d2 := cell_of_block (o := 2) a1 rfl; simp at d2
    have d3 := cell_of_block (o := 3) a1 rfl; simp at d3
    have f0 := free_of_block a1 0
    have f1 := free_of_block a1 1
    have f2 := free_of_block a1 2
    have f3 := free_of_block a1 3
    go_wp2
    have aW := (block_set (o := 3) (v := .slice none 0 0) (block_set (o := 2) (v := .int .i64 0) (block_set (o := 1) (v := .bool false) (block_set (o := 0) (v := .int .i64 0) a1))))
    have GW := (Grow.setCell (Grow.setCell (Grow.setCell (Grow.setCell G1 (p := ⟨w.heap.size + 1, 0, none⟩) (by simp) (.int .i64 0)) (p := ⟨w.heap.size + 1, 1, none⟩) (by simp) (.bool false)) (p := ⟨w.heap.size + 1, 2, none⟩) (by simp) (.int .i64 0)) (p := ⟨w.heap.size + 1, 3, none⟩) (by simp) (.slice none 0 0))
    simp only [List.setIfInBounds_toArray, List.set_cons_zero, List.set_cons_succ] at aW
    clear d0 d1 d2 d3 f0 f1 f2 f3
    generalize ((((w1.setCell ⟨w.heap.size + 1, 0, none⟩ (.int .i64 0)).setCell ⟨w.heap.size + 1, 1, none⟩ (.bool false)).setCell ⟨w.heap.size + 1, 2, none⟩ (.int .i64 0)).setCell ⟨w.heap.size + 1, 3, none⟩ (.slice none 0 0)) = W at *
    have y0 := cell_of_block (o := 0) aW rfl; simp at y0
    have y1 := cell_of_block (o := 1) aW rfl; simp at y1
    have y2 := cell_of_block (o := 2) aW rfl; simp at y2
    have y3 := cell_of_block (o := 3) aW rfl; simp at y3
    exact bodyPost_ret (v := .tuple #[.agg #[.int .i64 0, .bool false, .int .i64 0, .slice none 0 0], .int .i64 c.err]) (by simp [results, Try.results25, go_sem, y0, y1, y2, y3]) rfl ⟨none, 0, by rw [R.out]; rfl, GW, by rw [R.out]; simp [CellsAt, zeroCh]⟩
end Go.Proofs.Ytikdncgjaomlcaa
