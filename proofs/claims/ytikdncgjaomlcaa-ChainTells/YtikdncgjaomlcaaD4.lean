/- The document's cut of a chain: cutwaterref.TrimOf. -/
import Derived.Test.YtikdncgjaomlcaaD1
namespace Go.Proofs.Ytikdncgjaomlcaa
open Go.RowKit

theorem ownsRow_grow {w w' : World} {base : Nat} {e : TypeId} {size : Nat} {v : Value} {n : Nat} {xs : List Value} (h : w.ownsRow base e size v n xs) (hg : Grow w w') : w'.ownsRow base e size v n xs := by
  obtain ⟨h1, h2⟩ := h
  refine ⟨h1, ?_⟩
  rcases h2 with h2 | ⟨g, cap, cur, hv, hb, hh, r⟩
  · exact .inl h2
  · exact .inr ⟨g, cap, cur, hv, hb, grow_block hg hh, r⟩
/-- A row of cells of its own, or none. -/
theorem row_cells {w : World} {base : Nat} {e : TypeId} {v : Value} {cs : List Cl} (hl : cs.length ≤ 9223372036854775807) (hs : ∀ (k : Nat) (c : Cl), cs[k]? = some c → c.text.size ≤ 9223372036854775807) (h : w.ownsRow base e 3 v cs.length (vals cs)) :
    ∃ a' cap', v = .slice a' cs.length cap' ∧ CellsAt w a' cap' cs ∧ ∀ x, a' = some x → base ≤ x.block := by
  rcases h.2 with ⟨h0, h1⟩ | ⟨g, cap, cur, hv, hb, r⟩
  · have hn : cs = [] := List.length_eq_zero_iff.1 h1
    subst hn
    exact ⟨none, 0, h0, cellsAt_nil _ _ _, fun x hx => by cases hx⟩
  · subst hv
    exact ⟨_, cap, rfl, cellsAt_row hl hs h, fun x hx => by cases hx; exact hb⟩
section
variable {w : World} {b : Nat} {t : TypeId}
theorem lay_block {u0 u1 u2 u3 : Value} (h : w.heap[b]? = some (.cells #[u0, u1, u2, u3] t (0, 0))) (v0 v1 v2 v3 : Value) :
    ((((w.setCell ⟨b, 0, none⟩ v0).setCell ⟨b, 1, none⟩ v1).setCell ⟨b, 2, none⟩ v2).setCell ⟨b, 3, none⟩ v3).heap[b]? = some (.cells #[v0, v1, v2, v3] t (0, 0)) := by
  have := block_set (o := 3) (v := v3) (block_set (o := 2) (v := v2) (block_set (o := 1) (v := v1) (block_set (o := 0) (v := v0) h)))
  simpa only [List.setIfInBounds_toArray, List.set_cons_zero, List.set_cons_succ] using this
theorem lay_far {k : Nat} {o : Obj} (h : w.heap[k]? = some o) (hk : k ≠ b) (v0 v1 v2 v3 : Value) :
    ((((w.setCell ⟨b, 0, none⟩ v0).setCell ⟨b, 1, none⟩ v1).setCell ⟨b, 2, none⟩ v2).setCell ⟨b, 3, none⟩ v3).heap[k]? = some o :=
  block_far hk (block_far hk (block_far hk (block_far hk h)))
theorem lay_grow {w0 : World} (h : Grow w0 w) (hb : w0.heap.size ≤ b) (v0 v1 v2 v3 : Value) :
    Grow w0 ((((w.setCell ⟨b, 0, none⟩ v0).setCell ⟨b, 1, none⟩ v1).setCell ⟨b, 2, none⟩ v2).setCell ⟨b, 3, none⟩ v3) :=
  (((h.setCell (p := ⟨b, 0, none⟩) hb _).setCell (p := ⟨b, 1, none⟩) hb _).setCell (p := ⟨b, 2, none⟩) hb _).setCell (p := ⟨b, 3, none⟩) hb _
theorem lay_cells {a : Option Addr} {cap : Nat} {cs : List Cl} (h : CellsAt w a cap cs) (hfar : ∀ x, a = some x → b ≠ x.block) (v0 v1 v2 v3 : Value) :
    CellsAt ((((w.setCell ⟨b, 0, none⟩ v0).setCell ⟨b, 1, none⟩ v1).setCell ⟨b, 2, none⟩ v2).setCell ⟨b, 3, none⟩ v3) a cap cs :=
  CellsAt.far (CellsAt.far (CellsAt.far (CellsAt.far h (p := ⟨b, 0, none⟩) hfar _) (p := ⟨b, 1, none⟩) hfar _) (p := ⟨b, 2, none⟩) hfar _) (p := ⟨b, 3, none⟩) hfar _
end
/-- One cell more. -/
theorem vals_take {cs : List Cl} {k : Nat} {x : Cl} (h : cs[k]? = some x) : vals (cs.take (k + 1)) = vals (cs.take k) ++ [.bool x.there, .bool x.junk, .string x.text] := by
  rw [List.take_add_one, h]
  simp [vals]
theorem take_sizes {cs : List Cl} (h : ∀ (k : Nat) (c : Cl), cs[k]? = some c → c.text.size ≤ 9223372036854775807) (m : Nat) : ∀ (k : Nat) (c : Cl), (cs.drop m)[k]? = some c → c.text.size ≤ 9223372036854775807 := by
  intro k c hk
  rw [List.getElem?_drop] at hk
  exact h _ c hk
set_option maxHeartbeats 8000000 in
theorem refTrim_any (c : Ch) (a : Option Addr) (cap : Nat) (to : Int) (w : World) (hc : CellsAt w a cap c.cells) (he : c.err = 0) :
    Calls Try.prog 29 #[c.val a cap, .int .i64 to] w fun e w' => ∃ a' cap', e = .returned ((⟨c.epoch, c.sealed, max c.cut to, c.cells.drop (max c.cut to - c.cut).toNat⟩ : Ch).val a' cap') ∧ Grow w w' ∧ CellsAt w' a' cap' (c.cells.drop (max c.cut to - c.cut).toNat) := by
  obtain ⟨i0, hi, hz0, hz1, hz2⟩ := info_parts Try.infoCell
  have HC : Hid (CellsAt w a cap c.cells) := hc
  clear hc
  obtain ⟨_, hcut, hlen, _⟩ := Ch.fine he
  have hl : c.cells.length ≤ 30 := by omega
  clear he
  have hadd : IntKind.i64.wrap (c.cut + (c.cells.length : Int)) = c.cut + (c.cells.length : Int) := by rw [IntKind.wrap_i64]; omega
  have hadd' : wrap64 (c.cut + (c.cells.length : Int)) = c.cut + (c.cells.length : Int) := by unfold wrap64; omega
  by_cases hto : c.cut < to
  case neg =>
    have hto' : decide (c.cut < to) = false := by simpa using hto
    have e1 : max c.cut to = c.cut := by omega
    have e2 : (max c.cut to - c.cut).toNat = 0 := by omega
    rw [e2, List.drop_zero, e1]
    clear hadd hadd' e1 e2
    unfold Ch.val
    go_enter Try.func29, Try.ntmps29
    go_wp2
    exact bodyPost_ret (v := .agg #[.int .i64 c.epoch, .bool c.sealed, .int .i64 c.cut, .slice a c.cells.length cap]) (by simp [results, Try.results29, go_sem]) rfl ⟨a, cap, rfl, (((Grow.refl w).alloc _).alloc _).alloc _, HC.out.grow ((((Grow.refl w).alloc _).alloc _).alloc _)⟩
  have hto' : decide (c.cut < to) = true := by simpa using hto
  have e1 : max c.cut to = to := by omega
  rw [e1]
  obtain ⟨m, hm⟩ : ∃ m : Nat, to = c.cut + m := ⟨(to - c.cut).toNat, by omega⟩
  have e2 : (to - c.cut).toNat = m := by omega
  rw [e2]
  clear e1 e2
  have HM : Hid (to = c.cut + m) := hm
  have HT : Hid (c.cut < to) := hto
  clear hm hto
  unfold Ch.val
  simp only [List.length_drop]
  go_enter Try.func29, Try.ntmps29
  go_wp2
  clear hto'
  go_loopw [6] (fun i wr => ∃ (k : Nat) (v : Value), i = .int .i64 (to + k) ∧ (k = 0 ∨ m + k ≤ c.cells.length) ∧ Grow w wr ∧ w.heap.size + 3 ≤ wr.heap.size ∧ wr.heap[w.heap.size]? = some (Obj.cells #[.int .i64 c.epoch, .bool c.sealed, .int .i64 c.cut, .slice a c.cells.length cap] 42 (0, 0)) ∧ wr.heap[w.heap.size + 1]? = some (Obj.cells #[.int .i64 0, .bool false, .int .i64 0, .slice none 0 0] 42 (0, 0)) ∧ wr.heap[w.heap.size + 2]? = some (Obj.cells #[.int .i64 c.epoch, .bool c.sealed, .int .i64 to, v] 42 (0, 0)) ∧ wr.ownsRow (w.heap.size + 3) 54 3 v k (vals ((c.cells.drop m).take k))) (fun i _ => (c.cut + c.cells.length - intOf i).toNat)
  case atStart =>
    have s1 : (w.alloc (Obj.cells #[.int .i64 c.epoch, .bool c.sealed, .int .i64 c.cut, .slice a c.cells.length cap] 42)).heap.size = w.heap.size + 1 := by simp
    have s2 : ((w.alloc (Obj.cells #[.int .i64 c.epoch, .bool c.sealed, .int .i64 c.cut, .slice a c.cells.length cap] 42)).alloc (Obj.cells #[.int .i64 0, .bool false, .int .i64 0, .slice none 0 0] 42)).heap.size = w.heap.size + 2 := by simp
    have n0 := heap_alloc_new w (Obj.cells #[.int .i64 c.epoch, .bool c.sealed, .int .i64 c.cut, .slice a c.cells.length cap] 42)
    have n1 := heap_alloc_new (w.alloc (Obj.cells #[.int .i64 c.epoch, .bool c.sealed, .int .i64 c.cut, .slice a c.cells.length cap] 42)) (Obj.cells #[.int .i64 0, .bool false, .int .i64 0, .slice none 0 0] 42)
    have n2 := heap_alloc_new ((w.alloc (Obj.cells #[.int .i64 c.epoch, .bool c.sealed, .int .i64 c.cut, .slice a c.cells.length cap] 42)).alloc (Obj.cells #[.int .i64 0, .bool false, .int .i64 0, .slice none 0 0] 42)) (Obj.cells #[.int .i64 c.epoch, .bool c.sealed, .int .i64 to, .slice none 0 0] 42)
    rw [s1] at n1
    rw [s2] at n2
    exact ⟨0, .slice none 0 0, by simp, .inl rfl, (((Grow.refl w).alloc _).alloc _).alloc _, by simp, (Below.heap_alloc _ _ _ (by simp <;> omega)).trans ((Below.heap_alloc _ _ _ (by simp)).trans n0), (Below.heap_alloc _ _ _ (by simp)).trans n1, n2, by rw [List.take_zero]; exact World.ownsRow_nil _ _ _ _⟩
  case round =>
    obtain ⟨k, v, rfl, hk, hG, hsz, h0, h1, h2, hown⟩ := hrel
    by_cases hlt : m + k < c.cells.length
    · have hck : c.cells[m + k]? = some c.cells[m + k] := List.getElem?_eq_getElem hlt
      generalize c.cells[m + k] = x at hck
      have hx : Hid (c.look (to + k) = x) := by show c.look (to + k) = x; unfold Ch.look Ch.at; rw [if_neg (by have := HM.out; omega), show (to + (k : Int) - c.cut).toNat = m + k from by have := HM.out; omega, hck]; rfl
      have hxs := HC.out.sizes _ _ hck
      have HV : Hid (vals ((c.cells.drop m).take (k + 1)) = vals ((c.cells.drop m).take k) ++ [.bool x.there, .bool x.junk, .string x.text]) := vals_take (by rw [List.getElem?_drop]; exact hck)
      clear hck
      have hlt' : decide (to + (k : Int) < c.cut + (c.cells.length : Int)) = true := by have := HM.out; simp; omega
      have hrng : 0 ≤ to + (k : Int) ∧ to + (k : Int) < c.cut + (c.cells.length : Int) := by have := HM.out; omega
      have hw1 : wrap64 (to + (k : Int) + 1) = to + (k : Int) + 1 := by unfold wrap64; omega
      have hw2 : IntKind.i64.wrap (to + (k : Int) + 1) = to + (k : Int) + 1 := by rw [IntKind.wrap_i64]; omega
      have q0 := cell_of_block (o := 0) h0 rfl; simp at q0
      have q1 := cell_of_block (o := 1) h0 rfl; simp at q1
      have q2 := cell_of_block (o := 2) h0 rfl; simp at q2
      have q3 := cell_of_block (o := 3) h0 rfl; simp at q3
      have p0 := cell_of_block (o := 0) h2 rfl; simp at p0
      have p1 := cell_of_block (o := 1) h2 rfl; simp at p1
      have p2 := cell_of_block (o := 2) h2 rfl; simp at p2
      have p3 := cell_of_block (o := 3) h2 rfl; simp at p3
      have f0 := free_of_block h2 0
      have f1 := free_of_block h2 1
      have f2 := free_of_block h2 2
      have f3 := free_of_block h2 3
      have qd0 := cell_grow (Grow.refl wr).drew q0
      have qd1 := cell_grow (Grow.refl wr).drew q1
      have qd2 := cell_grow (Grow.refl wr).drew q2
      have qd3 := cell_grow (Grow.refl wr).drew q3
      have pd0 := cell_grow (Grow.refl wr).drew p0
      have pd1 := cell_grow (Grow.refl wr).drew p1
      have pd2 := cell_grow (Grow.refl wr).drew p2
      have pd3 := cell_grow (Grow.refl wr).drew p3
      go_wp2_with fail
      refine wp_region_path [(0, 0), (1, 0), (2, 0), (3, 0), (4, 1), (5, 1), (6, 3), (7, 0), (8, 3)] (by kernel_rfl) (by kernel_rfl) (by kernel_rfl) (by kernel_rfl) ?_
      simp only [parts, headed, List.getElem?_toArray, List.getElem?_cons_zero, List.getElem?_cons_succ]
      refine parts_step fun K HK => ?_
      go_wp2_with fail
      refine (refCellAt_any c a cap _ _ (HC.out.grow hG.drew) hl hcut).mono ?_
      rw [hx.out]
      rintro e w1 ⟨rfl, g1⟩
      unfold Cl.val
      go_wp2_with fail
      refine HK.out _ _ g1 ?_
      have hown1 := ownsRow_grow hown.drew g1
      have hs1 := g1.size
      clear HK K
      refine parts_step fun K HK => ?_
      go_wp2_with fail
      refine HK.out _ _ ((Grow.refl w1).alloc _) ?_
      clear HK K
      refine parts_cut fun K HK => ?_
      go_wp2_with (at_builtin; go_must (refine wpList_append_lies _ (by rfl) _ _ 40 (by rfl) (w.heap.size + 3) 54 i0 (.agg #[.bool false, .bool false, .string ⟨#[]⟩]) 3 24 Try.underlying40 hi hz0 hz1 hz2 (by rfl) (by decide) v k (vals ((c.cells.drop m).take k)) (by rfl) (hown1.alloc _) ⟨w1.heap.size, 0, none⟩ 1 1 [.bool x.there, .bool x.junk, .string x.text] (by rfl) (by rfl) (World.news_of_block (cs := #[.bool x.there, .bool x.junk, .string x.text]) (t := 54) (fr := (0, 0)) (heap_alloc_new w1 _)) (by intro u hu; simp at hu; rcases hu with rfl | rfl | rfl <;> rfl) (by decide) (by unfold maxLen; omega) (by omega) (by simp at hs1 ⊢; omega) (w1.heap.size + 1) (by simp) ?_; intro g cap' w3 hown3 hgrow hat hltg))
      refine HK.out _ _ ?_
      have h01 := grow_block g1 (grow_block (Grow.refl wr).drew h0)
      have h11 := grow_block g1 (grow_block (Grow.refl wr).drew h1)
      have h21 := grow_block g1 (grow_block (Grow.refl wr).drew h2)
      have hb0 : w3.heap[w.heap.size]? = some (Obj.cells #[.int .i64 c.epoch, .bool c.sealed, .int .i64 c.cut, .slice a c.cells.length cap] 42 (0, 0)) := block_grown (w := w1) hgrow (own_ne hown1 (by omega)) h01
      have hb1 : w3.heap[w.heap.size + 1]? = some (Obj.cells #[.int .i64 0, .bool false, .int .i64 0, .slice none 0 0] 42 (0, 0)) := block_grown (w := w1) hgrow (own_ne hown1 (by omega)) h11
      have hb2 : w3.heap[w.heap.size + 2]? = some (Obj.cells #[.int .i64 c.epoch, .bool c.sealed, .int .i64 to, v] 42 (0, 0)) := block_grown (w := w1) hgrow (own_ne hown1 (by omega)) h21
      have hG3 : Grow w w3 := grow_grown (w2 := w1) (hG.drew.trans g1) hown1 (by omega) hgrow
      have cb3 := cell_of_block (o := 3) hb2 rfl
      have fb3 := free_of_block hb2 3
      clear HK K
      refine parts_cut fun K HK => ?_
      go_wp2_with fail
      refine HK.out _ _ ?_
      clear HK K
      refine parts_step fun K HK => ?_
      go_wp2_with fail
      refine HK.out _ _ (Grow.refl _) ?_
      clear HK K
      refine parts_done ?_
      go_wp2
      have b4 := block_set (o := 3) (v := .slice (some ⟨g, 0, none⟩) (k + 1) cap') hb2
      simp only [List.setIfInBounds_toArray, List.set_cons_zero, List.set_cons_succ] at b4
      have hsz3 := hgrow.size
      go_roundw
      case rel =>
        refine ⟨k + 1, _, by go_num, .inr (by omega), hG3.setCell (by simp <;> omega) _, ?_, block_far (by simp <;> omega) hb0, block_far (by simp) hb1, b4, ownsRow_far ?_ (by simp) _⟩
        · simp at hsz3 hs1 ⊢; omega
        · rw [HV.out]; exact hown3
      case measure => simp [intOf]; omega
    · have hlt' : decide (to + (k : Int) < c.cut + (c.cells.length : Int)) = false := by have := HM.out; simp; omega
      have hkl : (c.cells.drop m).length = k := by rw [List.length_drop]; omega
      rw [List.take_of_length_le (by omega), ← hkl] at hown
      obtain ⟨a', cap', rfl, C1, hnew⟩ := row_cells (by rw [hkl]; omega) (take_sizes HC.out.sizes m) hown
      have HD := List.length_drop (i := m) (l := c.cells)
      rw [HD] at h2 hown
      have CN : Hid (CellsAt wr a' cap' (c.cells.drop m)) := C1
      clear C1 hown hkl HD hk
      have q0 := cell_of_block (o := 0) h0 rfl; simp at q0
      have q1 := cell_of_block (o := 1) h0 rfl; simp at q1
      have q2 := cell_of_block (o := 2) h0 rfl; simp at q2
      have q3 := cell_of_block (o := 3) h0 rfl; simp at q3
      have p0 := cell_of_block (o := 0) h2 rfl; simp at p0
      have p1 := cell_of_block (o := 1) h2 rfl; simp at p1
      have p2 := cell_of_block (o := 2) h2 rfl; simp at p2
      have p3 := cell_of_block (o := 3) h2 rfl; simp at p3
      have d0 := cell_of_block (o := 0) h1 rfl; simp at d0
      have d1 := cell_of_block (o := 1) h1 rfl; simp at d1
      have d2 := cell_of_block (o := 2) h1 rfl; simp at d2
      have d3 := cell_of_block (o := 3) h1 rfl; simp at d3
      have f0 := free_of_block h1 0
      have f1 := free_of_block h1 1
      have f2 := free_of_block h1 2
      have f3 := free_of_block h1 3
      go_wp2_with fail
      have aW := lay_block h1 (.int .i64 c.epoch) (.bool c.sealed) (.int .i64 to) ((.slice a' (c.cells.length - m) cap'))
      have GW := lay_grow (b := w.heap.size + 1) hG (by omega) (.int .i64 c.epoch) (.bool c.sealed) (.int .i64 to) ((.slice a' (c.cells.length - m) cap'))
      have CW := lay_cells (b := w.heap.size + 1) CN.out (fun x hx => by have := hnew x hx; omega) (.int .i64 c.epoch) (.bool c.sealed) (.int .i64 to) ((.slice a' (c.cells.length - m) cap'))
      clear q0 q1 q2 q3 p0 p1 p2 p3 d0 d1 d2 d3 f0 f1 f2 f3
      generalize ((((wr.setCell ⟨w.heap.size + 1, 0, none⟩ (.int .i64 c.epoch)).setCell ⟨w.heap.size + 1, 1, none⟩ (.bool c.sealed)).setCell ⟨w.heap.size + 1, 2, none⟩ (.int .i64 to)).setCell ⟨w.heap.size + 1, 3, none⟩ ((.slice a' (c.cells.length - m) cap'))) = W at *
      have y0 := cell_of_block (o := 0) aW rfl; simp at y0
      have y1 := cell_of_block (o := 1) aW rfl; simp at y1
      have y2 := cell_of_block (o := 2) aW rfl; simp at y2
      have y3 := cell_of_block (o := 3) aW rfl; simp at y3
      exact bodyPost_ret (v := .agg #[.int .i64 c.epoch, .bool c.sealed, .int .i64 to, (.slice a' (c.cells.length - m) cap')]) (by simp [results, Try.results29, go_sem, y0, y1, y2, y3]) rfl ⟨a', cap', rfl, GW, CW⟩
end Go.Proofs.Ytikdncgjaomlcaa
