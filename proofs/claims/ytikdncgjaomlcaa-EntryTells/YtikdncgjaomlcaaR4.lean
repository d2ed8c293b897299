/- The document's reading of an entry: cutwaterref.EntryOf. -/
import Derived.Test.YtikdncgjaomlcaaR3
import Derived.Deep.RegionLaw
namespace Go.Proofs.Ytikdncgjaomlcaa
open Go.RowKit

theorem getElem_bAt (s : ByteArray) (p : Nat) (h : p < s.size) : (s[p]'h).toNat = bAt s p := by
  have h' : p < s.data.toList.length := by rw [Array.length_toList]; exact h
  unfold bAt
  rw [List.getD_eq_getElem?_getD, List.getElem?_eq_getElem h', Option.getD_some]
  rfl
theorem reg_gt (b : Nat) : isReg (b : Int) = !decide (1 < b) := by
  unfold isReg
  rw [Bool.eq_iff_iff]
  simp
  omega

/-- A way out with an error, ahead of the links. -/
def EarlyOut (s : ByteArray) (w : World) (x : Int) : Prop :=
  Calls Try.prog 13 #[.string s] w fun e w' => Grow w w' ∧ e = .returned (.tuple #[.agg #[.int .i64 0, .int .i64 0, .int .i64 0, .string ⟨#[]⟩, .slice none 0 0], .int .i64 0, .int .i64 x])
set_option maxHeartbeats 1000000 in
theorem entryOf_empty (s : ByteArray) (w : World) (h0 : s.size = 0) : EarlyOut s w 5 := by
  unfold EarlyOut
  have hz : decide ((0 : Int) < (s.size : Int)) = false := by simp [h0]
  have hlt : (s.size : Int) < 4 := by omega
  go_enter Try.func13, Try.ntmps13
  go_wp2
  exact bodyPost_ret (v := .tuple #[.agg #[.int .i64 0, .int .i64 0, .int .i64 0, .string ⟨#[]⟩, .slice none 0 0], .int .i64 0, .int .i64 5]) (by simp [results, Try.results13, go_sem]) rfl ⟨((Grow.refl w).alloc _).alloc _, rfl⟩
set_option maxHeartbeats 1000000 in
theorem entryOf_form (s : ByteArray) (w : World) (h0 : 0 < s.size) (hg : 1 < bAt s 0) : EarlyOut s w 1 := by
  unfold EarlyOut
  have hix := getElem_bAt s
  have hp : (0 : Int) < (s.size : Int) := by omega
  have hgi : (1 : Int) < (bAt s 0 : Int) := by omega
  go_enter Try.func13, Try.ntmps13
  go_wp2
  exact bodyPost_ret (v := .tuple #[.agg #[.int .i64 0, .int .i64 0, .int .i64 0, .string ⟨#[]⟩, .slice none 0 0], .int .i64 0, .int .i64 1]) (by simp [results, Try.results13, go_sem]) rfl ⟨((Grow.refl w).alloc _).alloc _, rfl⟩
set_option maxHeartbeats 1000000 in
theorem entryOf_short (s : ByteArray) (w : World) (h0 : 0 < s.size) (hg : bAt s 0 ≤ 1) (h4 : s.size < 4) : EarlyOut s w 5 := by
  unfold EarlyOut
  have hix := getElem_bAt s
  have hp : (0 : Int) < (s.size : Int) := by omega
  have hgi : (bAt s 0 : Int) ≤ 1 := by omega
  have hlt : (s.size : Int) < 4 := by omega
  go_enter Try.func13, Try.ntmps13
  go_wp2
  exact bodyPost_ret (v := .tuple #[.agg #[.int .i64 0, .int .i64 0, .int .i64 0, .string ⟨#[]⟩, .slice none 0 0], .int .i64 0, .int .i64 5]) (by simp [results, Try.results13, go_sem]) rfl ⟨((Grow.refl w).alloc _).alloc _, rfl⟩
theorem ownsRow_far {w : World} {base : Nat} {e : TypeId} {size : Nat} {v : Value} {n : Nat} {xs : List Value} (h : w.ownsRow base e size v n xs) {p : Addr} (hp : p.block < base) (u : Value) : (w.setCell p u).ownsRow base e size v n xs := by
  obtain ⟨h1, h2⟩ := h
  refine ⟨h1, ?_⟩
  rcases h2 with h2 | ⟨g, cap, cur, hv, hg, hh, r⟩
  · exact .inl h2
  · exact .inr ⟨g, cap, cur, hv, hg, block_far (by omega) hh, r⟩
theorem grow_grown {w w2 w3 : World} {o : Obj} {base : Nat} {e : TypeId} {size : Nat} {v : Value} {n : Nat} {xs : List Value} (h : Grow w w2) (hown : w2.ownsRow base e size v n xs) (hb : w.heap.size ≤ base) (hg : (w2.alloc o).grownBy w3 v.ownBlock) : Grow w w3 :=
  ⟨hg.os.trans h.os, hg.tape.trans h.tape, hg.output.trans h.output, by have := hg.size; have := h.size; simp at *; omega, fun k hk => by
    have := h.size
    rw [hg.block k (by simp; omega) (own_ne hown (by omega)), Below.heap_alloc _ _ _ (by omega)]
    exact h.block k hk⟩
theorem stop_links {s : ByteArray} (h4 : 4 ≤ s.size) (hg : bAt s 0 ≤ 1) : entryStop s = match linksStop s 4 (bAt s 3) with
    | some x => some x
    | none => if s.size < 5 + bAt s 3 * 2 then some 5 else if s.size < 5 + bAt s 3 * 2 + bAt s (4 + bAt s 3 * 2) then some 5 else none := by
  have h0 : idStop s 0 = none := by
    have : isReg (bAt s 0 : Int) = true := by rw [reg_gt]; simpa using hg
    rw [idStop, if_neg (by omega), this, if_neg (by decide), if_neg (by omega)]
  unfold entryStop
  rw [h0]
  simp only
  rw [if_neg (by omega), if_neg (by omega)]
  rfl
/-- It gives up at a link. -/
theorem dec_link {s : ByteArray} {k : Nat} {x : Int} (h4 : 4 ≤ s.size) (hg : bAt s 0 ≤ 1) (hk : k < bAt s 3) (hno : linksStop s 4 k = none) (hx : idStop s (4 + k * 2) = some x) : decErr s = x := by
  have h1 : linksStop s 4 (bAt s 3) = some x := linksStop_stays s 4 (k + 1) x (by rw [linksStop_step _ _ _ hno]; exact hx) _ hk
  unfold decErr
  rw [stop_links h4 hg, h1]
theorem dec_text {s : ByteArray} (h4 : 4 ≤ s.size) (hg : bAt s 0 ≤ 1) (hno : linksStop s 4 (bAt s 3) = none) (hx : s.size < 5 + bAt s 3 * 2 ∨ s.size < 5 + bAt s 3 * 2 + bAt s (4 + bAt s 3 * 2)) : decErr s = 5 := by
  unfold decErr
  rw [stop_links h4 hg, hno]
  simp only
  by_cases h : s.size < 5 + bAt s 3 * 2
  · rw [if_pos h]
  · rw [if_neg h, if_pos (by omega)]
theorem dec_check {s : ByteArray} (h4 : 4 ≤ s.size) (hg : bAt s 0 ≤ 1) (hno : linksStop s 4 (bAt s 3) = none) (hx : 5 + bAt s 3 * 2 + bAt s (4 + bAt s 3 * 2) ≤ s.size) :
    entryStop s = none ∧ decErr s = checkErr (bAt s 0) (bAt s 1) (bAt s 2) (entryText s).size (bAt s 3) (entryR s) (entryN s) := by
  have h : entryStop s = none := by
    rw [stop_links h4 hg, hno]
    simp only
    rw [if_neg (by omega), if_neg (by omega)]
  refine ⟨h, ?_⟩
  unfold decErr
  rw [h]
theorem id_late {s : ByteArray} {p : Nat} (h : s.size < p + 1) : idStop s p = some 5 := by rw [idStop, if_pos h]
theorem id_form {s : ByteArray} {p : Nat} (h : ¬ s.size < p + 1) (h2 : 1 < bAt s p) : idStop s p = some 1 := by
  have : isReg (bAt s p : Int) = false := by rw [reg_gt]; simpa using h2
  rw [idStop, if_neg h, this]; rfl
theorem id_half {s : ByteArray} {p : Nat} (h : ¬ s.size < p + 1) (h2 : ¬ 1 < bAt s p) (h3 : s.size < p + 2) : idStop s p = some 5 := by
  have : isReg (bAt s p : Int) = true := by rw [reg_gt]; simpa using h2
  rw [idStop, if_neg h, this, if_pos h3]; rfl
set_option maxHeartbeats 4000000 in
theorem entryOf_long (s : ByteArray) (w : World) (hs : s.size ≤ 1152921504606846976) (hg : bAt s 0 ≤ 1) (h4 : 4 ≤ s.size) :
    Calls Try.prog 13 #[.string s] w fun e w' => Grow w w' ∧ ((decErr s ≠ 0 ∧ e = .returned (.tuple #[.agg #[.int .i64 0, .int .i64 0, .int .i64 0, .string ⟨#[]⟩, .slice none 0 0], .int .i64 0, .int .i64 (decErr s)])) ∨
      (decErr s = 0 ∧ ∃ a cap, e = .returned (.tuple #[.agg #[.int .i64 (bAt s 0), .int .i64 (bAt s 1), .int .i64 (bAt s 2), .string (entryText s), .slice a (bAt s 3) cap], .int .i64 (entrySize s), .int .i64 0]) ∧ IdsAt w' a (bAt s 3) (entryR s) (entryN s))) := by
  have hix := getElem_bAt s
  have hp : (0 : Int) < (s.size : Int) := by omega
  have hgi : (bAt s 0 : Int) ≤ 1 := by omega
  have hge : (4 : Int) ≤ (s.size : Int) := by omega
  have q1 : (1 : Int) < (s.size : Int) := by omega
  have q2 : (2 : Int) < (s.size : Int) := by omega
  have q3 : (3 : Int) < (s.size : Int) := by omega
  have z0 := bAt_lt s 0
  have z1 := bAt_lt s 1
  have z2 := bAt_lt s 2
  have z3 := bAt_lt s 3
  go_enter Try.func13, Try.ntmps13
  go_wp2
  go_region
  all_goals go_wp2
  obtain ⟨i0, hi, hzz0, hzz1, hzz2⟩ := info_parts Try.info23
  go_loopw [6, 7] (fun at' i wr => ∃ (k p : Nat) (v : Value), p = 4 + k * 2 ∧ k ≤ bAt s 3 ∧ i = .int .i64 k ∧ at' = .int .i64 p ∧ linksStop s 4 k = none ∧ Grow w wr ∧ w.heap.size + 2 ≤ wr.heap.size ∧ wr.heap[w.heap.size]? = some (Obj.cells #[.int .i64 0, .int .i64 0, .int .i64 0, .string ⟨#[]⟩, .slice none 0 0] 26 (0, 0)) ∧
      wr.heap[w.heap.size + 1]? = some (Obj.cells #[.int .i64 (bAt s 0), .int .i64 (bAt s 1), .int .i64 (bAt s 2), .string ⟨#[]⟩, v] 26 (0, 0)) ∧ wr.ownsRow (w.heap.size + 2) 23 2 v k (linkVals s 4 k)) (fun _ i _ => bAt s 3 - (intOf i).toNat)
  case atStart =>
    have hnew : ((w.alloc (Obj.cells #[.int .i64 0, .int .i64 0, .int .i64 0, .string ⟨#[]⟩, .slice none 0 0] 26)).alloc (Obj.cells #[.int .i64 (bAt s 0), .int .i64 (bAt s 1), .int .i64 (bAt s 2), .string ⟨#[]⟩, .slice none 0 0] 26 (0, 0))).heap[w.heap.size + 1]? = some (Obj.cells #[.int .i64 (bAt s 0), .int .i64 (bAt s 1), .int .i64 (bAt s 2), .string ⟨#[]⟩, .slice none 0 0] 26 (0, 0)) := by
      have := heap_alloc_new (w.alloc (Obj.cells #[.int .i64 0, .int .i64 0, .int .i64 0, .string ⟨#[]⟩, .slice none 0 0] 26)) (Obj.cells #[.int .i64 (bAt s 0), .int .i64 (bAt s 1), .int .i64 (bAt s 2), .string ⟨#[]⟩, .slice none 0 0] 26 (0, 0))
      have e : (w.alloc (Obj.cells #[.int .i64 0, .int .i64 0, .int .i64 0, .string ⟨#[]⟩, .slice none 0 0] 26)).heap.size = w.heap.size + 1 := by simp
      rw [e] at this
      exact this
    exact ⟨0, 4, .slice none 0 0, rfl, Nat.zero_le _, rfl, rfl, rfl, (((Grow.refl w).alloc _).alloc _).drew, by simp, (Below.heap_alloc _ _ _ (by simp)).trans (heap_alloc_new w _), hnew, World.ownsRow_nil _ _ _ _⟩
  case round =>
    obtain ⟨k, p, v, hpk, hk, rfl, rfl, hno, hG, hsz, ha, hb, hown⟩ := hrel
    have HN : Hid (linksStop s 4 k = none) := hno
    have hpos := linksStop_lt s 4 k hno h4
    have hpb : (p : Int) ≤ 600 := by omega
    clear hno
    by_cases hkm : k < bAt s 3
    · have hkm' : (k : Int) < (bAt s 3 : Int) := by omega
      by_cases h1 : s.size < p + 1
      · have HD : Hid (decErr s = 5) := dec_link h4 hg hkm HN.out (by rw [← hpk]; exact id_late h1)
        have HP : Hid (p = 4 + k * 2) := hpk
        have y1 : decide ((p : Int) < (s.size : Int)) = false := by simp; omega
        have y2 : (s.size : Int) < (p : Int) + 2 := by omega
        clear hpk
        have d0 := cell_of_block (o := 0) ha rfl; simp at d0
        have d1 := cell_of_block (o := 1) ha rfl; simp at d1
        have d2 := cell_of_block (o := 2) ha rfl; simp at d2
        have d3 := cell_of_block (o := 3) ha rfl; simp at d3
        have d4 := cell_of_block (o := 4) ha rfl; simp at d4
        have f0 := free_of_block ha 0
        have f1 := free_of_block ha 1
        have f2 := free_of_block ha 2
        have f3 := free_of_block ha 3
        have f4 := free_of_block ha 4
        go_wp2
        have aW := (block_set (o := 4) (v := .slice none 0 0) (block_set (o := 3) (v := .string ⟨#[]⟩) (block_set (o := 2) (v := .int .i64 0) (block_set (o := 1) (v := .int .i64 0) (block_set (o := 0) (v := .int .i64 0) ha)))))
        have GW := (Grow.setCell (Grow.setCell (Grow.setCell (Grow.setCell (Grow.setCell hG (p := ⟨w.heap.size, 0, none⟩) (by simp) (.int .i64 0)) (p := ⟨w.heap.size, 1, none⟩) (by simp) (.int .i64 0)) (p := ⟨w.heap.size, 2, none⟩) (by simp) (.int .i64 0)) (p := ⟨w.heap.size, 3, none⟩) (by simp) (.string ⟨#[]⟩)) (p := ⟨w.heap.size, 4, none⟩) (by simp) (.slice none 0 0))
        simp only [List.setIfInBounds_toArray, List.set_cons_zero, List.set_cons_succ] at aW
        clear d0 d1 d2 d3 d4 f0 f1 f2 f3 f4
        generalize (((((wr.setCell ⟨w.heap.size, 0, none⟩ (.int .i64 0)).setCell ⟨w.heap.size, 1, none⟩ (.int .i64 0)).setCell ⟨w.heap.size, 2, none⟩ (.int .i64 0)).setCell ⟨w.heap.size, 3, none⟩ (.string ⟨#[]⟩)).setCell ⟨w.heap.size, 4, none⟩ (.slice none 0 0)) = W at *
        have q0 := cell_of_block (o := 0) aW rfl; simp at q0
        have q1 := cell_of_block (o := 1) aW rfl; simp at q1
        have q2 := cell_of_block (o := 2) aW rfl; simp at q2
        have q3 := cell_of_block (o := 3) aW rfl; simp at q3
        have q4 := cell_of_block (o := 4) aW rfl; simp at q4
        exact bodyPost_ret (v := .tuple #[.agg #[.int .i64 0, .int .i64 0, .int .i64 0, .string ⟨#[]⟩, .slice none 0 0], .int .i64 0, .int .i64 5]) (by simp [results, Try.results13, go_sem, q0, q1, q2, q3, q4]) rfl ⟨GW, .inl ⟨by rw [HD.out]; decide, by rw [HD.out]⟩⟩
      by_cases h2 : 1 < bAt s p
      · have HD : Hid (decErr s = 1) := dec_link h4 hg hkm HN.out (by rw [← hpk]; exact id_form h1 h2)
        have HP : Hid (p = 4 + k * 2) := hpk
        have y1 : (p : Int) < (s.size : Int) := by omega
        have y2 : (1 : Int) < (bAt s p : Int) := by omega
        clear hpk
        have d0 := cell_of_block (o := 0) ha rfl; simp at d0
        have d1 := cell_of_block (o := 1) ha rfl; simp at d1
        have d2 := cell_of_block (o := 2) ha rfl; simp at d2
        have d3 := cell_of_block (o := 3) ha rfl; simp at d3
        have d4 := cell_of_block (o := 4) ha rfl; simp at d4
        have f0 := free_of_block ha 0
        have f1 := free_of_block ha 1
        have f2 := free_of_block ha 2
        have f3 := free_of_block ha 3
        have f4 := free_of_block ha 4
        go_wp2
        have aW := (block_set (o := 4) (v := .slice none 0 0) (block_set (o := 3) (v := .string ⟨#[]⟩) (block_set (o := 2) (v := .int .i64 0) (block_set (o := 1) (v := .int .i64 0) (block_set (o := 0) (v := .int .i64 0) ha)))))
        have GW := (Grow.setCell (Grow.setCell (Grow.setCell (Grow.setCell (Grow.setCell hG (p := ⟨w.heap.size, 0, none⟩) (by simp) (.int .i64 0)) (p := ⟨w.heap.size, 1, none⟩) (by simp) (.int .i64 0)) (p := ⟨w.heap.size, 2, none⟩) (by simp) (.int .i64 0)) (p := ⟨w.heap.size, 3, none⟩) (by simp) (.string ⟨#[]⟩)) (p := ⟨w.heap.size, 4, none⟩) (by simp) (.slice none 0 0))
        simp only [List.setIfInBounds_toArray, List.set_cons_zero, List.set_cons_succ] at aW
        clear d0 d1 d2 d3 d4 f0 f1 f2 f3 f4
        generalize (((((wr.setCell ⟨w.heap.size, 0, none⟩ (.int .i64 0)).setCell ⟨w.heap.size, 1, none⟩ (.int .i64 0)).setCell ⟨w.heap.size, 2, none⟩ (.int .i64 0)).setCell ⟨w.heap.size, 3, none⟩ (.string ⟨#[]⟩)).setCell ⟨w.heap.size, 4, none⟩ (.slice none 0 0)) = W at *
        have q0 := cell_of_block (o := 0) aW rfl; simp at q0
        have q1 := cell_of_block (o := 1) aW rfl; simp at q1
        have q2 := cell_of_block (o := 2) aW rfl; simp at q2
        have q3 := cell_of_block (o := 3) aW rfl; simp at q3
        have q4 := cell_of_block (o := 4) aW rfl; simp at q4
        exact bodyPost_ret (v := .tuple #[.agg #[.int .i64 0, .int .i64 0, .int .i64 0, .string ⟨#[]⟩, .slice none 0 0], .int .i64 0, .int .i64 1]) (by simp [results, Try.results13, go_sem, q0, q1, q2, q3, q4]) rfl ⟨GW, .inl ⟨by rw [HD.out]; decide, by rw [HD.out]⟩⟩
      by_cases h3 : s.size < p + 2
      · have HD : Hid (decErr s = 5) := dec_link h4 hg hkm HN.out (by rw [← hpk]; exact id_half h1 h2 h3)
        have HP : Hid (p = 4 + k * 2) := hpk
        have y1 : (p : Int) < (s.size : Int) := by omega
        have y2 : (bAt s p : Int) ≤ 1 := by omega
        have y3 : (s.size : Int) < (p : Int) + 2 := by omega
        clear hpk
        have d0 := cell_of_block (o := 0) ha rfl; simp at d0
        have d1 := cell_of_block (o := 1) ha rfl; simp at d1
        have d2 := cell_of_block (o := 2) ha rfl; simp at d2
        have d3 := cell_of_block (o := 3) ha rfl; simp at d3
        have d4 := cell_of_block (o := 4) ha rfl; simp at d4
        have f0 := free_of_block ha 0
        have f1 := free_of_block ha 1
        have f2 := free_of_block ha 2
        have f3 := free_of_block ha 3
        have f4 := free_of_block ha 4
        go_wp2
        have aW := (block_set (o := 4) (v := .slice none 0 0) (block_set (o := 3) (v := .string ⟨#[]⟩) (block_set (o := 2) (v := .int .i64 0) (block_set (o := 1) (v := .int .i64 0) (block_set (o := 0) (v := .int .i64 0) ha)))))
        have GW := (Grow.setCell (Grow.setCell (Grow.setCell (Grow.setCell (Grow.setCell hG (p := ⟨w.heap.size, 0, none⟩) (by simp) (.int .i64 0)) (p := ⟨w.heap.size, 1, none⟩) (by simp) (.int .i64 0)) (p := ⟨w.heap.size, 2, none⟩) (by simp) (.int .i64 0)) (p := ⟨w.heap.size, 3, none⟩) (by simp) (.string ⟨#[]⟩)) (p := ⟨w.heap.size, 4, none⟩) (by simp) (.slice none 0 0))
        simp only [List.setIfInBounds_toArray, List.set_cons_zero, List.set_cons_succ] at aW
        clear d0 d1 d2 d3 d4 f0 f1 f2 f3 f4
        generalize (((((wr.setCell ⟨w.heap.size, 0, none⟩ (.int .i64 0)).setCell ⟨w.heap.size, 1, none⟩ (.int .i64 0)).setCell ⟨w.heap.size, 2, none⟩ (.int .i64 0)).setCell ⟨w.heap.size, 3, none⟩ (.string ⟨#[]⟩)).setCell ⟨w.heap.size, 4, none⟩ (.slice none 0 0)) = W at *
        have q0 := cell_of_block (o := 0) aW rfl; simp at q0
        have q1 := cell_of_block (o := 1) aW rfl; simp at q1
        have q2 := cell_of_block (o := 2) aW rfl; simp at q2
        have q3 := cell_of_block (o := 3) aW rfl; simp at q3
        have q4 := cell_of_block (o := 4) aW rfl; simp at q4
        exact bodyPost_ret (v := .tuple #[.agg #[.int .i64 0, .int .i64 0, .int .i64 0, .string ⟨#[]⟩, .slice none 0 0], .int .i64 0, .int .i64 5]) (by simp [results, Try.results13, go_sem, q0, q1, q2, q3, q4]) rfl ⟨GW, .inl ⟨by rw [HD.out]; decide, by rw [HD.out]⟩⟩
      have HX : Hid (idStop s p = none) := by
        have : isReg (bAt s p : Int) = true := by rw [reg_gt]; simpa using h2
        show idStop s p = none
        rw [idStop, if_neg h1, this, if_neg h3]; rfl
      have u0 : (p : Int) < (s.size : Int) := by omega
      have u1 : (bAt s p : Int) ≤ 1 := by omega
      have u2 : (p : Int) + 2 ≤ (s.size : Int) := by omega
      have u3 : (p : Int) + 1 < (s.size : Int) := by omega
      have u4 : (0 : Int) ≤ (p : Int) + 1 := by omega
      have u5 : ((p : Int) + 1).toNat = p + 1 := by omega
      have u6 : IntKind.i64.wrap ((p : Int) + 1) = (p : Int) + 1 := by rw [IntKind.wrap_i64]; omega
      have z4 := bAt_lt s p
      have z5 := bAt_lt s (p + 1)
      have cb4 := cell_of_block (o := 4) hb rfl
      have fb4 := free_of_block hb 4
      have HP : Hid (p = 4 + k * 2) := hpk
      clear hpk
      go_wp2_with fail
      have cb5 := cell_grow (Grow.refl wr).drew cb4
      refine wp_region_path [(0, 0), (1, 0), (2, 0), (3, 0), (6, 0), (7, 0), (4, 2), (5, 2), (8, 2), (9, 2), (10, 2), (11, 2), (12, 1), (13, 3), (14, 0), (15, 3)] (by kernel_rfl) (by kernel_rfl) (by kernel_rfl) (by kernel_rfl) ?_
      simp only [parts, headed, headed2, List.getElem?_toArray, List.getElem?_cons_zero, List.getElem?_cons_succ]
      refine parts_step fun K HK => ?_
      go_wp2_with fail
      refine HK.out _ _ (Grow.refl _) ?_
      clear HK K
      refine parts_step2 (fun hw => by first | (cases hw; done) | (apply looks_run; intro w'; go_simp; try first | rfl | rw [if_neg (by omega)])) fun K HK => ?_
      go_wp2_with fail
      refine HK.out _ _ (Grow.refl _) ?_
      clear HK K
      refine parts_step2 (fun hw => by first | (cases hw; done) | (apply looks_run; intro w'; go_simp; try first | rfl | rw [if_neg (by omega)])) fun K HK => ?_
      go_wp2_with fail
      refine HK.out _ _ (Grow.refl _) ?_
      clear HK K
      refine parts_step2 (fun hw => by first | (cases hw; done) | (apply looks_run; intro w'; go_simp; try first | rfl | rw [if_neg (by omega)])) fun K HK => ?_
      go_wp2_with fail
      refine HK.out _ _ (Grow.refl _) ?_
      clear HK K
      refine parts_step2 (fun hw => by first | (cases hw; done) | (apply looks_run; intro w'; go_simp; try first | rfl | rw [if_neg (by omega)])) fun K HK => ?_
      go_wp2_with fail
      refine HK.out _ _ (Grow.refl _) ?_
      clear HK K
      refine parts_step2 (fun hw => by first | (cases hw; done) | (apply looks_run; intro w'; go_simp; try first | rfl | rw [if_neg (by omega)])) fun K HK => ?_
      go_wp2_with fail
      refine HK.out _ _ (Grow.refl _) ?_
      clear HK K
      refine parts_step2 (fun hw => by first | (cases hw; done) | (apply looks_run; intro w'; go_simp; try first | rfl | rw [if_neg (by omega)])) fun K HK => ?_
      go_wp2_with fail
      refine HK.out _ _ ((Grow.refl wr.drew).alloc _) ?_
      clear HK K
      refine parts_cut fun K HK => ?_
      go_wp2_with (at_builtin; go_must (refine wpList_append_lies _ (by rfl) _ _ 24 (by rfl) (w.heap.size + 2) 23 i0 (.agg #[.int .i64 0, .int .i64 0]) 2 16 Try.underlying24 hi hzz0 hzz1 hzz2 (by rfl) (by decide) v k (linkVals s 4 k) (by rfl) ((hown.alloc _).drew) ⟨wr.heap.size, 0, none⟩ 1 1 [.int .i64 (bAt s p), .int .i64 (bAt s (p + 1))] (by rfl) (by rfl) (World.news_of_block (cs := #[.int .i64 (bAt s p), .int .i64 (bAt s (p + 1))]) (t := 23) (fr := (0, 0)) (heap_alloc_new wr _)) (by intro u hu; simp at hu; rcases hu with rfl | rfl <;> rfl) (by decide) (by unfold maxLen; omega) (by omega) (by simp; omega) (wr.heap.size + 1) (by simp) ?_; intro g cap' w3 hown3 hgrow hat hltg))
      refine HK.out _ _ ?_
      clear HK K
      have hb3 : w3.heap[w.heap.size + 1]? = some (Obj.cells #[.int .i64 (bAt s 0), .int .i64 (bAt s 1), .int .i64 (bAt s 2), .string ⟨#[]⟩, v] 26 (0, 0)) := block_grown (w := wr.drew) hgrow (own_ne hown (by omega)) hb
      have ha3 : w3.heap[w.heap.size]? = some (Obj.cells #[.int .i64 0, .int .i64 0, .int .i64 0, .string ⟨#[]⟩, .slice none 0 0] 26 (0, 0)) := block_grown (w := wr.drew) hgrow (own_ne hown (by omega)) ha
      have hG3 : Grow w w3 := grow_grown (w2 := wr.drew) hG.drew hown (by omega) hgrow
      have cb3 := cell_of_block (o := 4) hb3 rfl
      have fb3 := free_of_block hb3 4
      refine parts_cut fun K HK => ?_
      go_wp2_with fail
      refine HK.out _ _ ?_
      clear HK K
      refine parts_step fun K HK => ?_
      go_wp2_with fail
      refine HK.out _ _ (Grow.refl _) ?_
      clear HK K
      refine parts_done ?_
      go_wp2
      have b4 := block_set (o := 4) (v := .slice (some ⟨g, 0, none⟩) (k + 1) cap') hb3
      simp only [List.setIfInBounds_toArray, List.set_cons_zero, List.set_cons_succ] at b4
      have hsz3 := hgrow.size
      have hnl : linkVals s 4 (k + 1) = linkVals s 4 k ++ [.int .i64 (bAt s p), .int .i64 (bAt s (p + 1))] := by rw [linkVals_succ, HP.out]
      go_roundw
      case rel =>
        refine ⟨k + 1, p + 2, _, by rw [HP.out]; omega, by omega, by go_num, by go_num, by rw [linksStop_step _ _ _ HN.out, ← HP.out]; exact HX.out, hG3.setCell (by simp) _, ?_, block_far (by simp) ha3, b4, ownsRow_far ?_ (by simp) _⟩
        · simp at hsz3 ⊢; omega
        · rw [hnl]; exact hown3
      case measure => simp [intOf]; omega
    · obtain rfl : k = bAt s 3 := by omega
      by_cases h5 : s.size < p + 1
      · have HD : Hid (decErr s = 5) := dec_text h4 hg HN.out (.inl (by omega))
        have HP : Hid (p = 4 + bAt s 3 * 2) := hpk
        have y1 : (s.size : Int) ≤ (p : Int) := by omega
        clear hpk
        have d0 := cell_of_block (o := 0) ha rfl; simp at d0
        have d1 := cell_of_block (o := 1) ha rfl; simp at d1
        have d2 := cell_of_block (o := 2) ha rfl; simp at d2
        have d3 := cell_of_block (o := 3) ha rfl; simp at d3
        have d4 := cell_of_block (o := 4) ha rfl; simp at d4
        have f0 := free_of_block ha 0
        have f1 := free_of_block ha 1
        have f2 := free_of_block ha 2
        have f3 := free_of_block ha 3
        have f4 := free_of_block ha 4
        go_wp2
        have aW := (block_set (o := 4) (v := .slice none 0 0) (block_set (o := 3) (v := .string ⟨#[]⟩) (block_set (o := 2) (v := .int .i64 0) (block_set (o := 1) (v := .int .i64 0) (block_set (o := 0) (v := .int .i64 0) ha)))))
        have GW := (Grow.setCell (Grow.setCell (Grow.setCell (Grow.setCell (Grow.setCell hG (p := ⟨w.heap.size, 0, none⟩) (by simp) (.int .i64 0)) (p := ⟨w.heap.size, 1, none⟩) (by simp) (.int .i64 0)) (p := ⟨w.heap.size, 2, none⟩) (by simp) (.int .i64 0)) (p := ⟨w.heap.size, 3, none⟩) (by simp) (.string ⟨#[]⟩)) (p := ⟨w.heap.size, 4, none⟩) (by simp) (.slice none 0 0))
        simp only [List.setIfInBounds_toArray, List.set_cons_zero, List.set_cons_succ] at aW
        clear d0 d1 d2 d3 d4 f0 f1 f2 f3 f4
        generalize (((((wr.setCell ⟨w.heap.size, 0, none⟩ (.int .i64 0)).setCell ⟨w.heap.size, 1, none⟩ (.int .i64 0)).setCell ⟨w.heap.size, 2, none⟩ (.int .i64 0)).setCell ⟨w.heap.size, 3, none⟩ (.string ⟨#[]⟩)).setCell ⟨w.heap.size, 4, none⟩ (.slice none 0 0)) = W at *
        have q0 := cell_of_block (o := 0) aW rfl; simp at q0
        have q1 := cell_of_block (o := 1) aW rfl; simp at q1
        have q2 := cell_of_block (o := 2) aW rfl; simp at q2
        have q3 := cell_of_block (o := 3) aW rfl; simp at q3
        have q4 := cell_of_block (o := 4) aW rfl; simp at q4
        exact bodyPost_ret (v := .tuple #[.agg #[.int .i64 0, .int .i64 0, .int .i64 0, .string ⟨#[]⟩, .slice none 0 0], .int .i64 0, .int .i64 5]) (by simp [results, Try.results13, go_sem, q0, q1, q2, q3, q4]) rfl ⟨GW, .inl ⟨by rw [HD.out]; decide, by rw [HD.out]⟩⟩
      have z6 := bAt_lt s p
      by_cases h6 : s.size < p + 1 + bAt s p
      · have HD : Hid (decErr s = 5) := dec_text h4 hg HN.out (.inr (by rw [← hpk]; omega))
        have HP : Hid (p = 4 + bAt s 3 * 2) := hpk
        have y1 : (p : Int) < (s.size : Int) := by omega
        have y2 : (s.size : Int) < (p : Int) + 1 + (bAt s p : Int) := by omega
        clear hpk
        have d0 := cell_of_block (o := 0) ha rfl; simp at d0
        have d1 := cell_of_block (o := 1) ha rfl; simp at d1
        have d2 := cell_of_block (o := 2) ha rfl; simp at d2
        have d3 := cell_of_block (o := 3) ha rfl; simp at d3
        have d4 := cell_of_block (o := 4) ha rfl; simp at d4
        have f0 := free_of_block ha 0
        have f1 := free_of_block ha 1
        have f2 := free_of_block ha 2
        have f3 := free_of_block ha 3
        have f4 := free_of_block ha 4
        go_wp2
        have aW := (block_set (o := 4) (v := .slice none 0 0) (block_set (o := 3) (v := .string ⟨#[]⟩) (block_set (o := 2) (v := .int .i64 0) (block_set (o := 1) (v := .int .i64 0) (block_set (o := 0) (v := .int .i64 0) ha)))))
        have GW := (Grow.setCell (Grow.setCell (Grow.setCell (Grow.setCell (Grow.setCell hG (p := ⟨w.heap.size, 0, none⟩) (by simp) (.int .i64 0)) (p := ⟨w.heap.size, 1, none⟩) (by simp) (.int .i64 0)) (p := ⟨w.heap.size, 2, none⟩) (by simp) (.int .i64 0)) (p := ⟨w.heap.size, 3, none⟩) (by simp) (.string ⟨#[]⟩)) (p := ⟨w.heap.size, 4, none⟩) (by simp) (.slice none 0 0))
        simp only [List.setIfInBounds_toArray, List.set_cons_zero, List.set_cons_succ] at aW
        clear d0 d1 d2 d3 d4 f0 f1 f2 f3 f4
        generalize (((((wr.setCell ⟨w.heap.size, 0, none⟩ (.int .i64 0)).setCell ⟨w.heap.size, 1, none⟩ (.int .i64 0)).setCell ⟨w.heap.size, 2, none⟩ (.int .i64 0)).setCell ⟨w.heap.size, 3, none⟩ (.string ⟨#[]⟩)).setCell ⟨w.heap.size, 4, none⟩ (.slice none 0 0)) = W at *
        have q0 := cell_of_block (o := 0) aW rfl; simp at q0
        have q1 := cell_of_block (o := 1) aW rfl; simp at q1
        have q2 := cell_of_block (o := 2) aW rfl; simp at q2
        have q3 := cell_of_block (o := 3) aW rfl; simp at q3
        have q4 := cell_of_block (o := 4) aW rfl; simp at q4
        exact bodyPost_ret (v := .tuple #[.agg #[.int .i64 0, .int .i64 0, .int .i64 0, .string ⟨#[]⟩, .slice none 0 0], .int .i64 0, .int .i64 5]) (by simp [results, Try.results13, go_sem, q0, q1, q2, q3, q4]) rfl ⟨GW, .inl ⟨by rw [HD.out]; decide, by rw [HD.out]⟩⟩
      obtain ⟨a, cap, rfl, hnew, hids⟩ := idsAt_row (by omega) hown
      have hids' : IdsAt wr a (bAt s 3) (entryR s) (entryN s) := hids
      have hd := dec_check h4 hg HN.out (by rw [← hpk]; omega)
      have HT : Hid ((entryText s).size = bAt s p) := by show (entryText s).size = bAt s p; rw [(entryText_size hd.1).1, hpk]
      have HE : Hid (s.extract (p + 1) (p + 1 + bAt s p) = entryText s) := by show s.extract (p + 1) (p + 1 + bAt s p) = entryText s; unfold entryText entrySize; rw [hpk]; congr 1 <;> omega
      have HZ : Hid (p + 1 + bAt s p = entrySize s) := by show p + 1 + bAt s p = entrySize s; unfold entrySize; rw [hpk]; omega
      have HC : Hid (decErr s = checkErr (bAt s 0) (bAt s 1) (bAt s 2) (entryText s).size (bAt s 3) (entryR s) (entryN s)) := hd.2
      have HP : Hid (p = 4 + bAt s 3 * 2) := hpk
      have y1 : (p : Int) < (s.size : Int) := by omega
      have y2 : (p : Int) + 1 + (bAt s p : Int) ≤ (s.size : Int) := by omega
      have y3 : (0 : Int) ≤ (p : Int) + 1 := by omega
      have y4 : (p : Int) + 1 ≤ (p : Int) + 1 + (bAt s p : Int) := by omega
      have y5 : ((p : Int) + 1).toNat = p + 1 := by omega
      have y6 : ((p : Int) + 1 + (bAt s p : Int)).toNat = p + 1 + bAt s p := by omega
      clear hpk hd hids hown
      have d0 := cell_of_block (o := 0) hb rfl; simp at d0
      have d1 := cell_of_block (o := 1) hb rfl; simp at d1
      have d2 := cell_of_block (o := 2) hb rfl; simp at d2
      have d3 := cell_of_block (o := 3) hb rfl; simp at d3
      have d4 := cell_of_block (o := 4) hb rfl; simp at d4
      have f3 := free_of_block hb 3
      go_wp2_with fail
      have b4 := block_set (o := 3) (v := .string (s.extract (p + 1) (p + 1 + bAt s p))) hb
      simp only [List.setIfInBounds_toArray, List.set_cons_zero, List.set_cons_succ] at b4
      have a4 : (wr.setCell ⟨w.heap.size + 1, 3, none⟩ (.string (s.extract (p + 1) (p + 1 + bAt s p)))).heap[w.heap.size]? = some (Obj.cells #[.int .i64 0, .int .i64 0, .int .i64 0, .string ⟨#[]⟩, .slice none 0 0] 26 (0, 0)) := block_far (by simp) ha
      have G4 := hG.setCell (p := ⟨w.heap.size + 1, 3, none⟩) (by simp) (.string (s.extract (p + 1) (p + 1 + bAt s p)))
      have i4 := hids'.far (p := ⟨w.heap.size + 1, 3, none⟩) (fun x hx => by have := hnew x hx; simp only; omega) (.string (s.extract (p + 1) (p + 1 + bAt s p)))
      clear d0 d1 d2 d3 d4 f3 ha hb hG hids' hsz
      generalize wr.setCell ⟨w.heap.size + 1, 3, none⟩ (.string (s.extract (p + 1) (p + 1 + bAt s p))) = W4 at *
      rw [HE.out] at b4 ⊢
      refine (refCheck_any _ _ _ _ _ _ _ (entryR s) (entryN s) _ i4 (by rw [HT.out]; omega)).mono ?_
      rintro e w5 ⟨rfl, g5⟩
      rw [← HC.out]
      have a5 := grow_block g5 a4
      have b5 := grow_block g5 b4
      have G5 := G4.trans g5
      have i5 := i4.grow g5
      clear a4 b4 G4 i4 g5
      by_cases hx : decErr s = 0
      · have HX : Hid (decErr s = 0) := hx
        rw [hx]
        clear hx
        have e0 := cell_of_block (o := 0) b5 rfl; simp at e0
        have e1 := cell_of_block (o := 1) b5 rfl; simp at e1
        have e2 := cell_of_block (o := 2) b5 rfl; simp at e2
        have e3 := cell_of_block (o := 3) b5 rfl; simp at e3
        have e4 := cell_of_block (o := 4) b5 rfl; simp at e4
        have d0 := cell_of_block (o := 0) a5 rfl; simp at d0
        have d1 := cell_of_block (o := 1) a5 rfl; simp at d1
        have d2 := cell_of_block (o := 2) a5 rfl; simp at d2
        have d3 := cell_of_block (o := 3) a5 rfl; simp at d3
        have d4 := cell_of_block (o := 4) a5 rfl; simp at d4
        have f0 := free_of_block a5 0
        have f1 := free_of_block a5 1
        have f2 := free_of_block a5 2
        have f3 := free_of_block a5 3
        have f4 := free_of_block a5 4
        go_wp2
        have aW := (block_set (o := 4) (v := .slice a (bAt s 3) cap) (block_set (o := 3) (v := .string (entryText s)) (block_set (o := 2) (v := .int .i64 (bAt s 2)) (block_set (o := 1) (v := .int .i64 (bAt s 1)) (block_set (o := 0) (v := .int .i64 (bAt s 0)) a5)))))
        have GW := (Grow.setCell (Grow.setCell (Grow.setCell (Grow.setCell (Grow.setCell G5 (p := ⟨w.heap.size, 0, none⟩) (by simp) (.int .i64 (bAt s 0))) (p := ⟨w.heap.size, 1, none⟩) (by simp) (.int .i64 (bAt s 1))) (p := ⟨w.heap.size, 2, none⟩) (by simp) (.int .i64 (bAt s 2))) (p := ⟨w.heap.size, 3, none⟩) (by simp) (.string (entryText s))) (p := ⟨w.heap.size, 4, none⟩) (by simp) (.slice a (bAt s 3) cap))
        have iW := (IdsAt.far (IdsAt.far (IdsAt.far (IdsAt.far (IdsAt.far i5 (p := ⟨w.heap.size, 0, none⟩) (fun x hx => by have := hnew x hx; simp only; omega) (.int .i64 (bAt s 0))) (p := ⟨w.heap.size, 1, none⟩) (fun x hx => by have := hnew x hx; simp only; omega) (.int .i64 (bAt s 1))) (p := ⟨w.heap.size, 2, none⟩) (fun x hx => by have := hnew x hx; simp only; omega) (.int .i64 (bAt s 2))) (p := ⟨w.heap.size, 3, none⟩) (fun x hx => by have := hnew x hx; simp only; omega) (.string (entryText s))) (p := ⟨w.heap.size, 4, none⟩) (fun x hx => by have := hnew x hx; simp only; omega) (.slice a (bAt s 3) cap))
        simp only [List.setIfInBounds_toArray, List.set_cons_zero, List.set_cons_succ] at aW
        clear d0 d1 d2 d3 d4 f0 f1 f2 f3 f4 e0 e1 e2 e3 e4
        generalize (((((w5.setCell ⟨w.heap.size, 0, none⟩ (.int .i64 (bAt s 0))).setCell ⟨w.heap.size, 1, none⟩ (.int .i64 (bAt s 1))).setCell ⟨w.heap.size, 2, none⟩ (.int .i64 (bAt s 2))).setCell ⟨w.heap.size, 3, none⟩ (.string (entryText s))).setCell ⟨w.heap.size, 4, none⟩ (.slice a (bAt s 3) cap)) = W at *
        have q0 := cell_of_block (o := 0) aW rfl; simp at q0
        have q1 := cell_of_block (o := 1) aW rfl; simp at q1
        have q2 := cell_of_block (o := 2) aW rfl; simp at q2
        have q3 := cell_of_block (o := 3) aW rfl; simp at q3
        have q4 := cell_of_block (o := 4) aW rfl; simp at q4
        have hZ : (p : Int) + 1 + (bAt s p : Int) = (entrySize s : Int) := by have := HZ.out; omega
        exact bodyPost_ret (v := .tuple #[.agg #[.int .i64 (bAt s 0), .int .i64 (bAt s 1), .int .i64 (bAt s 2), .string (entryText s), .slice a (bAt s 3) cap], .int .i64 (entrySize s), .int .i64 0]) (by simp [results, Try.results13, go_sem, q0, q1, q2, q3, q4, hZ]) rfl ⟨GW, .inr ⟨HX.out, a, cap, rfl, iW⟩⟩
      · have HX : Hid (decErr s ≠ 0) := hx
        have hx0 : (decErr s == 0) = false := by simpa using hx
        have hx1 : (decErr s != 0) = true := by simpa using hx
        clear hx
        have d0 := cell_of_block (o := 0) a5 rfl; simp at d0
        have d1 := cell_of_block (o := 1) a5 rfl; simp at d1
        have d2 := cell_of_block (o := 2) a5 rfl; simp at d2
        have d3 := cell_of_block (o := 3) a5 rfl; simp at d3
        have d4 := cell_of_block (o := 4) a5 rfl; simp at d4
        have f0 := free_of_block a5 0
        have f1 := free_of_block a5 1
        have f2 := free_of_block a5 2
        have f3 := free_of_block a5 3
        have f4 := free_of_block a5 4
        go_wp2
        have aW := (block_set (o := 4) (v := .slice none 0 0) (block_set (o := 3) (v := .string ⟨#[]⟩) (block_set (o := 2) (v := .int .i64 0) (block_set (o := 1) (v := .int .i64 0) (block_set (o := 0) (v := .int .i64 0) a5)))))
        have GW := (Grow.setCell (Grow.setCell (Grow.setCell (Grow.setCell (Grow.setCell G5 (p := ⟨w.heap.size, 0, none⟩) (by simp) (.int .i64 0)) (p := ⟨w.heap.size, 1, none⟩) (by simp) (.int .i64 0)) (p := ⟨w.heap.size, 2, none⟩) (by simp) (.int .i64 0)) (p := ⟨w.heap.size, 3, none⟩) (by simp) (.string ⟨#[]⟩)) (p := ⟨w.heap.size, 4, none⟩) (by simp) (.slice none 0 0))
        simp only [List.setIfInBounds_toArray, List.set_cons_zero, List.set_cons_succ] at aW
        clear d0 d1 d2 d3 d4 f0 f1 f2 f3 f4
        generalize (((((w5.setCell ⟨w.heap.size, 0, none⟩ (.int .i64 0)).setCell ⟨w.heap.size, 1, none⟩ (.int .i64 0)).setCell ⟨w.heap.size, 2, none⟩ (.int .i64 0)).setCell ⟨w.heap.size, 3, none⟩ (.string ⟨#[]⟩)).setCell ⟨w.heap.size, 4, none⟩ (.slice none 0 0)) = W at *
        have q0 := cell_of_block (o := 0) aW rfl; simp at q0
        have q1 := cell_of_block (o := 1) aW rfl; simp at q1
        have q2 := cell_of_block (o := 2) aW rfl; simp at q2
        have q3 := cell_of_block (o := 3) aW rfl; simp at q3
        have q4 := cell_of_block (o := 4) aW rfl; simp at q4
        exact bodyPost_ret (v := .tuple #[.agg #[.int .i64 0, .int .i64 0, .int .i64 0, .string ⟨#[]⟩, .slice none 0 0], .int .i64 0, .int .i64 (decErr s)]) (by simp [results, Try.results13, go_sem, q0, q1, q2, q3, q4]) rfl ⟨GW, .inl ⟨HX.out, rfl⟩⟩

set_option maxHeartbeats 1000000 in
theorem entryOf_any (s : ByteArray) (w : World) (hs : s.size ≤ 1152921504606846976) :
    Calls Try.prog 13 #[.string s] w fun e w' => Grow w w' ∧ ((decErr s ≠ 0 ∧ e = .returned (.tuple #[.agg #[.int .i64 0, .int .i64 0, .int .i64 0, .string ⟨#[]⟩, .slice none 0 0], .int .i64 0, .int .i64 (decErr s)])) ∨
      (decErr s = 0 ∧ ∃ a cap, e = .returned (.tuple #[.agg #[.int .i64 (bAt s 0), .int .i64 (bAt s 1), .int .i64 (bAt s 2), .string (entryText s), .slice a (bAt s 3) cap], .int .i64 (entrySize s), .int .i64 0]) ∧ IdsAt w' a (bAt s 3) (entryR s) (entryN s))) := by
  have out : ∀ x : Int, entryStop s = some x → EarlyOut s w x → Calls Try.prog 13 #[.string s] w fun e w' => Grow w w' ∧ ((decErr s ≠ 0 ∧ e = .returned (.tuple #[.agg #[.int .i64 0, .int .i64 0, .int .i64 0, .string ⟨#[]⟩, .slice none 0 0], .int .i64 0, .int .i64 (decErr s)])) ∨
      (decErr s = 0 ∧ ∃ a cap, e = .returned (.tuple #[.agg #[.int .i64 (bAt s 0), .int .i64 (bAt s 1), .int .i64 (bAt s 2), .string (entryText s), .slice a (bAt s 3) cap], .int .i64 (entrySize s), .int .i64 0]) ∧ IdsAt w' a (bAt s 3) (entryR s) (entryN s))) := fun x hx h => by
    have hd : decErr s = x := by unfold decErr; rw [hx]
    have hne : x ≠ 0 := by have := entryStop_ne hx; omega
    refine Calls.mono h ?_
    rintro e w1 ⟨g, rfl⟩
    exact ⟨g, .inl ⟨by rw [hd]; exact hne, by rw [hd]⟩⟩
  by_cases h0 : s.size = 0
  · refine out 5 ?_ (entryOf_empty s w h0)
    unfold entryStop
    rw [id_late (by omega)]
  by_cases h1 : 1 < bAt s 0
  · refine out 1 ?_ (entryOf_form s w (by omega) h1)
    unfold entryStop
    rw [id_form (by omega) h1]
  by_cases h4 : s.size < 4
  · refine out 5 ?_ (entryOf_short s w (by omega) (by omega) h4)
    unfold entryStop
    by_cases h2 : s.size < 2
    · rw [id_half (by omega) h1 (by omega)]
    · have : idStop s 0 = none := by
        have : isReg (bAt s 0 : Int) = true := by rw [reg_gt]; simpa using h1
        rw [idStop, if_neg (by omega), this, if_neg (by decide), if_neg (by omega)]
      rw [this]
      simp only
      by_cases h3 : s.size < 3
      · rw [if_pos h3]
      · rw [if_neg h3, if_pos h4]
  exact entryOf_long s w hs (by omega) (by omega)
end Go.Proofs.Ytikdncgjaomlcaa
