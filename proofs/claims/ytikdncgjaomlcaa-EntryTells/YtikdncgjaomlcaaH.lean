/- (*entry.reader).entry: what it answers, or with what it gives up. -/
import Derived.Test.YtikdncgjaomlcaaG
namespace Go.Proofs.Ytikdncgjaomlcaa
open Go.RowKit

theorem block_set {w : World} {b o : Nat} {cs : Array Value} {t : TypeId} {v : Value} (h : w.heap[b]? = some (.cells cs t (0, 0))) : (w.setCell ⟨b, o, none⟩ v).heap[b]? = some (.cells (cs.setIfInBounds o v) t (0, 0)) := by
  have hlt := lt_of_block h
  have h' : w.heap[b] = .cells cs t (0, 0) := by simpa [Array.getElem?_eq_getElem hlt] using h
  show (w.heap.modify b _)[b]? = _
  rw [Array.getElem?_eq_getElem (by simpa using hlt), Array.getElem_modify_self, h']
  rfl
theorem block_far {w : World} {b : Nat} {o : Obj} {a : Addr} {v : Value} (hn : b ≠ a.block) (h : w.heap[b]? = some o) : (w.setCell a v).heap[b]? = some o := (Below.heap_setCell _ _ _ _ hn).trans h

theorem IdsAt.far {w : World} {a : Option Addr} {len : Nat} {R N : Nat → Int} (h : IdsAt w a len R N) {p : Addr} (hp : ∀ x, a = some x → p.block ≠ x.block) (v : Value) : IdsAt (w.setCell p v) a len R N := by
  refine ⟨h.1, ?_⟩
  rcases h.2 with h2 | ⟨b, off, ha, c0, c1⟩
  · exact .inl h2
  · have hb := hp _ ha
    simp only at hb
    exact .inr ⟨b, off, ha, fun k hk => by rw [World.cell?_setCell_other _ _ _ _ (fun e => hb (by rw [e]))]; exact c0 k hk, fun k hk => by rw [World.cell?_setCell_other _ _ _ _ (fun e => hb (by rw [e]))]; exact c1 k hk⟩
theorem IdsAt.turn {br : Nat} {w w' : World} {a : Option Addr} {len : Nat} {R N : Nat → Int} (h : IdsAt w a len R N) (t : Turn br w w') (hp : ∀ x, a = some x → x.block ≠ br) : IdsAt w' a len R N := by
  refine ⟨h.1, ?_⟩
  rcases h.2 with h2 | ⟨b, off, ha, c0, c1⟩
  · exact .inl h2
  · exact .inr ⟨b, off, ha, fun k hk => t.cell (a := ⟨b, off + k * 2, none⟩) (hp ⟨b, off, none⟩ ha) (c0 k hk), fun k hk => t.cell (a := ⟨b, off + k * 2 + 1, none⟩) (hp ⟨b, off, none⟩ ha) (c1 k hk)⟩

/-- With what the reader gives up at an entry. -/
def entryStop (s : ByteArray) : Option Int :=
  match idStop s 0 with
  | some x => some x
  | none => if s.size < 3 then some 5 else if s.size < 4 then some 5 else
    match linksStop s 4 (bAt s 3) with
    | some x => some x
    | none => if s.size < 5 + bAt s 3 * 2 then some 5 else if s.size < 5 + bAt s 3 * 2 + bAt s (4 + bAt s 3 * 2) then some 5 else none
/-- How many bytes tell it. -/
def entrySize (s : ByteArray) : Nat := 5 + bAt s 3 * 2 + bAt s (4 + bAt s 3 * 2)
def entryText (s : ByteArray) : ByteArray := s.extract (5 + bAt s 3 * 2) (entrySize s)

set_option maxHeartbeats 1000000 in
theorem links_none (br : Nat) (s : ByteArray) (p : Nat) (w : World) (hr : Reader w br s p) (hp : p ≤ s.size) (h : s.size < p + 1) :
    Calls Try.prog 61 #[.pointer (some ⟨br, 0, none⟩)] w fun e w' => e = .panicked [{ v := brk 5, recovered := false }] ∧ Turn br w w' := by
  go_enter Try.func61, Try.ntmps61
  go_wp2_with (go_at_call 60; refine (number_none br s p _ hr hp h).mono ?_; rintro e w1 ⟨rfl, ht⟩)
  exact ⟨rfl, rfl, ht⟩

set_option maxHeartbeats 4000000 in
theorem entry_any (br : Nat) (s : ByteArray) (w : World) (hr : Reader w br s 0) (hs : s.size ≤ 1152921504606846976) :
    Calls Try.prog 55 #[.pointer (some ⟨br, 0, none⟩)] w fun e w' => Turn br w w' ∧ ((∃ x, entryStop s = some x ∧ e = .panicked [{ v := brk x, recovered := false }]) ∨
      (entryStop s = none ∧ ∃ a cap, e = .returned (.agg #[.int .i64 (bAt s 0), .int .i64 (bAt s 1), .int .i64 (bAt s 2), .string (entryText s), .slice a (bAt s 3) cap]) ∧ (∀ x, a = some x → w.heap.size ≤ x.block) ∧
        IdsAt w' a (bAt s 3) (fun j => bAt s (4 + j * 2)) (fun j => bAt s (4 + j * 2 + 1)) ∧ Reader w' br s (entrySize s))) := by
  have hlt := hr.lt
  have T0 : Turn br w ((w.alloc (Obj.cells #[.int .i64 0, .int .i64 0, .int .i64 0, .string ⟨#[]⟩, .slice none 0 0] 26)).alloc (Obj.cells #[.int .i64 0, .int .i64 0, .int .i64 0, .string ⟨#[]⟩, .slice none 0 0] 26)) := ((Turn.refl _ _).alloc _).alloc _
  cases h1 : idStop s 0 with
  | some x =>
    have H1 : Hid (idStop s 0 = some x) := h1
    clear h1
    go_enter Try.func55, Try.ntmps55
    go_wp2_with fail
    refine (rid_stop br s 0 x _ (hr.grow (((Grow.refl _).alloc _).alloc _)) hs (by omega) H1.out).mono ?_
    rintro e w1 ⟨rfl, t1⟩
    exact ⟨rfl, T0.trans t1, .inl ⟨x, by rw [entryStop, H1.out], rfl⟩⟩
  | none =>
    have H1 : Hid (idStop s 0 = none) := h1
    have k1 := idStop_none h1
    clear h1
    go_enter Try.func55, Try.ntmps55
    go_wp2_with fail
    refine (rid_some br s 0 _ (hr.grow (((Grow.refl _).alloc _).alloc _)) hs k1.1 k1.2).mono ?_
    rintro e w1 ⟨rfl, r1, t1⟩
    have T1 := T0.trans t1
    have a1 := t1.heap (b := w.heap.size) (by omega) ((Below.heap_alloc _ _ _ (by simp)).trans (heap_alloc_new w _))
    have b1 := t1.heap (b := w.heap.size + 1) (by omega) (by simpa using heap_alloc_new (w.alloc _) _)
    clear T0 t1
    have c0 := cell_of_block (o := 0) b1 rfl
    have c1 := cell_of_block (o := 1) b1 rfl
    have c2 := cell_of_block (o := 2) b1 rfl
    have f0 := free_of_block b1 0
    have f1 := free_of_block b1 1
    have f2 := free_of_block b1 2
    have b2 := block_set (o := 1) (v := .int .i64 (bAt s 1)) (block_set (o := 0) (v := .int .i64 (bAt s 0)) b1)
    have a2 := block_far (a := ⟨w.heap.size + 1, 1, none⟩) (v := .int .i64 (bAt s 1)) (by simp) (block_far (a := ⟨w.heap.size + 1, 0, none⟩) (v := .int .i64 (bAt s 0)) (by simp) a1)
    have T2 := (T1.setNew (p := ⟨w.heap.size + 1, 0, none⟩) (by simp) (.int .i64 (bAt s 0))).setNew (p := ⟨w.heap.size + 1, 1, none⟩) (by simp) (.int .i64 (bAt s 1))
    have r2 := (r1.far (a := ⟨w.heap.size + 1, 0, none⟩) (by simp; omega) (.int .i64 (bAt s 0))).far (a := ⟨w.heap.size + 1, 1, none⟩) (by simp; omega) (.int .i64 (bAt s 1))
    go_wp2_with fail
    clear a1 b1 T1 r1 c0 c1 c2 f0 f1 f2
    generalize (w1.setCell { block := w.heap.size + 1, off := 0 } (Value.int IntKind.i64 ↑(bAt s 0))).setCell { block := w.heap.size + 1, off := 1 } (Value.int IntKind.i64 ↑(bAt s 1)) = W2 at *
    by_cases h3 : s.size < 3
    · refine (number_none br s 2 _ r2 (by omega) (by omega)).mono ?_
      rintro e w3 ⟨rfl, t3⟩
      exact ⟨rfl, T2.trans t3, .inl ⟨5, by rw [entryStop, H1.out]; simp [h3], rfl⟩⟩
    refine (number_some br s 2 _ r2 hs (by omega)).mono ?_
    rintro e w3 ⟨rfl, r3, t3⟩
    have T3 := T2.trans t3
    have a3 := t3.heap (by omega) a2
    have b3 := t3.heap (by omega) b2
    clear T2 a2 b2 r2 t3
    have c2 := cell_of_block (o := 2) b3 rfl
    have f2 := free_of_block b3 2
    have b4 := block_set (o := 2) (v := .int .i64 (bAt s 2)) b3
    have a4 := block_far (a := ⟨w.heap.size + 1, 2, none⟩) (v := .int .i64 (bAt s 2)) (by simp) a3
    have T4 := T3.setNew (p := ⟨w.heap.size + 1, 2, none⟩) (by simp) (.int .i64 (bAt s 2))
    have r4 := r3.far (a := ⟨w.heap.size + 1, 2, none⟩) (by simp; omega) (.int .i64 (bAt s 2))
    go_wp2_with fail
    clear a3 b3 T3 r3 c2 f2
    generalize w3.setCell { block := w.heap.size + 1, off := 2 } (Value.int IntKind.i64 ↑(bAt s 2)) = W4 at *
    by_cases h4 : s.size < 4
    · refine (links_none br s 3 _ r4 (by omega) (by omega)).mono ?_
      rintro e w5 ⟨rfl, t5⟩
      exact ⟨rfl, T4.trans t5, .inl ⟨5, by rw [entryStop, H1.out]; simp [h3, h4], rfl⟩⟩
    have hsz4 : w.heap.size + 2 ≤ W4.heap.size := by have := lt_of_block b4; omega
    refine (links_any br s 3 _ r4 hs (by omega)).mono ?_
    rintro e w5 ⟨t5, ⟨x, hx, rfl⟩ | ⟨hno, a, cap, rfl, hnew, hids, r5⟩⟩
    · exact ⟨rfl, T4.trans t5, .inl ⟨x, by rw [entryStop, H1.out]; simp only [h3, h4, if_false]; rw [hx], rfl⟩⟩
    have HN : Hid (linksStop s 4 (bAt s 3) = none) := hno
    have hpos := linksStop_lt s 4 (bAt s 3) hno (by omega)
    clear hno
    have T5 := T4.trans t5
    have a5 := t5.heap (by omega) a4
    have b5 := t5.heap (by omega) b4
    clear T4 a4 b4 r4 t5
    have c4 := cell_of_block (o := 4) b5 rfl
    have f4 := free_of_block b5 4
    have b6 := block_set (o := 4) (v := .slice a (bAt s 3) cap) b5
    have a6 := block_far (a := ⟨w.heap.size + 1, 4, none⟩) (v := .slice a (bAt s 3) cap) (by simp) a5
    have T6 := T5.setNew (p := ⟨w.heap.size + 1, 4, none⟩) (by simp) (.slice a (bAt s 3) cap)
    have r6 := r5.far (a := ⟨w.heap.size + 1, 4, none⟩) (by simp; omega) (.slice a (bAt s 3) cap)
    have i6 := hids.far (p := ⟨w.heap.size + 1, 4, none⟩) (fun x hx => by have := hnew x hx; simp only; omega) (.slice a (bAt s 3) cap)
    go_wp2_with fail
    clear a5 b5 T5 r5 c4 f4 hids
    generalize w5.setCell { block := w.heap.size + 1, off := 4 } (Value.slice a (bAt s 3) cap) = W6 at *
    by_cases h5 : s.size < 5 + bAt s 3 * 2
    · refine (number_none br s (4 + bAt s 3 * 2) _ r6 (by omega) (by omega)).mono ?_
      rintro e w7 ⟨rfl, t7⟩
      exact ⟨rfl, T6.trans t7, .inl ⟨5, by rw [entryStop, H1.out]; simp only [h3, h4, if_false]; rw [HN.out]; simp only [h5, if_true], rfl⟩⟩
    refine (number_some br s (4 + bAt s 3 * 2) _ r6 hs (by omega)).mono ?_
    rintro e w7 ⟨rfl, r7, t7⟩
    have T7 := T6.trans t7
    have a7 := t7.heap (by omega) a6
    have b7 := t7.heap (by omega) b6
    have i7 := i6.turn t7 (fun x hx => by have := hnew x hx; omega)
    clear T6 a6 b6 r6 t7 i6
    go_wp2_with fail
    rw [show 4 + bAt s 3 * 2 + 1 = 5 + bAt s 3 * 2 from by omega] at r7
    have hbt := bAt_lt s (4 + bAt s 3 * 2)
    by_cases h6 : s.size < 5 + bAt s 3 * 2 + bAt s (4 + bAt s 3 * 2)
    · refine (take_none br s (5 + bAt s 3 * 2) _ _ r7 (by omega) (by omega) h6).mono ?_
      rintro e w8 ⟨rfl, t8⟩
      exact ⟨rfl, T7.trans t8, .inl ⟨5, by rw [entryStop, H1.out]; simp only [h3, h4, if_false]; rw [HN.out]; simp only [h5, h6, if_false, if_true], rfl⟩⟩
    refine (take_some br s (5 + bAt s 3 * 2) _ _ r7 hs (by omega) (by omega)).mono ?_
    rw [show s.extract (5 + bAt s 3 * 2) (5 + bAt s 3 * 2 + bAt s (4 + bAt s 3 * 2)) = entryText s from rfl, show 5 + bAt s 3 * 2 + bAt s (4 + bAt s 3 * 2) = entrySize s from rfl]
    rintro e w8 ⟨rfl, r8, t8⟩
    have T8 := T7.trans t8
    have a8 := t8.heap (by omega) a7
    have b8 := t8.heap (by omega) b7
    have i8 := i7.turn t8 (fun x hx => by have := hnew x hx; omega)
    clear T7 a7 b7 r7 t8 i7
    have hend : entryStop s = none := by rw [entryStop, H1.out]; simp only [h3, h4, if_false]; rw [HN.out]; simp only [h5, h6, if_false]
    have c3 := cell_of_block (o := 3) b8 rfl
    have f3 := free_of_block b8 3
    have c0 := cell_of_block (o := 0) b8 rfl
    have c1 := cell_of_block (o := 1) b8 rfl
    have c2 := cell_of_block (o := 2) b8 rfl
    have c4 := cell_of_block (o := 4) b8 rfl
    have d0 := cell_of_block (o := 0) a8 rfl
    have d1 := cell_of_block (o := 1) a8 rfl
    have d2 := cell_of_block (o := 2) a8 rfl
    have d3 := cell_of_block (o := 3) a8 rfl
    have d4 := cell_of_block (o := 4) a8 rfl
    have e0 := free_of_block a8 0
    have e1 := free_of_block a8 1
    have e2 := free_of_block a8 2
    have e3 := free_of_block a8 3
    have e4 := free_of_block a8 4
    simp at c0 c1 c2 c4
    go_wp2
    have a9 := block_set (o := 4) (v := .slice a (bAt s 3) cap) (block_set (o := 3) (v := .string (entryText s)) (block_set (o := 2) (v := .int .i64 (bAt s 2)) (block_set (o := 1) (v := .int .i64 (bAt s 1)) (block_set (o := 0) (v := .int .i64 (bAt s 0)) (block_far (a := ⟨w.heap.size + 1, 3, none⟩) (v := .string (entryText s)) (by simp) a8)))))
    have q0 := cell_of_block (o := 0) a9 rfl
    have q1 := cell_of_block (o := 1) a9 rfl
    have q2 := cell_of_block (o := 2) a9 rfl
    have q3 := cell_of_block (o := 3) a9 rfl
    have q4 := cell_of_block (o := 4) a9 rfl
    have i9 := ((((((i8.far (p := ⟨w.heap.size + 1, 3, none⟩) (fun x hx => by have := hnew x hx; simp only; omega) (.string (entryText s))).far (p := ⟨w.heap.size, 0, none⟩) (fun x hx => by have := hnew x hx; simp only; omega) (.int .i64 (bAt s 0))).far (p := ⟨w.heap.size, 1, none⟩) (fun x hx => by have := hnew x hx; simp only; omega) (.int .i64 (bAt s 1))).far (p := ⟨w.heap.size, 2, none⟩) (fun x hx => by have := hnew x hx; simp only; omega) (.int .i64 (bAt s 2))).far (p := ⟨w.heap.size, 3, none⟩) (fun x hx => by have := hnew x hx; simp only; omega) (.string (entryText s))).far (p := ⟨w.heap.size, 4, none⟩) (fun x hx => by have := hnew x hx; simp only; omega) (.slice a (bAt s 3) cap))
    have T9 := (((((T8.setNew (p := ⟨w.heap.size + 1, 3, none⟩) (by simp) (.string (entryText s))).setNew (p := ⟨w.heap.size, 0, none⟩) (by simp) (.int .i64 (bAt s 0))).setNew (p := ⟨w.heap.size, 1, none⟩) (by simp) (.int .i64 (bAt s 1))).setNew (p := ⟨w.heap.size, 2, none⟩) (by simp) (.int .i64 (bAt s 2))).setNew (p := ⟨w.heap.size, 3, none⟩) (by simp) (.string (entryText s))).setNew (p := ⟨w.heap.size, 4, none⟩) (by simp) (.slice a (bAt s 3) cap)
    have r9 := (((((r8.far (a := ⟨w.heap.size + 1, 3, none⟩) (by simp; omega) (.string (entryText s))).far (a := ⟨w.heap.size, 0, none⟩) (by simp; omega) (.int .i64 (bAt s 0))).far (a := ⟨w.heap.size, 1, none⟩) (by simp; omega) (.int .i64 (bAt s 1))).far (a := ⟨w.heap.size, 2, none⟩) (by simp; omega) (.int .i64 (bAt s 2))).far (a := ⟨w.heap.size, 3, none⟩) (by simp; omega) (.string (entryText s))).far (a := ⟨w.heap.size, 4, none⟩) (by simp; omega) (.slice a (bAt s 3) cap)
    clear c0 c1 c2 c3 c4 d0 d1 d2 d3 d4 e0 e1 e2 e3 e4 f3 a8 b8 T8 r8 i8
    generalize ((((((w8.setCell ⟨w.heap.size + 1, 3, none⟩ (.string (entryText s))).setCell ⟨w.heap.size, 0, none⟩ (.int .i64 (bAt s 0))).setCell ⟨w.heap.size, 1, none⟩ (.int .i64 (bAt s 1))).setCell ⟨w.heap.size, 2, none⟩ (.int .i64 (bAt s 2))).setCell ⟨w.heap.size, 3, none⟩ (.string (entryText s))).setCell ⟨w.heap.size, 4, none⟩ (.slice a (bAt s 3) cap)) = W9 at *
    simp at q0 q1 q2 q3 q4
    refine bodyPost_ret (v := .agg #[.int .i64 (bAt s 0), .int .i64 (bAt s 1), .int .i64 (bAt s 2), .string (entryText s), .slice a (bAt s 3) cap]) (by simp [results, Try.results55, go_sem, q0, q1, q2, q3, q4]) rfl ⟨T9, .inr ⟨hend, a, cap, rfl, fun x hx => by have := hnew x hx; omega, i9, r9⟩⟩
end Go.Proofs.Ytikdncgjaomlcaa
