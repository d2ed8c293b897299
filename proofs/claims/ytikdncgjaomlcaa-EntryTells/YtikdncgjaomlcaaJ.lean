/- entry.Decode: what it answers, whatever it is handed. -/
import Derived.Test.YtikdncgjaomlcaaI
namespace Go.Proofs.Ytikdncgjaomlcaa
open Go.RowKit

theorem idStop_ne {s : ByteArray} {p : Nat} {x : Int} (h : idStop s p = some x) : x = 1 ∨ x = 5 := by
  unfold idStop at h
  split at h
  · cases h; exact .inr rfl
  · split at h
    · cases h; exact .inl rfl
    · split at h
      · cases h; exact .inr rfl
      · cases h
theorem linksStop_ne {s : ByteArray} {p : Nat} : ∀ (k : Nat) {x : Int}, linksStop s p k = some x → x = 1 ∨ x = 5
  | 0, x, h => by cases h
  | k + 1, x, h => by
    rw [linksStop] at h
    cases h0 : linksStop s p k with
    | some y => rw [h0] at h; cases h; exact linksStop_ne k h0
    | none => rw [h0] at h; exact idStop_ne h
theorem entryStop_ne {s : ByteArray} {x : Int} (h : entryStop s = some x) : x = 1 ∨ x = 5 := by
  unfold entryStop at h
  cases h0 : idStop s 0 with
  | some y => rw [h0] at h; cases h; exact idStop_ne h0
  | none =>
    rw [h0] at h
    simp only at h
    split at h
    · cases h; exact .inr rfl
    · split at h
      · cases h; exact .inr rfl
      · cases h1 : linksStop s 4 (bAt s 3) with
        | some y => rw [h1] at h; cases h; exact linksStop_ne _ h1
        | none =>
          rw [h1] at h
          simp only at h
          split at h
          · cases h; exact .inr rfl
          · split at h
            · cases h; exact .inr rfl
            · cases h

/-- The error of Decode. -/
def entryR (s : ByteArray) (j : Nat) : Int := bAt s (4 + j * 2)
def entryN (s : ByteArray) (j : Nat) : Int := bAt s (4 + j * 2 + 1)
def decErr (s : ByteArray) : Int :=
  match entryStop s with
  | some x => x
  | none => checkErr (bAt s 0) (bAt s 1) (bAt s 2) (entryText s).size (bAt s 3) (entryR s) (entryN s)
theorem entryText_size {s : ByteArray} (h : entryStop s = none) : (entryText s).size = bAt s (4 + bAt s 3 * 2) ∧ entrySize s ≤ s.size := by
  unfold entryStop at h
  cases h0 : idStop s 0 with
  | some y => rw [h0] at h; cases h
  | none =>
    rw [h0] at h
    simp only at h
    split at h
    · cases h
    · split at h
      · cases h
      · cases h1 : linksStop s 4 (bAt s 3) with
        | some y => rw [h1] at h; cases h
        | none =>
          rw [h1] at h
          simp only at h
          split at h
          · cases h
          · split at h
            · cases h
            · rename_i h2
              have h3 : entrySize s ≤ s.size := by unfold entrySize; omega
              refine ⟨?_, h3⟩
              unfold entryText
              rw [ByteArray.size_extract]
              unfold entrySize at *
              omega

def zeroEntry : Value := .agg #[.int .i64 0, .int .i64 0, .int .i64 0, .string ⟨#[]⟩, .slice none 0 0]
set_option maxHeartbeats 2000000 in
theorem decode_err (s : ByteArray) (w : World) (hs : s.size ≤ 1152921504606846976) (herr : decErr s ≠ 0) :
    Calls Try.prog 10 #[.string s] w fun e w' => e = .returned (.tuple #[.agg #[.int .i64 0, .int .i64 0, .int .i64 0, .string ⟨#[]⟩, .slice none 0 0], .int .i64 0, .int .i64 (decErr s)]) ∧ Grow w w' := by
  have HE : Hid (decErr s ≠ 0) := herr
  clear herr
  go_enter Try.func10, Try.ntmps10
  go_wp2_with fail
  refine (parse_any s _ hs).mono ?_
  rintro e w1 ⟨g1, ⟨x, hx, rfl⟩ | ⟨hno, a, cap, rfl, hnew, hids⟩⟩
  · have hx0 : (x == 0) = false := by have := entryStop_ne hx; simp; omega
    have hx1 : (x != 0) = true := by have := entryStop_ne hx; simp; omega
    have HD : Hid (decErr s = x) := by unfold decErr; rw [hx]; rfl
    clear hx
    have a1 := (Below.block g1 w.heap.size (by simp)).trans (heap_alloc_new w _)
    have c0 := cell_of_block (o := 0) a1 rfl
    have c1 := cell_of_block (o := 1) a1 rfl
    have c2 := cell_of_block (o := 2) a1 rfl
    have c3 := cell_of_block (o := 3) a1 rfl
    have c4 := cell_of_block (o := 4) a1 rfl
    have f0 := free_of_block a1 0
    have f1 := free_of_block a1 1
    have f2 := free_of_block a1 2
    have f3 := free_of_block a1 3
    have f4 := free_of_block a1 4
    have hlt := lt_of_block a1
    go_wp2
    have b1 := (block_set (o := 4) (v := .slice none 0 0) (block_set (o := 3) (v := .string ⟨#[]⟩) (block_set (o := 2) (v := .int .i64 0) (block_set (o := 1) (v := .int .i64 0) (block_set (o := 0) (v := .int .i64 0) a1)))))
    have g2 := (Grow.setCell (Grow.setCell (Grow.setCell (Grow.setCell (Grow.setCell (((Grow.refl _).alloc _).trans g1) (p := ⟨w.heap.size, 0, none⟩) (by simp) (.int .i64 0)) (p := ⟨w.heap.size, 1, none⟩) (by simp) (.int .i64 0)) (p := ⟨w.heap.size, 2, none⟩) (by simp) (.int .i64 0)) (p := ⟨w.heap.size, 3, none⟩) (by simp) (.string ⟨#[]⟩)) (p := ⟨w.heap.size, 4, none⟩) (by simp) (.slice none 0 0))
    simp only [List.setIfInBounds_toArray, List.set_cons_zero, List.set_cons_succ] at b1
    clear c0 c1 c2 c3 c4 f0 f1 f2 f3 f4 a1
    generalize (World.setCell (World.setCell (World.setCell (World.setCell (World.setCell w1 ⟨w.heap.size, 0, none⟩ (.int .i64 0)) ⟨w.heap.size, 1, none⟩ (.int .i64 0)) ⟨w.heap.size, 2, none⟩ (.int .i64 0)) ⟨w.heap.size, 3, none⟩ (.string ⟨#[]⟩)) ⟨w.heap.size, 4, none⟩ (.slice none 0 0)) = W2 at *
    have b2 := (Below.heap_alloc W2 (Obj.cells #[.int .i64 0, .int .i64 0, .int .i64 0, .string ⟨#[]⟩, .slice none 0 0] 26) _ (lt_of_block b1)).trans b1
    have c0 := cell_of_block (o := 0) b2 rfl
    have c1 := cell_of_block (o := 1) b2 rfl
    have c2 := cell_of_block (o := 2) b2 rfl
    have c3 := cell_of_block (o := 3) b2 rfl
    have c4 := cell_of_block (o := 4) b2 rfl
    simp at c0 c1 c2 c3 c4
    rw [HD.out]
    exact bodyPost_ret (v := .tuple #[.agg #[.int .i64 0, .int .i64 0, .int .i64 0, .string ⟨#[]⟩, .slice none 0 0], .int .i64 0, .int .i64 x]) (by simp [results, Try.results10, go_sem, c0, c1, c2, c3, c4]) rfl ⟨rfl, g2.alloc _⟩
  · have HD : Hid (decErr s = checkErr (bAt s 0) (bAt s 1) (bAt s 2) (entryText s).size (bAt s 3) (entryR s) (entryN s)) := by unfold decErr; rw [hno]; rfl
    have hts := entryText_size hno
    have htl : (entryText s).size ≤ 9223372036854775807 := by have := bAt_lt s (4 + bAt s 3 * 2); omega
    have hne : (checkErr (bAt s 0) (bAt s 1) (bAt s 2) (entryText s).size (bAt s 3) (entryR s) (entryN s) != 0) = true := by have := HE.out; rw [HD.out] at this; simpa using this
    clear hts
    go_wp2_with fail
    refine (check_any _ _ _ _ _ _ _ (entryR s) (entryN s) _ (IdsAt.grow hids ((Grow.refl _).alloc _)) htl).mono ?_
    rintro e w2 ⟨rfl, g2⟩
    have a2 := (Below.block (((g1.alloc _).trans g2)) w.heap.size (by simp)).trans (heap_alloc_new w _)
    have c0 := cell_of_block (o := 0) a2 rfl
    have c1 := cell_of_block (o := 1) a2 rfl
    have c2 := cell_of_block (o := 2) a2 rfl
    have c3 := cell_of_block (o := 3) a2 rfl
    have c4 := cell_of_block (o := 4) a2 rfl
    have f0 := free_of_block a2 0
    have f1 := free_of_block a2 1
    have f2 := free_of_block a2 2
    have f3 := free_of_block a2 3
    have f4 := free_of_block a2 4
    go_wp2
    have b1 := (block_set (o := 4) (v := .slice none 0 0) (block_set (o := 3) (v := .string ⟨#[]⟩) (block_set (o := 2) (v := .int .i64 0) (block_set (o := 1) (v := .int .i64 0) (block_set (o := 0) (v := .int .i64 0) a2)))))
    have g3 := (Grow.setCell (Grow.setCell (Grow.setCell (Grow.setCell (Grow.setCell ((((Grow.refl _).alloc _).trans (g1.alloc _)).trans g2) (p := ⟨w.heap.size, 0, none⟩) (by simp) (.int .i64 0)) (p := ⟨w.heap.size, 1, none⟩) (by simp) (.int .i64 0)) (p := ⟨w.heap.size, 2, none⟩) (by simp) (.int .i64 0)) (p := ⟨w.heap.size, 3, none⟩) (by simp) (.string ⟨#[]⟩)) (p := ⟨w.heap.size, 4, none⟩) (by simp) (.slice none 0 0))
    simp only [List.setIfInBounds_toArray, List.set_cons_zero, List.set_cons_succ] at b1
    clear c0 c1 c2 c3 c4 f0 f1 f2 f3 f4 a2
    generalize (World.setCell (World.setCell (World.setCell (World.setCell (World.setCell w2 ⟨w.heap.size, 0, none⟩ (.int .i64 0)) ⟨w.heap.size, 1, none⟩ (.int .i64 0)) ⟨w.heap.size, 2, none⟩ (.int .i64 0)) ⟨w.heap.size, 3, none⟩ (.string ⟨#[]⟩)) ⟨w.heap.size, 4, none⟩ (.slice none 0 0)) = W2 at *
    have c0 := cell_of_block (o := 0) b1 rfl
    have c1 := cell_of_block (o := 1) b1 rfl
    have c2 := cell_of_block (o := 2) b1 rfl
    have c3 := cell_of_block (o := 3) b1 rfl
    have c4 := cell_of_block (o := 4) b1 rfl
    simp at c0 c1 c2 c3 c4
    rw [HD.out]
    exact bodyPost_ret (v := .tuple #[.agg #[.int .i64 0, .int .i64 0, .int .i64 0, .string ⟨#[]⟩, .slice none 0 0], .int .i64 0, .int .i64 _]) (by simp [results, Try.results10, go_sem, c0, c1, c2, c3, c4]) rfl ⟨rfl, g3⟩
set_option maxHeartbeats 2000000 in
theorem decode_ok (s : ByteArray) (w : World) (hs : s.size ≤ 1152921504606846976) (herr : decErr s = 0) :
    Calls Try.prog 10 #[.string s] w fun e w' => ∃ a cap, e = .returned (.tuple #[.agg #[.int .i64 (bAt s 0), .int .i64 (bAt s 1), .int .i64 (bAt s 2), .string (entryText s), .slice a (bAt s 3) cap], .int .i64 (entrySize s), .int .i64 0]) ∧ Grow w w' ∧ IdsAt w' a (bAt s 3) (entryR s) (entryN s) := by
  have HE : Hid (decErr s = 0) := herr
  clear herr
  go_enter Try.func10, Try.ntmps10
  go_wp2_with fail
  refine (parse_any s _ hs).mono ?_
  rintro e w1 ⟨g1, ⟨x, hx, rfl⟩ | ⟨hno, a, cap, rfl, hnew, hids⟩⟩
  · exfalso
    have := HE.out
    unfold decErr at this
    rw [hx] at this
    have := entryStop_ne hx
    simp only at *
    omega
  · have HD : Hid (checkErr (bAt s 0) (bAt s 1) (bAt s 2) (entryText s).size (bAt s 3) (entryR s) (entryN s) = 0) := by have := HE.out; unfold decErr at this; rw [hno] at this; exact this
    have hts := entryText_size hno
    have htl : (entryText s).size ≤ 9223372036854775807 := by have := bAt_lt s (4 + bAt s 3 * 2); omega
    clear hts
    go_wp2_with fail
    refine (check_any _ _ _ _ _ _ _ (entryR s) (entryN s) _ (IdsAt.grow hids ((Grow.refl _).alloc _)) htl).mono ?_
    rw [HD.out]
    rintro e w2 ⟨rfl, g2⟩
    have a2 := (Below.block (((g1.alloc _).trans g2)) w.heap.size (by simp)).trans (heap_alloc_new w _)
    have c0 := cell_of_block (o := 0) a2 rfl
    have c1 := cell_of_block (o := 1) a2 rfl
    have c2 := cell_of_block (o := 2) a2 rfl
    have c3 := cell_of_block (o := 3) a2 rfl
    have c4 := cell_of_block (o := 4) a2 rfl
    have f0 := free_of_block a2 0
    have f1 := free_of_block a2 1
    have f2 := free_of_block a2 2
    have f3 := free_of_block a2 3
    have f4 := free_of_block a2 4
    have e0 := cell_grow g2 (a := ⟨w1.heap.size, 0, none⟩) (v := .int .i64 (bAt s 0)) (by simp)
    have e1 := cell_grow g2 (a := ⟨w1.heap.size, 1, none⟩) (v := .int .i64 (bAt s 1)) (by simp)
    have e2 := cell_grow g2 (a := ⟨w1.heap.size, 2, none⟩) (v := .int .i64 (bAt s 2)) (by simp)
    have e3 := cell_grow g2 (a := ⟨w1.heap.size, 3, none⟩) (v := .string (entryText s)) (by simp)
    have e4 := cell_grow g2 (a := ⟨w1.heap.size, 4, none⟩) (v := .slice a (bAt s 3) cap) (by simp)
    have i2 := (IdsAt.grow hids ((Grow.refl _).alloc _)).grow g2
    have hlw : w.heap.size + 1 ≤ w1.heap.size := by have := g1.size; simpa using this
    go_wp2
    have b1 := (block_set (o := 4) (v := .slice a (bAt s 3) cap) (block_set (o := 3) (v := .string (entryText s)) (block_set (o := 2) (v := .int .i64 (bAt s 2)) (block_set (o := 1) (v := .int .i64 (bAt s 1)) (block_set (o := 0) (v := .int .i64 (bAt s 0)) a2)))))
    have g3 := (Grow.setCell (Grow.setCell (Grow.setCell (Grow.setCell (Grow.setCell ((((Grow.refl _).alloc _).trans (g1.alloc _)).trans g2) (p := ⟨w.heap.size, 0, none⟩) (by simp) (.int .i64 (bAt s 0))) (p := ⟨w.heap.size, 1, none⟩) (by simp) (.int .i64 (bAt s 1))) (p := ⟨w.heap.size, 2, none⟩) (by simp) (.int .i64 (bAt s 2))) (p := ⟨w.heap.size, 3, none⟩) (by simp) (.string (entryText s))) (p := ⟨w.heap.size, 4, none⟩) (by simp) (.slice a (bAt s 3) cap))
    have i3 := (IdsAt.far (IdsAt.far (IdsAt.far (IdsAt.far (IdsAt.far i2 (p := ⟨w.heap.size, 0, none⟩) (fun x hx => by have := hnew x hx; simp at this; simp only; omega) (.int .i64 (bAt s 0))) (p := ⟨w.heap.size, 1, none⟩) (fun x hx => by have := hnew x hx; simp at this; simp only; omega) (.int .i64 (bAt s 1))) (p := ⟨w.heap.size, 2, none⟩) (fun x hx => by have := hnew x hx; simp at this; simp only; omega) (.int .i64 (bAt s 2))) (p := ⟨w.heap.size, 3, none⟩) (fun x hx => by have := hnew x hx; simp at this; simp only; omega) (.string (entryText s))) (p := ⟨w.heap.size, 4, none⟩) (fun x hx => by have := hnew x hx; simp at this; simp only; omega) (.slice a (bAt s 3) cap))
    simp only [List.setIfInBounds_toArray, List.set_cons_zero, List.set_cons_succ] at b1
    clear c0 c1 c2 c3 c4 f0 f1 f2 f3 f4 a2 e0 e1 e2 e3 e4 i2
    generalize (World.setCell (World.setCell (World.setCell (World.setCell (World.setCell w2 ⟨w.heap.size, 0, none⟩ (.int .i64 (bAt s 0))) ⟨w.heap.size, 1, none⟩ (.int .i64 (bAt s 1))) ⟨w.heap.size, 2, none⟩ (.int .i64 (bAt s 2))) ⟨w.heap.size, 3, none⟩ (.string (entryText s))) ⟨w.heap.size, 4, none⟩ (.slice a (bAt s 3) cap)) = W2 at *
    have c0 := cell_of_block (o := 0) b1 rfl
    have c1 := cell_of_block (o := 1) b1 rfl
    have c2 := cell_of_block (o := 2) b1 rfl
    have c3 := cell_of_block (o := 3) b1 rfl
    have c4 := cell_of_block (o := 4) b1 rfl
    simp at c0 c1 c2 c3 c4
    exact bodyPost_ret (v := .tuple #[.agg #[.int .i64 (bAt s 0), .int .i64 (bAt s 1), .int .i64 (bAt s 2), .string (entryText s), .slice a (bAt s 3) cap], .int .i64 (entrySize s), .int .i64 0]) (by simp [results, Try.results10, go_sem, c0, c1, c2, c3, c4]) rfl ⟨a, cap, rfl, g3, i3⟩
end Go.Proofs.Ytikdncgjaomlcaa
