/- (*entry.writer).put and entry.Encode: what each call answers, whatever it is handed. -/
import Derived.Test.YtikdncgjaomlcaaC
import Derived.Deep.AppendLies
namespace Go.Proofs.Ytikdncgjaomlcaa
open Go.RowKit

theorem Try.info5 : (Try.prog.info? 5).map (fun i => (i.zero, i.size, i.bytes)) = some (some (.int .u8 0), 1, 1) := by kernel_rfl

/-- A writer in block bw, that holds the bytes xs in a row of its own behind it. -/
structure Writer (w : World) (bw : Nat) (v : Value) (xs : List Int) : Prop where
  block : w.heap[bw]? = some (.cells #[v] 61 (0, 0))
  row : w.ownsRow (bw + 1) 5 1 v xs.length (xs.map (Value.int .u8))

theorem block_grown {w w1 : World} {row : Option Nat} {b : Nat} {o o' : Obj} (hg : (w.alloc o').grownBy w1 row) (hne : some b ≠ row) (h : w.heap[b]? = some o) : w1.heap[b]? = some o := by
  have hlt := lt_of_block h
  rw [hg.block b (by simp; omega) hne, Below.heap_alloc _ _ _ hlt, h]
theorem cell_grown {w w1 : World} {row : Option Nat} {a : Addr} {v : Value} {o' : Obj} (hg : (w.alloc o').grownBy w1 row) (hne : some a.block ≠ row) (h : w.cell? a = some v) : w1.cell? a = some v := by
  have hlt := cell_lt h
  have e : w1.heap[a.block]? = w.heap[a.block]? := by rw [hg.block a.block (by simp; omega) hne, Below.heap_alloc _ _ _ hlt]
  exact (World.cell?_of_block (w := w) e).trans h
theorem own_ne {w : World} {base : Nat} {e : TypeId} {size : Nat} {v : Value} {n : Nat} {xs : List Value} (h : w.ownsRow base e size v n xs) {b : Nat} (hb : b < base) : some b ≠ v.ownBlock := by
  intro he
  have := (h.lt b he.symm).1
  omega
set_option maxHeartbeats 1000000 in
theorem put_any (bw b off len cap : Nat) (f : Nat → Int) (v : Value) (xs : List Int) (w : World) (hw : Writer w bw v xs) (hlen : xs.length + len ≤ 1000)
    (hb : ∀ k, k < len → w.cell? ⟨b, off + k, none⟩ = some (.int .i64 (f k))) (hne : v.ownBlock ≠ some b) (hbw : bw ≠ b) :
    Calls Try.prog 33 #[.pointer (some ⟨bw, 0, none⟩), .slice (some ⟨b, off, none⟩) len cap] w fun e w' => e = .returned (.tuple #[]) ∧ (∃ v', Writer w' bw v' (xs ++ (List.range len).map fun k => f k % 256)) ∧ Below bw w w' := by
  obtain ⟨i0, hi, hz0, hz1, hz2⟩ := info_parts Try.info5
  go_enter Try.func33, Try.ntmps33
  go_wp2
  go_loopw [8] (fun i wr => ∃ k : Nat, ∃ v', k ≤ len ∧ i = .int .i64 k ∧ Writer wr bw v' (xs ++ (List.range k).map fun k => f k % 256) ∧ Below bw w wr ∧ (∀ k, k < len → wr.cell? ⟨b, off + k, none⟩ = some (.int .i64 (f k))) ∧ v'.ownBlock ≠ some b) (fun i _ => len - (intOf i).toNat)
  case atStart => exact ⟨0, v, Nat.zero_le _, rfl, by simpa using hw, Below.refl _ _, hb, hne⟩
  case round =>
    obtain ⟨k, v', hk, rfl, hw', hbel, hc, hne'⟩ := hrel
    by_cases hlt : k < len
    · have d0 := hc k hlt
      have hlt' : (k : Int) < (len : Int) := by omega
      have c1 : wr.cell? ⟨bw, 0, none⟩ = some v' := cell_of_one hw'.block
      have c2 : wr.frozen? ⟨bw, 0, none⟩ = false := free_of_one hw'.block
      obtain ⟨ys, hys⟩ : ∃ ys, ys = xs ++ (List.range k).map fun k => f k % 256 := ⟨_, rfl⟩
      rw [← hys] at hw'
      have hyl : ys.length = xs.length + k := by rw [hys]; simp
      have HY : Hid (ys = xs ++ (List.range k).map fun k => f k % 256) := hys
      have HL : Hid (ys.length = xs.length + k) := hyl
      have hyl' : ys.length + 1 ≤ 1000 := by omega
      clear hys hyl
      have hrow := hw'.row
      have hbl := hw'.block
      clear hw hw'
      have hsz := lt_of_block hbl
      go_wp2_with (at_builtin; go_must (refine wpList_append_lies _ (by rfl) _ _ 59 (by rfl) (bw + 1) 5 i0 (.int .u8 0) 1 1 Try.underlying59 hi hz0 hz1 hz2 (by rfl) (by decide) _ _ _ (by rfl) (hrow.alloc _) ⟨wr.heap.size, 0, none⟩ 1 1 [.int .u8 (f k % 256)] (by rfl) (by rfl) (World.news_of_block (heap_alloc_new wr _)) (by intro u hu; simp at hu; subst hu; rfl) (by decide) (by unfold maxLen; omega) (by omega) (by simp; omega) (wr.heap.size + 1) (by simp) ?_; intro g cap' w1 hown hgrow hat hltg; have e1 := block_grown hgrow (own_ne hrow (Nat.lt_succ_self _)) hbl; have f1 := cell_of_one e1; have f2 := free_of_one e1))
      go_roundw
      case rel =>
        refine ⟨k + 1, .slice (some ⟨g, 0, none⟩) (ys.length + 1) cap', by omega, by go_num, ⟨one_setCell e1, ?_⟩, ?_, ?_, ?_⟩
        · have := ownsRow_setCell_other hown (a := ⟨bw, 0, none⟩) (by simp [Value.ownBlock]; have := own_ne hown (b := bw) (by omega); simp [Value.ownBlock] at this; omega) (.slice (some ⟨g, 0, none⟩) (ys.length + 1) cap')
          rw [List.range_succ, List.map_append, ← List.append_assoc, ← HY.out]
          simpa using this
        · refine Below.setCell (Below.trans hbel (Below.trans ((Below.refl bw _).alloc (by omega) _) ⟨hgrow.os, hgrow.tape, hgrow.output, hgrow.size, fun i hi => hgrow.block i (by simp; omega) (own_ne hrow (by omega))⟩)) (Nat.le_refl _) _
        · intro j hj
          rw [World.cell?_setCell_other _ _ _ _ (by simp)]
          exact cell_grown hgrow (Ne.symm hne') (hc j hj)
        · have hbs := cell_lt d0
          simp only at hbs
          rcases hat with h | h
          · rw [h] at hne'; simpa [Value.ownBlock] using hne'
          · subst h; simp [Value.ownBlock]; omega
      case measure => simp [intOf]; omega
    · go_wp2
      have : k = len := by omega
      subst this
      go_end0
      exact ⟨rfl, ⟨v', hw'⟩, hbel⟩

theorem mod_in {x : Int} (h : 0 ≤ x ∧ x < 256) : x % 256 = x := by omega
theorem put1 (bw : Nat) (x : Int) (v : Value) (xs : List Int) (W : World) (nb : Nat) (hnb : nb = W.heap.size) (hw : Writer W bw v xs) (hlen : xs.length ≤ 900) (hx : 0 ≤ x ∧ x < 256) :
    Calls Try.prog 33 #[.pointer (some ⟨bw, 0, none⟩), .slice (some ⟨nb, 0, none⟩) 1 1] (W.alloc (.cells #[.int .i64 x] 3)) fun e w' => e = .returned (.tuple #[]) ∧ (∃ v', Writer w' bw v' (xs ++ [x])) ∧ Below bw W w' := by
  subst hnb
  have hlt := lt_of_block hw.block
  refine (put_any bw W.heap.size 0 1 1 (fun _ => x) v xs _ ⟨by rw [Below.heap_alloc _ _ _ hlt]; exact hw.block, hw.row.alloc _⟩ (by omega) ?_ ?_ (by omega)).mono ?_
  · intro k hk
    obtain rfl : k = 0 := by omega
    simp
  · intro he
    have := (hw.row.lt _ he).2
    omega
  · rintro e w' ⟨he, ⟨v', h⟩, hb⟩
    refine ⟨he, ⟨v', ?_⟩, Below.trans ((Below.refl bw W).alloc (by omega) _) hb⟩
    simpa [List.range_succ, mod_in hx] using h
theorem put2 (bw : Nat) (x y : Int) (v : Value) (xs : List Int) (W : World) (nb : Nat) (hnb : nb = W.heap.size) (hw : Writer W bw v xs) (hlen : xs.length ≤ 900) (hx : 0 ≤ x ∧ x < 256) (hy : 0 ≤ y ∧ y < 256) :
    Calls Try.prog 33 #[.pointer (some ⟨bw, 0, none⟩), .slice (some ⟨nb, 0, none⟩) 2 2] (W.alloc (.cells #[.int .i64 x, .int .i64 y] 3)) fun e w' => e = .returned (.tuple #[]) ∧ (∃ v', Writer w' bw v' (xs ++ [x, y])) ∧ Below bw W w' := by
  subst hnb
  have hlt := lt_of_block hw.block
  refine (put_any bw W.heap.size 0 2 2 (fun k => if k = 0 then x else y) v xs _ ⟨by rw [Below.heap_alloc _ _ _ hlt]; exact hw.block, hw.row.alloc _⟩ (by omega) ?_ ?_ (by omega)).mono ?_
  · intro k hk
    obtain rfl | rfl : k = 0 ∨ k = 1 := by omega
    all_goals simp
  · intro he
    have := (hw.row.lt _ he).2
    omega
  · rintro e w' ⟨he, ⟨v', h⟩, hb⟩
    refine ⟨he, ⟨v', ?_⟩, Below.trans ((Below.refl bw W).alloc (by omega) _) hb⟩
    simpa [List.range_succ, mod_in hx, mod_in hy] using h
theorem put4 (bw : Nat) (x y z u : Int) (v : Value) (xs : List Int) (W : World) (nb : Nat) (hnb : nb = W.heap.size) (hw : Writer W bw v xs) (hlen : xs.length ≤ 900) (hx : 0 ≤ x ∧ x < 256) (hy : 0 ≤ y ∧ y < 256) (hz : 0 ≤ z ∧ z < 256) (hu : 0 ≤ u ∧ u < 256) :
    Calls Try.prog 33 #[.pointer (some ⟨bw, 0, none⟩), .slice (some ⟨nb, 0, none⟩) 4 4] (W.alloc (.cells #[.int .i64 x, .int .i64 y, .int .i64 z, .int .i64 u] 3)) fun e w' => e = .returned (.tuple #[]) ∧ (∃ v', Writer w' bw v' (xs ++ [x, y, z, u])) ∧ Below bw W w' := by
  subst hnb
  have hlt := lt_of_block hw.block
  refine (put_any bw W.heap.size 0 4 4 (fun k => if k = 0 then x else if k = 1 then y else if k = 2 then z else u) v xs _ ⟨by rw [Below.heap_alloc _ _ _ hlt]; exact hw.block, hw.row.alloc _⟩ (by omega) ?_ ?_ (by omega)).mono ?_
  · intro k hk
    obtain rfl | rfl | rfl | rfl : k = 0 ∨ k = 1 ∨ k = 2 ∨ k = 3 := by omega
    all_goals simp
  · intro he
    have := (hw.row.lt _ he).2
    omega
  · rintro e w' ⟨he, ⟨v', h⟩, hb⟩
    refine ⟨he, ⟨v', ?_⟩, Below.trans ((Below.refl bw W).alloc (by omega) _) hb⟩
    simpa [List.range_succ, mod_in hx, mod_in hy, mod_in hz, mod_in hu] using h
end Go.Proofs.Ytikdncgjaomlcaa
