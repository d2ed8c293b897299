/- entry.parse and entry.Decode: what they answer, whatever they are handed. -/
import Derived.Test.YtikdncgjaomlcaaH
namespace Go.Proofs.Ytikdncgjaomlcaa
open Go.RowKit

theorem catch_idle (p q r : Addr) (w : World) :
    CallsD Try.prog 54 #[.pointer (some p), .pointer (some q), .pointer (some r)] .returning w fun e u' w' => e = .returned (.tuple #[]) ∧ u' = .returning ∧ w' = w := by
  refine callsD_of_wpS Try.func54 rfl fun c₀ cs hu => ?_
  apply wpS_seq
  apply wpS_region
  simp [wpOpsS, go_sem, recoverD, hu, Try.ntmps54, Exit.thenS]
  refine wpS_of_wp ?_
  simp only [Array.replicate, List.replicate, List.setIfInBounds_toArray, List.set_cons_zero, List.set_cons_succ, List.append_toArray, List.cons_append, List.nil_append]
  go_wp2
  cases c₀
  simp_all [bodyPostS, results, Try.results54]

theorem run_assert_brk (x : Int) (w : World) : (Instr.typeAssert (.iface 83 (.agg #[.int .i64 x])) 20 83 true).run Try.prog w = .ok (.tuple #[.agg #[.int .i64 x], .bool true]) w := rfl

set_option maxHeartbeats 1000000 in
theorem catch_pan (n : Nat) (x : Int) (v0 v1 v2 v3 v4 v5 v6 : Value) (w : World) (h2 : w.heap[n]? = some (.cells #[v0, v1, v2, v3, v4] 26 (0, 0))) (h3 : w.heap[n + 1]? = some (.cells #[v5] 3 (0, 0))) (h4 : w.heap[n + 2]? = some (.cells #[v6] 27 (0, 0))) :
    CallsD Try.prog 54 #[.pointer (some ⟨n, 0, none⟩), .pointer (some ⟨n + 1, 0, none⟩), .pointer (some ⟨n + 2, 0, none⟩)] (.panicking [{ v := brk x, recovered := false }]) w fun e u' w' =>
      e = .returned (.tuple #[]) ∧ u' = .panicking [{ v := brk x, recovered := true }] ∧ w'.heap[n]? = some (.cells #[.int .i64 0, .int .i64 0, .int .i64 0, .string ⟨#[]⟩, .slice none 0 0] 26 (0, 0)) ∧ w'.heap[n + 1]? = some (.cells #[.int .i64 0] 3 (0, 0)) ∧ w'.heap[n + 2]? = some (.cells #[.int .i64 x] 27 (0, 0)) ∧ Below n w w' := by
  have l2 := lt_of_block h2
  have l3 := lt_of_block h3
  have l4 := lt_of_block h4
  have hta := run_assert_brk x
  have c0 := cell_of_block (o := 0) h2 rfl
  have c1 := cell_of_block (o := 1) h2 rfl
  have c2 := cell_of_block (o := 2) h2 rfl
  have c3 := cell_of_block (o := 3) h2 rfl
  have c4 := cell_of_block (o := 4) h2 rfl
  have f0 := free_of_block h2 0
  have f1 := free_of_block h2 1
  have f2 := free_of_block h2 2
  have f3 := free_of_block h2 3
  have f4 := free_of_block h2 4
  have d3 := cell_of_block (o := 0) h3 rfl
  have d4 := cell_of_block (o := 0) h4 rfl
  have e3 := free_of_block h3 0
  have e4 := free_of_block h4 0
  refine callsD_of_wpS Try.func54 rfl fun c₀ cs hu => ?_
  apply wpS_seq
  apply wpS_region
  simp [wpOpsS, go_sem, recoverD, hu, Try.ntmps54, Exit.thenS, brk]
  refine wpS_of_wp ?_
  simp only [Array.replicate, List.replicate, List.setIfInBounds_toArray, List.set_cons_zero, List.set_cons_succ, List.append_toArray, List.cons_append, List.nil_append]
  go_wp2
  go_region
  have k2 := block_far (a := ⟨n + 2, 0, none⟩) (v := .int .i64 x) (by simp) (block_far (a := ⟨n + 1, 0, none⟩) (v := .int .i64 0) (by simp) (block_set (o := 4) (v := .slice none 0 0) (block_set (o := 3) (v := .string ⟨#[]⟩) (block_set (o := 2) (v := .int .i64 0) (block_set (o := 1) (v := .int .i64 0) (block_set (o := 0) (v := .int .i64 0) h2))))))
  have k3 := block_far (a := ⟨n + 2, 0, none⟩) (v := .int .i64 x) (by simp) (block_set (o := 0) (v := .int .i64 0) (block_far (a := ⟨n, 4, none⟩) (v := .slice none 0 0) (by simp) (block_far (a := ⟨n, 3, none⟩) (v := .string ⟨#[]⟩) (by simp) (block_far (a := ⟨n, 2, none⟩) (v := .int .i64 0) (by simp) (block_far (a := ⟨n, 1, none⟩) (v := .int .i64 0) (by simp) (block_far (a := ⟨n, 0, none⟩) (v := .int .i64 0) (by simp) h3))))))
  have k4 := block_set (o := 0) (v := .int .i64 x) (block_far (a := ⟨n + 1, 0, none⟩) (v := .int .i64 0) (by simp) (block_far (a := ⟨n, 4, none⟩) (v := .slice none 0 0) (by simp) (block_far (a := ⟨n, 3, none⟩) (v := .string ⟨#[]⟩) (by simp) (block_far (a := ⟨n, 2, none⟩) (v := .int .i64 0) (by simp) (block_far (a := ⟨n, 1, none⟩) (v := .int .i64 0) (by simp) (block_far (a := ⟨n, 0, none⟩) (v := .int .i64 0) (by simp) h4))))))
  have B := ((((((Below.refl n w).setCell (p := ⟨n, 0, none⟩) (by simp) (.int .i64 0)).setCell (p := ⟨n, 1, none⟩) (by simp) (.int .i64 0)).setCell (p := ⟨n, 2, none⟩) (by simp) (.int .i64 0)).setCell (p := ⟨n, 3, none⟩) (by simp) (.string ⟨#[]⟩)).setCell (p := ⟨n, 4, none⟩) (by simp) (.slice none 0 0)).setCell (p := ⟨n + 1, 0, none⟩) (by simp) (.int .i64 0) |>.setCell (p := ⟨n + 2, 0, none⟩) (by simp) (.int .i64 x)
  simp only [List.setIfInBounds_toArray, List.set_cons_zero, List.set_cons_succ] at k2 k3 k4
  clear c0 c1 c2 c3 c4 f0 f1 f2 f3 f4 d3 d4 e3 e4 h2 h3 h4
  generalize ((((((w.setCell ⟨n, 0, none⟩ (.int .i64 0)).setCell ⟨n, 1, none⟩ (.int .i64 0)).setCell ⟨n, 2, none⟩ (.int .i64 0)).setCell ⟨n, 3, none⟩ (.string ⟨#[]⟩)).setCell ⟨n, 4, none⟩ (.slice none 0 0)).setCell ⟨n + 1, 0, none⟩ (.int .i64 0)).setCell ⟨n + 2, 0, none⟩ (.int .i64 x) = W at *
  refine ⟨rfl, _, rfl, .tuple #[], results_none rfl _ _ _, rfl, rfl, ?_, ?_, ?_, ?_⟩
  · exact (Below.heap_alloc _ _ _ (lt_of_block k2)).trans k2
  · exact (Below.heap_alloc _ _ _ (lt_of_block k3)).trans k3
  · exact (Below.heap_alloc _ _ _ (lt_of_block k4)).trans k4
  · exact (B.alloc (by have := lt_of_block k2; omega) _).drew

set_option maxHeartbeats 2000000 in
theorem parse_any (s : ByteArray) (w : World) (hs : s.size ≤ 1152921504606846976) :
    Calls Try.prog 34 #[.string s] w fun e w' => Grow w w' ∧ ((∃ x, entryStop s = some x ∧ e = .returned (.tuple #[.agg #[.int .i64 0, .int .i64 0, .int .i64 0, .string ⟨#[]⟩, .slice none 0 0], .int .i64 0, .int .i64 x])) ∨
      (entryStop s = none ∧ ∃ a cap, e = .returned (.tuple #[.agg #[.int .i64 (bAt s 0), .int .i64 (bAt s 1), .int .i64 (bAt s 2), .string (entryText s), .slice a (bAt s 3) cap], .int .i64 (entrySize s), .int .i64 0]) ∧ (∀ x, a = some x → w.heap.size ≤ x.block) ∧
        IdsAt w' a (bAt s 3) (fun j => bAt s (4 + j * 2)) (fun j => bAt s (4 + j * 2 + 1)))) := by
  have hmf : ∀ (fn : Fn) (first cap : Array Value) (w : World), (Instr.makeFunc fn first cap).run Try.prog w = .ok (.func fn first cap) w := fun _ _ _ _ => rfl
  go_enter_defers Try.func34, Try.ntmps34
  go_wp2_with fail
  have g0 : Grow w ((((w.alloc (Obj.cells #[Value.int IntKind.i64 0, Value.int IntKind.i64 0, Value.int IntKind.i64 0, Value.string { data := #[] }, Value.slice none 0 0] 26)).alloc (Obj.cells #[Value.int IntKind.i64 0] 3)).alloc (Obj.cells #[Value.int IntKind.i64 0] 27)).alloc (Obj.cells #[Value.string s, Value.int IntKind.i64 0] 86)) := ((((Grow.refl w).alloc _).alloc _).alloc _).alloc _
  have n0 : ((((w.alloc (Obj.cells #[Value.int IntKind.i64 0, Value.int IntKind.i64 0, Value.int IntKind.i64 0, Value.string { data := #[] }, Value.slice none 0 0] 26)).alloc (Obj.cells #[Value.int IntKind.i64 0] 3)).alloc (Obj.cells #[Value.int IntKind.i64 0] 27)).alloc (Obj.cells #[Value.string s, Value.int IntKind.i64 0] 86)).heap[w.heap.size]? = some (Obj.cells #[Value.int IntKind.i64 0, Value.int IntKind.i64 0, Value.int IntKind.i64 0, Value.string { data := #[] }, Value.slice none 0 0] 26 (0, 0)) := by
    rw [Below.heap_alloc _ _ _ (by simp <;> omega), Below.heap_alloc _ _ _ (by simp <;> omega), Below.heap_alloc _ _ _ (by simp)]; exact heap_alloc_new w _
  have n1 : ((((w.alloc (Obj.cells #[Value.int IntKind.i64 0, Value.int IntKind.i64 0, Value.int IntKind.i64 0, Value.string { data := #[] }, Value.slice none 0 0] 26)).alloc (Obj.cells #[Value.int IntKind.i64 0] 3)).alloc (Obj.cells #[Value.int IntKind.i64 0] 27)).alloc (Obj.cells #[Value.string s, Value.int IntKind.i64 0] 86)).heap[w.heap.size + 1]? = some (Obj.cells #[Value.int IntKind.i64 0] 3 (0, 0)) := by
    rw [Below.heap_alloc _ _ _ (by simp <;> omega), Below.heap_alloc _ _ _ (by simp)]; simpa using heap_alloc_new (w.alloc _) _
  have n2 : ((((w.alloc (Obj.cells #[Value.int IntKind.i64 0, Value.int IntKind.i64 0, Value.int IntKind.i64 0, Value.string { data := #[] }, Value.slice none 0 0] 26)).alloc (Obj.cells #[Value.int IntKind.i64 0] 3)).alloc (Obj.cells #[Value.int IntKind.i64 0] 27)).alloc (Obj.cells #[Value.string s, Value.int IntKind.i64 0] 86)).heap[w.heap.size + 2]? = some (Obj.cells #[Value.int IntKind.i64 0] 27 (0, 0)) := by
    rw [Below.heap_alloc _ _ _ (by simp)]; simpa using heap_alloc_new ((w.alloc _).alloc _) _
  have r0 : Reader ((((w.alloc (Obj.cells #[Value.int IntKind.i64 0, Value.int IntKind.i64 0, Value.int IntKind.i64 0, Value.string { data := #[] }, Value.slice none 0 0] 26)).alloc (Obj.cells #[Value.int IntKind.i64 0] 3)).alloc (Obj.cells #[Value.int IntKind.i64 0] 27)).alloc (Obj.cells #[Value.string s, Value.int IntKind.i64 0] 86)) (w.heap.size + 1 + 1 + 1) s 0 := by
    simpa [Reader] using heap_alloc_new (((w.alloc (Obj.cells #[Value.int IntKind.i64 0, Value.int IntKind.i64 0, Value.int IntKind.i64 0, Value.string { data := #[] }, Value.slice none 0 0] 26)).alloc (Obj.cells #[Value.int IntKind.i64 0] 3)).alloc (Obj.cells #[Value.int IntKind.i64 0] 27)) (Obj.cells #[Value.string s, Value.int IntKind.i64 0] 86)
  generalize ((((w.alloc (Obj.cells #[Value.int IntKind.i64 0, Value.int IntKind.i64 0, Value.int IntKind.i64 0, Value.string { data := #[] }, Value.slice none 0 0] 26)).alloc (Obj.cells #[Value.int IntKind.i64 0] 3)).alloc (Obj.cells #[Value.int IntKind.i64 0] 27)).alloc (Obj.cells #[Value.string s, Value.int IntKind.i64 0] 86)) = W0 at *
  refine (entry_any _ s _ r0 hs).mono ?_
  rintro e w1 ⟨t1, ⟨x, hx, rfl⟩ | ⟨hno, a, cap, rfl, hnew, hids, r1⟩⟩
  · have g1 := t1.grow g0 (by omega)
    have m0 := t1.heap (by omega) n0
    have m1 := t1.heap (by omega) n1
    have m2 := t1.heap (by omega) n2
    refine leaves_cons (f := 54) (args := #[.pointer (some ⟨w.heap.size, 0, none⟩), .pointer (some ⟨w.heap.size + 1, 0, none⟩), .pointer (some ⟨w.heap.size + 2, 0, none⟩)]) (by simp) (by simp [go_sem]) ?_
    refine (catch_pan w.heap.size x _ _ _ _ _ _ _ _ m0 m1 m2).mono ?_
    rintro e u' w2 ⟨rfl, rfl, k0, k1, k2, hb⟩
    have c0 := cell_of_block (o := 0) k0 rfl
    have c1 := cell_of_block (o := 1) k0 rfl
    have c2 := cell_of_block (o := 2) k0 rfl
    have c3 := cell_of_block (o := 3) k0 rfl
    have c4 := cell_of_block (o := 4) k0 rfl
    have d1 := cell_of_block (o := 0) k1 rfl
    have d2 := cell_of_block (o := 0) k2 rfl
    simp at c0 c1 c2 c3 c4 d1 d2
    refine ⟨_, ?_, Below.trans g1 hb, .inl ⟨x, hx, rfl⟩⟩
    simp [results, Try.results34, go_sem, c0, c1, c2, c3, c4, d1, d2]
  · have g1 := t1.grow g0 (by omega)
    have hW := lt_of_block r0
    have m0 := t1.heap (by omega) n0
    have m1 := t1.heap (by omega) n1
    have m2 := t1.heap (by omega) n2
    have HN : Hid (entryStop s = none) := hno
    clear hno t1 n0 n1 n2 r0 g0
    have c0 := cell_of_block (o := 0) m0 rfl
    have c1 := cell_of_block (o := 1) m0 rfl
    have c2 := cell_of_block (o := 2) m0 rfl
    have c3 := cell_of_block (o := 3) m0 rfl
    have c4 := cell_of_block (o := 4) m0 rfl
    have f0 := free_of_block m0 0
    have f1 := free_of_block m0 1
    have f2 := free_of_block m0 2
    have f3 := free_of_block m0 3
    have f4 := free_of_block m0 4
    go_wp2
    have k0 := (block_set (o := 4) (v := .slice a (bAt s 3) cap) (block_set (o := 3) (v := .string (entryText s)) (block_set (o := 2) (v := .int .i64 (bAt s 2)) (block_set (o := 1) (v := .int .i64 (bAt s 1)) (block_set (o := 0) (v := .int .i64 (bAt s 0)) m0)))))
    have k1 := (block_far (a := ⟨w.heap.size, 4, none⟩) (v := .slice a (bAt s 3) cap) (by simp) (block_far (a := ⟨w.heap.size, 3, none⟩) (v := .string (entryText s)) (by simp) (block_far (a := ⟨w.heap.size, 2, none⟩) (v := .int .i64 (bAt s 2)) (by simp) (block_far (a := ⟨w.heap.size, 1, none⟩) (v := .int .i64 (bAt s 1)) (by simp) (block_far (a := ⟨w.heap.size, 0, none⟩) (v := .int .i64 (bAt s 0)) (by simp) m1)))))
    have k2 := (block_far (a := ⟨w.heap.size, 4, none⟩) (v := .slice a (bAt s 3) cap) (by simp) (block_far (a := ⟨w.heap.size, 3, none⟩) (v := .string (entryText s)) (by simp) (block_far (a := ⟨w.heap.size, 2, none⟩) (v := .int .i64 (bAt s 2)) (by simp) (block_far (a := ⟨w.heap.size, 1, none⟩) (v := .int .i64 (bAt s 1)) (by simp) (block_far (a := ⟨w.heap.size, 0, none⟩) (v := .int .i64 (bAt s 0)) (by simp) m2)))))
    have r2 := (Reader.far (Reader.far (Reader.far (Reader.far (Reader.far r1 (a := ⟨w.heap.size, 0, none⟩) (by simp; omega) (.int .i64 (bAt s 0))) (a := ⟨w.heap.size, 1, none⟩) (by simp; omega) (.int .i64 (bAt s 1))) (a := ⟨w.heap.size, 2, none⟩) (by simp; omega) (.int .i64 (bAt s 2))) (a := ⟨w.heap.size, 3, none⟩) (by simp; omega) (.string (entryText s))) (a := ⟨w.heap.size, 4, none⟩) (by simp; omega) (.slice a (bAt s 3) cap))
    have i2 := (IdsAt.far (IdsAt.far (IdsAt.far (IdsAt.far (IdsAt.far hids (p := ⟨w.heap.size, 0, none⟩) (fun x hx => by have := hnew x hx; simp only; omega) (.int .i64 (bAt s 0))) (p := ⟨w.heap.size, 1, none⟩) (fun x hx => by have := hnew x hx; simp only; omega) (.int .i64 (bAt s 1))) (p := ⟨w.heap.size, 2, none⟩) (fun x hx => by have := hnew x hx; simp only; omega) (.int .i64 (bAt s 2))) (p := ⟨w.heap.size, 3, none⟩) (fun x hx => by have := hnew x hx; simp only; omega) (.string (entryText s))) (p := ⟨w.heap.size, 4, none⟩) (fun x hx => by have := hnew x hx; simp only; omega) (.slice a (bAt s 3) cap))
    have g2 := (Grow.setCell (Grow.setCell (Grow.setCell (Grow.setCell (Grow.setCell g1 (p := ⟨w.heap.size, 0, none⟩) (by simp) (.int .i64 (bAt s 0))) (p := ⟨w.heap.size, 1, none⟩) (by simp) (.int .i64 (bAt s 1))) (p := ⟨w.heap.size, 2, none⟩) (by simp) (.int .i64 (bAt s 2))) (p := ⟨w.heap.size, 3, none⟩) (by simp) (.string (entryText s))) (p := ⟨w.heap.size, 4, none⟩) (by simp) (.slice a (bAt s 3) cap))
    simp only [List.setIfInBounds_toArray, List.set_cons_zero, List.set_cons_succ] at k0
    clear c0 c1 c2 c3 c4 f0 f1 f2 f3 f4 m0 m1 m2 r1 hids g1
    generalize (((((w1.setCell ⟨w.heap.size, 0, none⟩ (.int .i64 (bAt s 0))).setCell ⟨w.heap.size, 1, none⟩ (.int .i64 (bAt s 1))).setCell ⟨w.heap.size, 2, none⟩ (.int .i64 (bAt s 2))).setCell ⟨w.heap.size, 3, none⟩ (.string (entryText s))).setCell ⟨w.heap.size, 4, none⟩ (.slice a (bAt s 3) cap)) = W3 at *
    have c0 := cell_of_block (o := 0) k0 rfl
    have c1 := cell_of_block (o := 1) k0 rfl
    have c2 := cell_of_block (o := 2) k0 rfl
    have c3 := cell_of_block (o := 3) k0 rfl
    have c4 := cell_of_block (o := 4) k0 rfl
    have f0 := free_of_block k0 0
    have f1 := free_of_block k0 1
    have f2 := free_of_block k0 2
    have f3 := free_of_block k0 3
    have f4 := free_of_block k0 4
    have d1 := cell_of_block (o := 0) k1 rfl
    have e1 := free_of_block k1 0
    have d2 := cell_of_block (o := 0) k2 rfl
    have e2 := free_of_block k2 0
    have q1 := r2.c1
    simp at c0 c1 c2 c3 c4 d1 d2
    go_region
    have x0 := (block_far (a := ⟨w.heap.size + 1 + 1, 0, none⟩) (v := .int .i64 0) (by simp <;> omega) (block_far (a := ⟨w.heap.size + 1, 0, none⟩) (v := .int .i64 (entrySize s)) (by simp <;> omega) (block_set (o := 4) (v := .slice a (bAt s 3) cap) (block_set (o := 3) (v := .string (entryText s)) (block_set (o := 2) (v := .int .i64 (bAt s 2)) (block_set (o := 1) (v := .int .i64 (bAt s 1)) (block_set (o := 0) (v := .int .i64 (bAt s 0)) k0)))))))
    have x1 := (block_far (a := ⟨w.heap.size + 1 + 1, 0, none⟩) (v := .int .i64 0) (by simp <;> omega) (block_set (o := 0) (v := .int .i64 (entrySize s)) (block_far (a := ⟨w.heap.size, 4, none⟩) (v := .slice a (bAt s 3) cap) (by simp <;> omega) (block_far (a := ⟨w.heap.size, 3, none⟩) (v := .string (entryText s)) (by simp <;> omega) (block_far (a := ⟨w.heap.size, 2, none⟩) (v := .int .i64 (bAt s 2)) (by simp <;> omega) (block_far (a := ⟨w.heap.size, 1, none⟩) (v := .int .i64 (bAt s 1)) (by simp <;> omega) (block_far (a := ⟨w.heap.size, 0, none⟩) (v := .int .i64 (bAt s 0)) (by simp <;> omega) k1)))))))
    have x2 := (block_set (o := 0) (v := .int .i64 0) (block_far (a := ⟨w.heap.size + 1, 0, none⟩) (v := .int .i64 (entrySize s)) (by simp <;> omega) (block_far (a := ⟨w.heap.size, 4, none⟩) (v := .slice a (bAt s 3) cap) (by simp <;> omega) (block_far (a := ⟨w.heap.size, 3, none⟩) (v := .string (entryText s)) (by simp <;> omega) (block_far (a := ⟨w.heap.size, 2, none⟩) (v := .int .i64 (bAt s 2)) (by simp <;> omega) (block_far (a := ⟨w.heap.size, 1, none⟩) (v := .int .i64 (bAt s 1)) (by simp <;> omega) (block_far (a := ⟨w.heap.size, 0, none⟩) (v := .int .i64 (bAt s 0)) (by simp <;> omega) k2)))))))
    have i3 := (IdsAt.far (IdsAt.far (IdsAt.far (IdsAt.far (IdsAt.far (IdsAt.far (IdsAt.far i2 (p := ⟨w.heap.size, 0, none⟩) (fun x hx => by have := hnew x hx; simp only; omega) (.int .i64 (bAt s 0))) (p := ⟨w.heap.size, 1, none⟩) (fun x hx => by have := hnew x hx; simp only; omega) (.int .i64 (bAt s 1))) (p := ⟨w.heap.size, 2, none⟩) (fun x hx => by have := hnew x hx; simp only; omega) (.int .i64 (bAt s 2))) (p := ⟨w.heap.size, 3, none⟩) (fun x hx => by have := hnew x hx; simp only; omega) (.string (entryText s))) (p := ⟨w.heap.size, 4, none⟩) (fun x hx => by have := hnew x hx; simp only; omega) (.slice a (bAt s 3) cap)) (p := ⟨w.heap.size + 1, 0, none⟩) (fun x hx => by have := hnew x hx; simp only; omega) (.int .i64 (entrySize s))) (p := ⟨w.heap.size + 1 + 1, 0, none⟩) (fun x hx => by have := hnew x hx; simp only; omega) (.int .i64 0))
    have g3 := (Grow.setCell (Grow.setCell (Grow.setCell (Grow.setCell (Grow.setCell (Grow.setCell (Grow.setCell g2 (p := ⟨w.heap.size, 0, none⟩) (by simp <;> omega) (.int .i64 (bAt s 0))) (p := ⟨w.heap.size, 1, none⟩) (by simp <;> omega) (.int .i64 (bAt s 1))) (p := ⟨w.heap.size, 2, none⟩) (by simp <;> omega) (.int .i64 (bAt s 2))) (p := ⟨w.heap.size, 3, none⟩) (by simp <;> omega) (.string (entryText s))) (p := ⟨w.heap.size, 4, none⟩) (by simp <;> omega) (.slice a (bAt s 3) cap)) (p := ⟨w.heap.size + 1, 0, none⟩) (by simp <;> omega) (.int .i64 (entrySize s))) (p := ⟨w.heap.size + 1 + 1, 0, none⟩) (by simp <;> omega) (.int .i64 0))
    simp only [List.setIfInBounds_toArray, List.set_cons_zero, List.set_cons_succ] at x0 x1 x2
    clear c0 c1 c2 c3 c4 f0 f1 f2 f3 f4 d1 e1 d2 e2 q1 k0 k1 k2 r2 i2 g2
    generalize (World.setCell (World.setCell (World.setCell (World.setCell (World.setCell (World.setCell (World.setCell W3 ⟨w.heap.size, 0, none⟩ (.int .i64 (bAt s 0))) ⟨w.heap.size, 1, none⟩ (.int .i64 (bAt s 1))) ⟨w.heap.size, 2, none⟩ (.int .i64 (bAt s 2))) ⟨w.heap.size, 3, none⟩ (.string (entryText s))) ⟨w.heap.size, 4, none⟩ (.slice a (bAt s 3) cap)) ⟨w.heap.size + 1, 0, none⟩ (.int .i64 (entrySize s))) ⟨w.heap.size + 1 + 1, 0, none⟩ (.int .i64 0)) = W4 at *
    go_wp2
    refine leaves_cons (f := 54) (args := #[.pointer (some ⟨w.heap.size, 0, none⟩), .pointer (some ⟨w.heap.size + 1, 0, none⟩), .pointer (some ⟨w.heap.size + 1 + 1, 0, none⟩)]) (by simp) (by simp [go_sem]) ?_
    refine (catch_idle _ _ _ _).mono ?_
    rintro e u' w2 ⟨rfl, rfl, rfl⟩
    have c0 := cell_of_block (o := 0) x0 rfl
    have c1 := cell_of_block (o := 1) x0 rfl
    have c2 := cell_of_block (o := 2) x0 rfl
    have c3 := cell_of_block (o := 3) x0 rfl
    have c4 := cell_of_block (o := 4) x0 rfl
    have d1 := cell_of_block (o := 0) x1 rfl
    have d2 := cell_of_block (o := 0) x2 rfl
    simp at c0 c1 c2 c3 c4 d1 d2
    refine ⟨_, ?_, g3.drew, .inr ⟨HN.out, a, cap, rfl, fun x hx => by have := hnew x hx; omega, i3.grow (Grow.refl _).drew⟩⟩
    simp [results, Try.results34, go_sem, c0, c1, c2, c3, c4, d1, d2]
end Go.Proofs.Ytikdncgjaomlcaa
