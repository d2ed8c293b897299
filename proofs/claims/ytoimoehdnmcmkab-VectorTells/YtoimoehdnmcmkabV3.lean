/- Package vector: Join, Within: what each answers, whatever it is handed. -/
import Derived.Test.YtoimoehdnmcmkabV2
namespace Go.Proofs.Ytoimoehdnmcmkab
open Go.RowKit

/-- vector.Within -/
def vIn (v u : Vc) : Bool × Int := if v.ok && u.ok then (decide (v.a ≤ u.a) && decide (v.b ≤ u.b), 0) else (false, 3)
theorem vecsErr_two (v u : Vc) : vecsErr [v, u] = if v.ok && u.ok then 0 else 3 := by simp [vecsErr]
set_option maxHeartbeats 1000000 in
theorem vwithin_any (v u : Vc) (w : World) : Calls Try.prog 35 #[v.val, u.val] w fun e w' => e = .returned (.tuple #[.bool (vIn v u).1, .int .i64 (vIn v u).2]) ∧ Grow w w' := by
  unfold Vc.val
  have HR : ∀ x, vIn v u = x → Hid (vIn v u = x) := fun _ h => h
  have i0 : ∀ w, (Instr.index 67 (.agg #[.int .i64 v.a, .int .i64 v.b]) (.int .i64 0)).run Try.prog w = .ok (.int .i64 v.a) w := fun _ => by kernel_rfl
  have i1 : ∀ w, (Instr.index 67 (.agg #[.int .i64 v.a, .int .i64 v.b]) (.int .i64 1)).run Try.prog w = .ok (.int .i64 v.b) w := fun _ => by kernel_rfl
  go_enter Try.func35, Try.ntmps35
  go_wp2_with fail
  refine (vcheck_any [v, u] _ _ _ (vecs_two v u (by simp [go_sem]) (by simp [go_sem]) (by simp [go_sem]) (by simp [go_sem])) (by simp)).mono ?_
  rw [vecsErr_two]
  rintro e w1 ⟨rfl, g1⟩
  have q0 := cell_grow g1 (a := ⟨w.heap.size, 0, none⟩) (v := .int .i64 v.a) (by simp [go_sem])
  have q1 := cell_grow g1 (a := ⟨w.heap.size, 1, none⟩) (v := .int .i64 v.b) (by simp [go_sem])
  have q2 := cell_grow g1 (a := ⟨w.heap.size + 1, 0, none⟩) (v := .int .i64 u.a) (by simp [go_sem])
  have q3 := cell_grow g1 (a := ⟨w.heap.size + 1, 1, none⟩) (v := .int .i64 u.b) (by simp [go_sem])
  have G1 := ((((Grow.refl w).alloc _).alloc _).alloc _).trans g1
  clear g1
  cases h1 : (v.ok && u.ok)
  · have E := HR (false, 3) (by simp only [vIn, h1]; rfl)
    rw [if_neg (by simp)]
    go_wp2
    go_ret2
    exact ⟨by rw [E.out]; rfl, G1⟩
  · have E := HR (decide (v.a ≤ u.a) && decide (v.b ≤ u.b), 0) (by simp only [vIn, h1]; rfl)
    rw [if_pos rfl]
    clear h1 HR
    by_cases h2 : u.a < v.a
    · have h2' : decide (u.a < v.a) = true := by simpa using h2
      have e2 : Hid (decide (v.a ≤ u.a) = false) := show _ = _ by simp; omega
      go_wp2
      refine wp_loop_rounds 1 ?_
      rw [rounds_succ]
      go_wp2
      go_ret2
      exact ⟨by rw [E.out, e2.out]; rfl, G1⟩
    · have h2' : decide (u.a < v.a) = false := by simpa using h2
      have e2 : Hid (decide (v.a ≤ u.a) = true) := show _ = _ by simp; omega
      by_cases h3 : u.b < v.b
      · have h3' : decide (u.b < v.b) = true := by simpa using h3
        have e3 : Hid (decide (v.b ≤ u.b) = false) := show _ = _ by simp; omega
        go_wp2
        refine wp_loop_rounds 2 ?_
        rw [rounds_succ]
        go_wp2
        rw [rounds_succ]
        go_wp2
        go_ret2
        exact ⟨by rw [E.out, e2.out, e3.out]; rfl, G1⟩
      · have h3' : decide (u.b < v.b) = false := by simpa using h3
        have e3 : Hid (decide (v.b ≤ u.b) = true) := show _ = _ by simp; omega
        go_wp2
        refine wp_loop_rounds 3 ?_
        rw [rounds_succ]
        go_wp2
        rw [rounds_succ]
        go_wp2
        rw [rounds_succ]
        go_wp2
        go_ret2
        exact ⟨by rw [E.out, e2.out, e3.out]; rfl, G1⟩

/-- vector.Join -/
def vJoin (v u : Vc) : Vc × Int := if v.ok && u.ok then (⟨max v.a u.a, max v.b u.b⟩, 0) else (⟨0, 0⟩, 3)
set_option maxHeartbeats 1000000 in
theorem vjoin_any (v u : Vc) (w : World) : Calls Try.prog 33 #[v.val, u.val] w fun e w' => e = .returned (.tuple #[(vJoin v u).1.val, .int .i64 (vJoin v u).2]) ∧ Grow w w' := by
  unfold Vc.val
  have HR : ∀ x, vJoin v u = x → Hid (vJoin v u = x) := fun _ h => h
  have i0 : ∀ w, (Instr.index 67 (.agg #[.int .i64 u.a, .int .i64 u.b]) (.int .i64 0)).run Try.prog w = .ok (.int .i64 u.a) w := fun _ => by kernel_rfl
  have i1 : ∀ w, (Instr.index 67 (.agg #[.int .i64 u.a, .int .i64 u.b]) (.int .i64 1)).run Try.prog w = .ok (.int .i64 u.b) w := fun _ => by kernel_rfl
  go_enter Try.func33, Try.ntmps33
  go_wp2_with fail
  refine (vcheck_any [v, u] _ _ _ (vecs_two v u (by simp [go_sem]) (by simp [go_sem]) (by simp [go_sem]) (by simp [go_sem])) (by simp)).mono ?_
  rw [vecsErr_two]
  rintro e w1 ⟨rfl, g1⟩
  have q0 := cell_grow g1 (a := ⟨w.heap.size, 0, none⟩) (v := .int .i64 v.a) (by simp [go_sem])
  have q1 := cell_grow g1 (a := ⟨w.heap.size, 1, none⟩) (v := .int .i64 v.b) (by simp [go_sem])
  have q2 := cell_grow g1 (a := ⟨w.heap.size + 1, 0, none⟩) (v := .int .i64 u.a) (by simp [go_sem])
  have q3 := cell_grow g1 (a := ⟨w.heap.size + 1, 1, none⟩) (v := .int .i64 u.b) (by simp [go_sem])
  have q4 := cell_grow g1 (a := ⟨w.heap.size + 1 + 1, 0, none⟩) (v := .int .i64 0) (by simp [go_sem])
  have q5 := cell_grow g1 (a := ⟨w.heap.size + 1 + 1, 1, none⟩) (v := .int .i64 0) (by simp [go_sem])
  have f0 : w1.frozen? ⟨w.heap.size, 0, none⟩ = false := (frozen_grow g1 (a := ⟨w.heap.size, 0, none⟩) (v := .int .i64 v.a) (by simp [go_sem])).trans (by simp [go_sem])
  have f1 : w1.frozen? ⟨w.heap.size, 1, none⟩ = false := (frozen_grow g1 (a := ⟨w.heap.size, 1, none⟩) (v := .int .i64 v.b) (by simp [go_sem])).trans (by simp [go_sem])
  have f4 : w1.frozen? ⟨w.heap.size + 1 + 1, 0, none⟩ = false := (frozen_grow g1 (a := ⟨w.heap.size + 1 + 1, 0, none⟩) (v := .int .i64 0) (by simp [go_sem])).trans (by simp [go_sem])
  have f5 : w1.frozen? ⟨w.heap.size + 1 + 1, 1, none⟩ = false := (frozen_grow g1 (a := ⟨w.heap.size + 1 + 1, 1, none⟩) (v := .int .i64 0) (by simp [go_sem])).trans (by simp [go_sem])
  have G1 := (((((Grow.refl w).alloc _).alloc _).alloc _).alloc _).trans g1
  clear g1
  cases h1 : (v.ok && u.ok)
  · have E := HR (⟨0, 0⟩, 3) (by simp only [vJoin, h1]; rfl)
    rw [if_neg (by simp)]
    go_wp2
    exact bodyPost_ret (v := .tuple #[.agg #[.int .i64 0, .int .i64 0], .int .i64 3]) (by simp [results, Try.results33, go_sem, q4, q5]) rfl ⟨by rw [E.out], (G1.setCell (by simp; omega) _).setCell (by simp; omega) _⟩
  · rw [if_pos rfl]
    obtain ⟨x, hx⟩ : ∃ x, x = max v.a u.a := ⟨_, rfl⟩
    obtain ⟨y, hy⟩ : ∃ y, y = max v.b u.b := ⟨_, rfl⟩
    have E := HR (⟨x, y⟩, 0) (by rw [hx, hy]; simp only [vJoin, h1]; rfl)
    have HX : Hid (x = max v.a u.a) := hx
    have HY : Hid (y = max v.b u.b) := hy
    clear h1 HR hx hy
    go_wp2
    refine wp_loop_rounds 3 ?_
    rw [rounds_succ]
    go_wp2
    all_goals
      rw [rounds_succ]
      go_wp2
      all_goals
        rw [rounds_succ]
        go_wp2
        refine bodyPost_ret (v := .tuple #[.agg #[.int .i64 x, .int .i64 y], .int .i64 0]) ?_ rfl ⟨by rw [E.out], ?_⟩
        · have hx : x = max v.a u.a := HX.out
          have hy : y = max v.b u.b := HY.out
          simp [results, Try.results33, go_sem, q4, q5]
          omega
        · exact (((G1.setCell (by simp) _).setCell (by simp) _).setCell (by simp; omega) _).setCell (by simp; omega) _
/-- Two vectors held against each other. -/
theorem veq' (n : Nat) (a b c d : Int) (w : World) : (Op.equalIn (n + 1 + 1) 67 (.agg #[.int .i64 a, .int .i64 b]) (.agg #[.int .i64 c, .int .i64 d])).run Try.prog w = .ok (a == c && b == d) w := by
  have hp0 : ∀ w, (part 3 #[.int .i64 a, .int .i64 b] 0).run Try.prog w = .ok (.int .i64 a) w := fun _ => by kernel_rfl
  have hp1 : ∀ w, (part 3 #[.int .i64 a, .int .i64 b] 1).run Try.prog w = .ok (.int .i64 b) w := fun _ => by kernel_rfl
  have hq0 : ∀ w, (part 3 #[.int .i64 c, .int .i64 d] 0).run Try.prog w = .ok (.int .i64 c) w := fun _ => by kernel_rfl
  have hq1 : ∀ w, (part 3 #[.int .i64 c, .int .i64 d] 1).run Try.prog w = .ok (.int .i64 d) w := fun _ => by kernel_rfl
  have hz : ∀ w, (Go.sizeOf 3).run Try.prog w = .ok 1 w := fun _ => by kernel_rfl
  have he : ∀ (x y : Int) w, (Op.equalIn (n + 1) 3 (.int .i64 x) (.int .i64 y)).run Try.prog w = .ok (x == y) w := fun x y w => run_equalIn_int w n 3 .i64 .i64 _ _ Try.underlying3
  rw [Op.equalIn]
  simp only [Sem.run_bind, run_underlying Try.underlying67, Result.andThen_ok, hz]
  simp [Std.Legacy.Range.forIn_eq_forIn_range', Std.Legacy.Range.size, List.range', List.forIn_cons, Sem.run_bind, hp0, hp1, hq0, hq1, he]
  by_cases h0 : a = c
  · by_cases h1 : b = d
    · simp [h0, h1]
    · simp [h0, h1]
  · simp [h0]
theorem veq (a b c d : Int) (w : World) : (Op.equalIn 10000 67 (.agg #[.int .i64 a, .int .i64 b]) (.agg #[.int .i64 c, .int .i64 d])).run Try.prog w = .ok (a == c && b == d) w := veq' 9998 a b c d w
end Go.Proofs.Ytoimoehdnmcmkab
