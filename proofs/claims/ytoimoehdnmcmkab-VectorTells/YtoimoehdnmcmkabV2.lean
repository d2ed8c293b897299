/- Package vector: Check, Has, Join, Within: what each answers, whatever it is handed. -/
import Derived.Test.YtoimoehdnmcmkabV1
namespace Go.Proofs.Ytoimoehdnmcmkab
open Go.RowKit

/-- entry.isRegion -/
def isReg (r : Int) : Bool := r == 0 || r == 1
theorem isRegion_any (r : Int) (w : World) :
    Calls Try.prog 87 #[.int .i64 r] w fun e w' => e = .returned (.bool (isReg r)) ∧ w' = w := by
  by_cases h0 : r = 0
  · subst h0
    go_enter Try.func87, Try.ntmps87
    go_wp2
    go_ret
    exact ⟨rfl, rfl⟩
  · have h0' : (r == 0) = false := by simpa using h0
    go_enter Try.func87, Try.ntmps87
    go_wp2
    go_ret
    exact ⟨by simp [isReg, h0'], rfl⟩
/-- entry.isId -/
def isIdB (r n : Int) : Bool := isReg r && decide (1 ≤ n) && decide (n ≤ 20)
theorem isId_any (r n : Int) (w : World) :
    Calls Try.prog 83 #[.agg #[.int .i64 r, .int .i64 n]] w fun e w' => e = .returned (.bool (isIdB r n)) ∧ Grow w w' := by
  cases h0 : isReg r
  · go_enter Try.func83, Try.ntmps83
    go_wp2_with (go_at_call 87; refine (isRegion_any _ _).mono ?_; rintro e w' ⟨rfl, rfl⟩)
    go_ret
    exact ⟨by simp [isIdB, h0], (Grow.refl _).alloc _⟩
  · by_cases h1 : 1 ≤ n
    · go_enter Try.func83, Try.ntmps83
      go_wp2_with (go_at_call 87; refine (isRegion_any _ _).mono ?_; rintro e w' ⟨rfl, rfl⟩)
      go_ret
      exact ⟨by simp [isIdB, h0, h1], (Grow.refl _).alloc _⟩
    · have h1' : decide (1 ≤ n) = false := by simpa using h1
      go_enter Try.func83, Try.ntmps83
      go_wp2_with (go_at_call 87; refine (isRegion_any _ _).mono ?_; rintro e w' ⟨rfl, rfl⟩)
      go_ret
      exact ⟨by simp [isIdB, h0]; omega, (Grow.refl _).alloc _⟩
/-- entry.checkLinks of no links. -/
theorem checkLinks_none (r n : Int) (w : World) :
    Calls Try.prog 84 #[.agg #[.int .i64 r, .int .i64 n], .slice none 0 0] w fun e w' => e = .returned (.int .i64 0) ∧ Grow w w' := by
  go_enter Try.func84, Try.ntmps84
  go_wp2
  refine wp_loop_rounds 1 ?_
  rw [rounds_succ]
  go_wp2
  go_ret
  exact ⟨rfl, (Grow.refl _).alloc _⟩
/-- entry.Check of an entry that can have nothing wrong but its id. -/
def idErr (r n : Int) : Int := if isIdB r n then 0 else 3
theorem echeck_id (r n : Int) (w : World) :
    Calls Try.prog 76 #[.agg #[.int .i64 r, .int .i64 n, .int .i64 7, .string ⟨#[]⟩, .slice none 0 0]] w fun e w' => e = .returned (.int .i64 (idErr r n)) ∧ Grow w w' := by
  cases h0 : isIdB r n
  · go_enter Try.func76, Try.ntmps76
    go_wp2_with fail
    refine (isId_any _ _ _).mono ?_
    rw [h0]
    rintro e w1 ⟨rfl, g1⟩
    go_wp2
    go_ret
    exact ⟨by simp [idErr, h0], ((Grow.refl _).alloc _).trans g1⟩
  · go_enter Try.func76, Try.ntmps76
    go_wp2_with fail
    refine (isId_any _ _ _).mono ?_
    rw [h0]
    rintro e w1 ⟨rfl, g1⟩
    have q0 := cell_grow g1 (a := ⟨w.heap.size, 0, none⟩) (v := .int .i64 r) (by simp)
    have q1 := cell_grow g1 (a := ⟨w.heap.size, 1, none⟩) (v := .int .i64 n) (by simp)
    have q2 := cell_grow g1 (a := ⟨w.heap.size, 2, none⟩) (v := .int .i64 7) (by simp)
    have q3 := cell_grow g1 (a := ⟨w.heap.size, 3, none⟩) (v := .string ⟨#[]⟩) (by simp)
    have q4 := cell_grow g1 (a := ⟨w.heap.size, 4, none⟩) (v := .slice none 0 0) (by simp)
    go_wp2_with fail
    refine (checkLinks_none _ _ _).mono ?_
    rintro e w2 ⟨rfl, g2⟩
    go_wp2
    go_ret
    exact ⟨by simp [idErr, h0], (((Grow.refl _).alloc _).trans g1).trans g2⟩
theorem checkId_any (r n : Int) (w : World) :
    Calls Try.prog 66 #[.agg #[.int .i64 r, .int .i64 n]] w fun e w' => e = .returned (.int .i64 (idErr r n)) ∧ Grow w w' := by
  go_enter Try.func66, Try.ntmps66
  go_wp2_with fail
  refine (echeck_id _ _ _).mono ?_
  rintro e w1 ⟨rfl, g1⟩
  go_wp2
  go_ret
  exact ⟨rfl, ((Grow.refl _).alloc _).trans g1⟩

theorem vecs_one {w : World} {b : Nat} (v : Vc) (h0 : w.cell? ⟨b, 0, none⟩ = some (.int .i64 v.a)) (h1 : w.cell? ⟨b, 1, none⟩ = some (.int .i64 v.b)) : VecsAt w b [v] := by
  intro k u hk
  match k with
  | 0 => cases hk; exact ⟨h0, h1⟩
  | k + 1 => cases hk
theorem vecs_two {w : World} {b : Nat} (v u : Vc) (h0 : w.cell? ⟨b, 0, none⟩ = some (.int .i64 v.a)) (h1 : w.cell? ⟨b, 1, none⟩ = some (.int .i64 v.b)) (h2 : w.cell? ⟨b, 2, none⟩ = some (.int .i64 u.a)) (h3 : w.cell? ⟨b, 3, none⟩ = some (.int .i64 u.b)) : VecsAt w b [v, u] := by
  intro k x hk
  match k with
  | 0 => cases hk; exact ⟨h0, h1⟩
  | 1 => cases hk; exact ⟨h2, h3⟩
  | k + 2 => cases hk

/-- vector.Check -/
def Vc.err (v : Vc) : Int := if v.ok then 0 else 3
theorem vecsErr_one (v : Vc) : vecsErr [v] = v.err := by simp [vecsErr, Vc.err]
theorem vchk_any (v : Vc) (w : World) : Calls Try.prog 39 #[v.val] w fun e w' => e = .returned (.int .i64 v.err) ∧ Grow w w' := by
  unfold Vc.val
  go_enter Try.func39, Try.ntmps39
  go_wp2_with fail
  refine (vcheck_any [v] _ _ _ (vecs_one v (by simp) (by simp)) (by simp)).mono ?_
  rintro e w1 ⟨rfl, g1⟩
  go_wp2
  go_ret
  exact ⟨by rw [vecsErr_one]; rfl, (((Grow.refl _).alloc _).alloc _).trans g1⟩
/-- vector.Has -/
def Vc.has (v : Vc) (r n : Int) : Bool × Int := if v.ok then (if isIdB r n then (decide (n ≤ if r = 0 then v.a else v.b), 0) else (false, 3)) else (false, 3)
set_option maxHeartbeats 1000000 in
theorem vhas_any (v : Vc) (r n : Int) (w : World) : Calls Try.prog 34 #[v.val, .agg #[.int .i64 r, .int .i64 n]] w fun e w' => e = .returned (.tuple #[.bool (v.has r n).1, .int .i64 (v.has r n).2]) ∧ Grow w w' := by
  unfold Vc.val
  have HR : ∀ x, v.has r n = x → Hid (v.has r n = x) := fun _ h => h
  go_enter Try.func34, Try.ntmps34
  go_wp2_with fail
  refine (vcheck_any [v] _ _ _ (vecs_one v (by simp [go_sem]) (by simp [go_sem])) (by simp)).mono ?_
  rw [vecsErr_one]
  rintro e w1 ⟨rfl, g1⟩
  have q0 := cell_grow g1 (a := ⟨w.heap.size, 0, none⟩) (v := .int .i64 v.a) (by simp [go_sem])
  have q1 := cell_grow g1 (a := ⟨w.heap.size, 1, none⟩) (v := .int .i64 v.b) (by simp [go_sem])
  have q2 := cell_grow g1 (a := ⟨w.heap.size + 1, 0, none⟩) (v := .int .i64 r) (by simp [go_sem])
  have q3 := cell_grow g1 (a := ⟨w.heap.size + 1, 1, none⟩) (v := .int .i64 n) (by simp [go_sem])
  have G1 := ((((Grow.refl w).alloc _).alloc _).alloc _).trans g1
  clear g1
  cases h1 : v.ok
  · have E := HR (false, 3) (by simp [Vc.has, h1])
    rw [show v.err = 3 by simp [Vc.err, h1]]
    go_wp2
    go_ret2
    exact ⟨by rw [E.out]; rfl, G1⟩
  · rw [show v.err = 0 by simp [Vc.err, h1]]
    go_wp2_with fail
    refine (checkId_any _ _ _).mono ?_
    rintro e w2 ⟨rfl, g2⟩
    have G2 := G1.trans g2
    have p0 := cell_grow g2 q0
    have p1 := cell_grow g2 q1
    have p2 := cell_grow g2 q2
    have p3 := cell_grow g2 q3
    clear q0 q1 q2 q3 g2 G1
    cases h2 : isIdB r n
    · have E := HR (false, 3) (by simp [Vc.has, h1, h2])
      rw [show idErr r n = 3 by simp [idErr, h2]]
      go_wp2
      go_ret2
      exact ⟨by rw [E.out]; rfl, G2⟩
    · have E := HR (decide (n ≤ if r = 0 then v.a else v.b), 0) (by simp [Vc.has, h1, h2])
      rw [show idErr r n = 0 by simp [idErr, h2]]
      have hr : r = 0 ∨ r = 1 := by
        have h3 : isReg r = true := by
          unfold isIdB at h2
          cases hq : isReg r
          · rw [hq] at h2; cases h2
          · rfl
        simpa [isReg] using h3
      clear h1 h2
      rcases hr with rfl | rfl
      · go_wp2
        go_quiet (fail)
        go_wp2
        go_ret2
        exact ⟨by rw [E.out]; rfl, by first | exact G2.drewN _ | exact G2.drew | exact G2⟩
      · go_wp2
        go_quiet (fail)
        go_wp2
        go_ret2
        exact ⟨by rw [E.out]; rfl, by first | exact G2.drewN _ | exact G2.drew | exact G2⟩
end Go.Proofs.Ytoimoehdnmcmkab
