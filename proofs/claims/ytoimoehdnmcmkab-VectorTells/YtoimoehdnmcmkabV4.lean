/- cutwaterlaw.vectorBegun answers true. -/
import Derived.Test.YtoimoehdnmcmkabV3
namespace Go.Proofs.Ytoimoehdnmcmkab
open Go.RowKit

theorem mkId_any (r n : Int) (w : World) : Calls Try.prog 67 #[.int .i64 r, .int .i64 n] w fun e w' => e = .returned (.agg #[.int .i64 r, .int .i64 n]) ∧ Grow w w' := by
  go_enter Try.func67, Try.ntmps67
  go_wp2
  exact bodyPost_ret (v := .agg #[.int .i64 r, .int .i64 n]) (by simp [results, Try.results67, go_sem]) rfl ⟨rfl, by first | exact (((Grow.refl w).alloc _).setCell (by simp) _).setCell (by simp) _ | exact (Grow.refl w).alloc _⟩
theorem vbegun_join : vJoin ⟨1, 5⟩ ⟨3, 2⟩ = (⟨3, 5⟩, 0) := by rfl
theorem vbegun_has : Vc.has ⟨3, 5⟩ 0 3 = (true, 0) := by decide
theorem vbegun_in : vIn ⟨1, 5⟩ ⟨3, 5⟩ = (true, 0) := by decide
theorem vbegun_err : Vc.err ⟨3, 5⟩ = 0 := by decide
theorem vb_join (w : World) : Calls Try.prog 33 #[.agg #[.int .i64 1, .int .i64 5], .agg #[.int .i64 3, .int .i64 2]] w fun e w' => e = .returned (.tuple #[.agg #[.int .i64 3, .int .i64 5], .int .i64 0]) ∧ Grow w w' := by
  have h := vjoin_any ⟨1, 5⟩ ⟨3, 2⟩ w
  rw [vbegun_join] at h
  exact h
theorem vb_has (w : World) : Calls Try.prog 34 #[.agg #[.int .i64 3, .int .i64 5], .agg #[.int .i64 0, .int .i64 3]] w fun e w' => e = .returned (.tuple #[.bool true, .int .i64 0]) ∧ Grow w w' := by
  have h := vhas_any ⟨3, 5⟩ 0 3 w
  rw [vbegun_has] at h
  exact h
theorem vb_in (w : World) : Calls Try.prog 35 #[.agg #[.int .i64 1, .int .i64 5], .agg #[.int .i64 3, .int .i64 5]] w fun e w' => e = .returned (.tuple #[.bool true, .int .i64 0]) ∧ Grow w w' := by
  have h := vwithin_any ⟨1, 5⟩ ⟨3, 5⟩ w
  rw [vbegun_in] at h
  exact h
theorem vb_check (w : World) : Calls Try.prog 39 #[.agg #[.int .i64 3, .int .i64 5]] w fun e w' => e = .returned (.int .i64 0) ∧ Grow w w' := by
  have h := vchk_any ⟨3, 5⟩ w
  rw [vbegun_err] at h
  exact h
set_option maxHeartbeats 2000000 in
theorem vbegun_any (w : World) : Calls Try.prog 38 #[] w fun e w' => e = .returned (.bool true) ∧ Grow w w' := by
  go_enter Try.func38, Try.ntmps38
  go_wp2_with fail
  refine (vb_join _).mono ?_
  rintro e w1 ⟨rfl, g1⟩
  go_wp2_with fail
  have q0 : (w1.alloc (Obj.cells #[.int .i64 3, .int .i64 5] 67)).drew.cell? ⟨w1.heap.size, 0, none⟩ = some (.int .i64 3) := by simp [go_sem]
  have q1 : (w1.alloc (Obj.cells #[.int .i64 3, .int .i64 5] 67)).drew.cell? ⟨w1.heap.size, 1, none⟩ = some (.int .i64 5) := by simp [go_sem]
  have G1 : Grow w (w1.alloc (Obj.cells #[.int .i64 3, .int .i64 5] 67)).drew := (g1.alloc _).drew
  clear g1
  refine wp_region_path [(0, 0), (1, 1), (2, 1), (3, 0), (4, 0), (5, 0), (6, 0), (7, 0)] (by kernel_rfl) (by kernel_rfl) (by kernel_rfl) (by kernel_rfl) ?_
  generalize (w1.alloc (Obj.cells #[.int .i64 3, .int .i64 5] 67)).drew = W at *
  simp only [parts, headed, List.getElem?_toArray, List.getElem?_cons_zero, List.getElem?_cons_succ]
  refine parts_step fun K HK => ?_
  go_wp2_with fail
  refine (mkId_any _ _ _).mono ?_
  rintro e w2 ⟨rfl, g2⟩
  go_wp2_with fail
  refine HK.out _ _ g2 ?_
  clear HK K
  refine parts_step fun K HK => ?_
  go_wp2_with fail
  refine (vb_has _).mono ?_
  rintro e w3 ⟨rfl, g3⟩
  go_wp2_with fail
  refine HK.out _ _ g3 ?_
  clear HK K
  refine parts_step fun K HK => ?_
  go_wp2_with fail
  refine HK.out _ _ (Grow.refl _) ?_
  clear HK K
  refine parts_done ?_
  have g4 := g2.trans g3
  have p0 := cell_grow g4 q0
  have p1 := cell_grow g4 q1
  have G2 := G1.trans g4
  clear g4 q0 q1 g2 g3 G1
  go_wp2_with fail
  refine (vb_in _).mono ?_
  rintro e w4 ⟨rfl, g4⟩
  have q0 := cell_grow g4 p0
  have q1 := cell_grow g4 p1
  have G4 := G2.trans g4
  clear p0 p1 g4 G2
  go_wp2_with fail
  refine (vb_check _).mono ?_
  rintro e w5 ⟨rfl, g5⟩
  have p0 := cell_grow g5 q0
  have p1 := cell_grow g5 q1
  have G5 := G4.trans g5
  clear q0 q1
  have hv := veq
  go_wp2
  go_ret
  exact ⟨rfl, G5⟩
end Go.Proofs.Ytoimoehdnmcmkab
