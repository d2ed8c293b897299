/- cutwaterlaw.EntryLess answers true, whatever ids it is handed. -/
import Derived.Test.YtikdncgjaomlcaaK
namespace Go.Proofs.Ytikdncgjaomlcaa
open Go.RowKit

theorem less_law (ar an br bn cr cn : Int) : (idLess ar an br bn = true → idLess br bn ar an = false) ∧ (idLess ar an br bn = true ∨ idLess br bn ar an = true ↔ same2 ar an br bn = false) ∧ (idLess ar an br bn = true → idLess br bn cr cn = true → idLess ar an cr cn = true) := by
  unfold idLess same2
  refine ⟨?_, ?_, ?_⟩
  · split <;> split <;> simp <;> omega
  · split <;> split <;> simp <;> omega
  · split <;> split <;> split <;> simp <;> omega

set_option maxHeartbeats 4000000 in
theorem entryLess_walk (ar an br bn cr cn : Int) (w : World) :
    Calls Try.prog 5 #[.agg #[.int .i64 ar, .int .i64 an], .agg #[.int .i64 br, .int .i64 bn], .agg #[.int .i64 cr, .int .i64 cn]] w fun e w' => e = .returned (.bool true) ∧ Grow w w' := by
  obtain ⟨l1, l2, l3⟩ := less_law ar an br bn cr cn
  have hne := run_neq23 ar an br bn
  have hnot : ∀ (x : Bool) (w : World), (Op.unary .not (.bool x)).run Try.prog w = .ok (.bool (!x)) w := fun _ _ => rfl
  generalize hx : idLess ar an br bn = x at l1 l2 l3
  generalize hy : idLess br bn ar an = y at l1 l2 l3
  generalize hz : idLess br bn cr cn = z at l1 l2 l3
  generalize hu : idLess ar an cr cn = u at l1 l2 l3
  generalize same2 ar an br bn = q at l1 l2 l3 hne
  have X : Hid (idLess ar an br bn = x) := hx
  have Y : Hid (idLess br bn ar an = y) := hy
  have Z : Hid (idLess br bn cr cn = z) := hz
  have U : Hid (idLess ar an cr cn = u) := hu
  clear hx hy hz hu
  go_enter Try.func5, Try.ntmps5
  go_wp2
  have c0 : (((w.alloc (Obj.cells #[Value.int IntKind.i64 ar, Value.int IntKind.i64 an] 23)).alloc (Obj.cells #[Value.int IntKind.i64 br, Value.int IntKind.i64 bn] 23)).alloc (Obj.cells #[Value.int IntKind.i64 cr, Value.int IntKind.i64 cn] 23)).cell? ⟨w.heap.size, 0, none⟩ = some (.int .i64 ar) := by simp [go_sem]
  have c1 : (((w.alloc (Obj.cells #[Value.int IntKind.i64 ar, Value.int IntKind.i64 an] 23)).alloc (Obj.cells #[Value.int IntKind.i64 br, Value.int IntKind.i64 bn] 23)).alloc (Obj.cells #[Value.int IntKind.i64 cr, Value.int IntKind.i64 cn] 23)).cell? ⟨w.heap.size, 1, none⟩ = some (.int .i64 an) := by simp [go_sem]
  have c2 : (((w.alloc (Obj.cells #[Value.int IntKind.i64 ar, Value.int IntKind.i64 an] 23)).alloc (Obj.cells #[Value.int IntKind.i64 br, Value.int IntKind.i64 bn] 23)).alloc (Obj.cells #[Value.int IntKind.i64 cr, Value.int IntKind.i64 cn] 23)).cell? ⟨w.heap.size + 1, 0, none⟩ = some (.int .i64 br) := by simp [go_sem]
  have c3 : (((w.alloc (Obj.cells #[Value.int IntKind.i64 ar, Value.int IntKind.i64 an] 23)).alloc (Obj.cells #[Value.int IntKind.i64 br, Value.int IntKind.i64 bn] 23)).alloc (Obj.cells #[Value.int IntKind.i64 cr, Value.int IntKind.i64 cn] 23)).cell? ⟨w.heap.size + 1, 1, none⟩ = some (.int .i64 bn) := by simp [go_sem]
  have c4 : (((w.alloc (Obj.cells #[Value.int IntKind.i64 ar, Value.int IntKind.i64 an] 23)).alloc (Obj.cells #[Value.int IntKind.i64 br, Value.int IntKind.i64 bn] 23)).alloc (Obj.cells #[Value.int IntKind.i64 cr, Value.int IntKind.i64 cn] 23)).cell? ⟨w.heap.size + 1 + 1, 0, none⟩ = some (.int .i64 cr) := by simp [go_sem]
  have c5 : (((w.alloc (Obj.cells #[Value.int IntKind.i64 ar, Value.int IntKind.i64 an] 23)).alloc (Obj.cells #[Value.int IntKind.i64 br, Value.int IntKind.i64 bn] 23)).alloc (Obj.cells #[Value.int IntKind.i64 cr, Value.int IntKind.i64 cn] 23)).cell? ⟨w.heap.size + 1 + 1, 1, none⟩ = some (.int .i64 cn) := by simp [go_sem]
  have G : Grow w (((w.alloc (Obj.cells #[Value.int IntKind.i64 ar, Value.int IntKind.i64 an] 23)).alloc (Obj.cells #[Value.int IntKind.i64 br, Value.int IntKind.i64 bn] 23)).alloc (Obj.cells #[Value.int IntKind.i64 cr, Value.int IntKind.i64 cn] 23)) := ((Grow.refl _).alloc _ |>.alloc _).alloc _
  generalize (((w.alloc (Obj.cells #[Value.int IntKind.i64 ar, Value.int IntKind.i64 an] 23)).alloc (Obj.cells #[Value.int IntKind.i64 br, Value.int IntKind.i64 bn] 23)).alloc (Obj.cells #[Value.int IntKind.i64 cr, Value.int IntKind.i64 cn] 23)) = W at *
  go_region_held3 (fun w' => Grow w w' ∧ w'.cell? ⟨w.heap.size, 0, none⟩ = some (.int .i64 ar) ∧ w'.cell? ⟨w.heap.size, 1, none⟩ = some (.int .i64 an) ∧ w'.cell? ⟨w.heap.size + 1, 0, none⟩ = some (.int .i64 br) ∧ w'.cell? ⟨w.heap.size + 1, 1, none⟩ = some (.int .i64 bn) ∧ w'.cell? ⟨w.heap.size + 1 + 1, 0, none⟩ = some (.int .i64 cr) ∧ w'.cell? ⟨w.heap.size + 1 + 1, 1, none⟩ = some (.int .i64 cn))
    (first | ((try go_split_ands); (repeat' apply And.intro) <;> first | assumption | exact Grow.drew (by assumption) | exact cell_grow hg (by assumption) | exact Grow.trans (by assumption) hg | exact Grow.trans (Grow.drew (by assumption)) hg))
    (first | (go_at_call 15; refine (less_any _ _ _ _ _).mono ?_; rintro e w1 ⟨rfl, hg⟩))
  rename_i hS
  obtain ⟨G1, c0, c1, c2, c3, c4, c5⟩ := hS
  rw [X.out, Y.out]
  have HL : Hid ((x = true → y = false) ∧ (x = true ∨ y = true ↔ q = false) ∧ (x = true → z = true → u = true)) := ⟨l1, l2, l3⟩
  clear l1 l2 l3
  have Q : q = !(x || y) := by
    have := HL.out.2.1
    cases q <;> cases x <;> cases y <;> simp at this ⊢
  have NXY : (x && y) = false := by have := HL.out.1; cases x <;> cases y <;> simp at this ⊢
  subst Q
  cases x
  · cases y
    all_goals
      go_wp2_with (first
        | (go_at_call 14; refine (entryBegun_any _).mono ?_; rintro e w2 ⟨rfl, hg2⟩; have d0 := cell_grow hg2 c0; have d1 := cell_grow hg2 c1; have d2 := cell_grow hg2 c2; have d3 := cell_grow hg2 c3; have d4 := cell_grow hg2 c4; have d5 := cell_grow hg2 c5))
      go_ret
      exact ⟨rfl, G1.trans hg2⟩
  · cases y
    · cases z
      · go_wp2_with (first
          | (go_at_call 14; refine (entryBegun_any _).mono ?_; rintro e w2 ⟨rfl, hg2⟩; have d0 := cell_grow hg2 c0; have d1 := cell_grow hg2 c1; have d2 := cell_grow hg2 c2; have d3 := cell_grow hg2 c3; have d4 := cell_grow hg2 c4; have d5 := cell_grow hg2 c5))
        refine (less_any _ _ _ _ _).mono ?_
        rw [Z.out]
        rintro e w3 ⟨rfl, hg3⟩
        go_wp2
        go_ret
        exact ⟨rfl, (G1.trans hg2).trans hg3⟩
      · obtain rfl : u = true := HL.out.2.2 rfl rfl
        go_wp2_with (first
          | (go_at_call 14; refine (entryBegun_any _).mono ?_; rintro e w2 ⟨rfl, hg2⟩; have d0 := cell_grow hg2 c0; have d1 := cell_grow hg2 c1; have d2 := cell_grow hg2 c2; have d3 := cell_grow hg2 c3; have d4 := cell_grow hg2 c4; have d5 := cell_grow hg2 c5))
        refine (less_any _ _ _ _ _).mono ?_
        rw [Z.out]
        rintro e w3 ⟨rfl, hg3⟩
        have f0 := cell_grow hg3 d0
        have f1 := cell_grow hg3 d1
        have f4 := cell_grow hg3 d4
        have f5 := cell_grow hg3 d5
        clear d0 d1 d2 d3 d4 d5 c0 c1 c2 c3 c4 c5
        go_wp2_with fail
        refine (less_any _ _ _ _ _).mono ?_
        rw [U.out]
        rintro e w4 ⟨rfl, hg4⟩
        go_wp2
        go_ret
        exact ⟨rfl, ((G1.trans hg2).trans hg3).trans hg4⟩
    · simp at NXY
end Go.Proofs.Ytikdncgjaomlcaa
