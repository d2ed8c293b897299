/- cutwaterlaw.chainBegun answers true. -/
import Derived.Test.YtikdncgjaomlcaaC9
namespace Go.Proofs.Ytikdncgjaomlcaa
open Go.RowKit

theorem noText_nil : noText ⟨#[]⟩ = true := by simp [noText]
theorem noText_one (b : UInt8) : noText ⟨#[b]⟩ = false := by simp [noText]
theorem begun0 : (⟨0, false, 0, []⟩ : Ch).write 0 1 (textCl ⟨#[120]⟩) Cl.empty = ((⟨0, false, 0, [zeroCl, (textCl ⟨#[120]⟩)]⟩ : Ch), 0) := by kernel_rfl
theorem begun1 : (⟨0, false, 0, [zeroCl, (textCl ⟨#[120]⟩)]⟩ : Ch).write 0 1 (textCl ⟨#[121]⟩) Cl.empty = ((⟨0, false, 0, []⟩ : Ch), 6) := by kernel_rfl
theorem begun2 : (⟨0, false, 0, [zeroCl, (textCl ⟨#[120]⟩)]⟩ : Ch).write 0 0 junkCl notThere = ((⟨0, false, 0, [junkCl, (textCl ⟨#[120]⟩)]⟩ : Ch), 0) := by kernel_rfl
theorem begun3 : (⟨0, false, 0, [junkCl, (textCl ⟨#[120]⟩)]⟩ : Ch).read 1 = (⟨#[120]⟩, 0) := by kernel_rfl
theorem begun4 : (⟨0, false, 0, [junkCl, (textCl ⟨#[120]⟩)]⟩ : Ch).read 0 = (⟨#[]⟩, 7) := by kernel_rfl
theorem begun5 : (⟨0, false, 0, [junkCl, (textCl ⟨#[120]⟩)]⟩ : Ch).seal 0 = ((⟨0, true, 0, [junkCl, (textCl ⟨#[120]⟩)]⟩ : Ch), 0) := by kernel_rfl
theorem begun6 : (⟨0, true, 0, [junkCl, (textCl ⟨#[120]⟩)]⟩ : Ch).write 0 2 (textCl ⟨#[122]⟩) Cl.empty = ((⟨0, false, 0, []⟩ : Ch), 4) := by kernel_rfl
theorem begun7 : (⟨0, true, 0, [junkCl, (textCl ⟨#[120]⟩)]⟩ : Ch).open = ((⟨1, false, 0, [junkCl, (textCl ⟨#[120]⟩)]⟩ : Ch), 0) := by kernel_rfl
theorem begun8 : (⟨1, false, 0, [junkCl, (textCl ⟨#[120]⟩)]⟩ : Ch).trim 1 = ((⟨1, false, 1, [(textCl ⟨#[120]⟩)]⟩ : Ch), 0) := by kernel_rfl
theorem begun9 : (⟨1, false, 1, [(textCl ⟨#[120]⟩)]⟩ : Ch).tail = (2, 0) := by kernel_rfl
theorem begun10 : (⟨1, false, 1, [(textCl ⟨#[120]⟩)]⟩ : Ch).err = 0 := by kernel_rfl
set_option maxHeartbeats 4000000 in
theorem chainBegun_any (w : World) : Calls Try.prog 30 #[] w fun e w' => e = .returned (.bool true) ∧ Grow w w' := by
  have G : Grow w w := Grow.refl w
  have C_z : CellsAt w none 0 ([] : List Cl) := cellsAt_nil _ _ _
  go_enter Try.func30, Try.ntmps30
  go_wp2_with fail
  refine (cwrite_any (⟨0, false, 0, []⟩ : Ch) none 0 0 1 ⟨#[120]⟩ _ C_z (by decide)).mono ?_
  rw [begun0]
  rintro e w0 ⟨a0, cap0, rfl, g0, D0⟩
  replace G := G.trans g0
  clear g0
  unfold Ch.val
  simp only [List.length_cons, List.length_nil, Nat.zero_add, Nat.reduceAdd]
  have gx : Grow w0 (w0.alloc (Obj.cells #[.int .i64 0, .bool false, .int .i64 0, .slice a0 2 cap0] 42)) := (Grow.refl _).alloc _
  have nb := heap_alloc_new w0 (Obj.cells #[.int .i64 0, .bool false, .int .i64 0, .slice a0 2 cap0] 42)
  have qc0 := cell_of_block (o := 0) nb rfl
  have qc1 := cell_of_block (o := 1) nb rfl
  have qc2 := cell_of_block (o := 2) nb rfl
  have qc3 := cell_of_block (o := 3) nb rfl
  clear nb
  have C_c := D0.grow gx
  replace G := G.trans gx
  clear gx D0
  go_wp2_with fail
  generalize w0.alloc (Obj.cells #[.int .i64 0, .bool false, .int .i64 0, .slice a0 2 cap0] 42) = W0 at *
  refine (cwrite_any (⟨0, false, 0, [zeroCl, (textCl ⟨#[120]⟩)]⟩ : Ch) a0 cap0 0 1 ⟨#[121]⟩ _ C_c (by decide)).mono ?_
  rw [begun1]
  rintro e w1 ⟨a1, cap1, rfl, g1, D1⟩
  replace qc0 := cell_grow g1 qc0
  replace qc1 := cell_grow g1 qc1
  replace qc2 := cell_grow g1 qc2
  replace qc3 := cell_grow g1 qc3
  replace C_c := C_c.grow g1
  replace G := G.trans g1
  clear g1
  unfold Ch.val
  simp only [List.length_nil]
  have gx : Grow w1 (w1.alloc (Obj.cells #[.int .i64 0, .bool false, .int .i64 0, .slice a1 0 cap1] 42)) := (Grow.refl _).alloc _
  replace qc0 := cell_grow gx qc0
  replace qc1 := cell_grow gx qc1
  replace qc2 := cell_grow gx qc2
  replace qc3 := cell_grow gx qc3
  replace C_c := C_c.grow gx
  replace G := G.trans gx
  clear gx D1
  go_wp2_with fail
  generalize w1.alloc (Obj.cells #[.int .i64 0, .bool false, .int .i64 0, .slice a1 0 cap1] 42) = W1 at *
  refine (cfill_any (⟨0, false, 0, [zeroCl, (textCl ⟨#[120]⟩)]⟩ : Ch) a0 cap0 0 0 _ C_c).mono ?_
  rw [begun2]
  rintro e w2 ⟨a2, cap2, rfl, g2, D2⟩
  replace qc0 := cell_grow g2 qc0
  replace qc1 := cell_grow g2 qc1
  replace qc2 := cell_grow g2 qc2
  replace qc3 := cell_grow g2 qc3
  replace C_c := C_c.grow g2
  replace G := G.trans g2
  clear g2
  unfold Ch.val
  simp only [List.length_cons, List.length_nil, Nat.zero_add, Nat.reduceAdd]
  have gx : Grow w2 (w2.alloc (Obj.cells #[.int .i64 0, .bool false, .int .i64 0, .slice a2 2 cap2] 42)) := (Grow.refl _).alloc _
  have nb := heap_alloc_new w2 (Obj.cells #[.int .i64 0, .bool false, .int .i64 0, .slice a2 2 cap2] 42)
  have qd0 := cell_of_block (o := 0) nb rfl
  have qd1 := cell_of_block (o := 1) nb rfl
  have qd2 := cell_of_block (o := 2) nb rfl
  have qd3 := cell_of_block (o := 3) nb rfl
  clear nb
  have C_d := D2.grow gx
  replace qc0 := cell_grow gx qc0
  replace qc1 := cell_grow gx qc1
  replace qc2 := cell_grow gx qc2
  replace qc3 := cell_grow gx qc3
  replace C_c := C_c.grow gx
  replace G := G.trans gx
  clear gx D2
  go_wp2_with fail
  generalize w2.alloc (Obj.cells #[.int .i64 0, .bool false, .int .i64 0, .slice a2 2 cap2] 42) = W2 at *
  refine (read_any (⟨0, false, 0, [junkCl, (textCl ⟨#[120]⟩)]⟩ : Ch) a2 cap2 1 _ C_d).mono ?_
  rw [begun3]
  rintro e w3 ⟨rfl, g3⟩
  replace qc0 := cell_grow g3 qc0
  replace qc1 := cell_grow g3 qc1
  replace qc2 := cell_grow g3 qc2
  replace qc3 := cell_grow g3 qc3
  replace qd0 := cell_grow g3 qd0
  replace qd1 := cell_grow g3 qd1
  replace qd2 := cell_grow g3 qd2
  replace qd3 := cell_grow g3 qd3
  replace C_c := C_c.grow g3
  replace C_d := C_d.grow g3
  replace G := G.trans g3
  clear g3
  go_wp2_with fail
  refine (read_any (⟨0, false, 0, [junkCl, (textCl ⟨#[120]⟩)]⟩ : Ch) a2 cap2 0 _ C_d).mono ?_
  rw [begun4]
  rintro e w4 ⟨rfl, g4⟩
  replace qc0 := cell_grow g4 qc0
  replace qc1 := cell_grow g4 qc1
  replace qc2 := cell_grow g4 qc2
  replace qc3 := cell_grow g4 qc3
  replace qd0 := cell_grow g4 qd0
  replace qd1 := cell_grow g4 qd1
  replace qd2 := cell_grow g4 qd2
  replace qd3 := cell_grow g4 qd3
  replace C_c := C_c.grow g4
  replace C_d := C_d.grow g4
  replace G := G.trans g4
  clear g4
  go_wp2_with fail
  refine (seal_any (⟨0, false, 0, [junkCl, (textCl ⟨#[120]⟩)]⟩ : Ch) a2 cap2 0 _ C_d).mono ?_
  rw [begun5]
  rintro e w5 ⟨a5, cap5, rfl, g5, D5⟩
  replace qc0 := cell_grow g5 qc0
  replace qc1 := cell_grow g5 qc1
  replace qc2 := cell_grow g5 qc2
  replace qc3 := cell_grow g5 qc3
  replace qd0 := cell_grow g5 qd0
  replace qd1 := cell_grow g5 qd1
  replace qd2 := cell_grow g5 qd2
  replace qd3 := cell_grow g5 qd3
  replace C_c := C_c.grow g5
  replace C_d := C_d.grow g5
  replace G := G.trans g5
  clear g5
  unfold Ch.val
  simp only [List.length_cons, List.length_nil, Nat.zero_add, Nat.reduceAdd]
  have gx : Grow w5 (w5.alloc (Obj.cells #[.int .i64 0, .bool true, .int .i64 0, .slice a5 2 cap5] 42)) := (Grow.refl _).alloc _
  have nb := heap_alloc_new w5 (Obj.cells #[.int .i64 0, .bool true, .int .i64 0, .slice a5 2 cap5] 42)
  have qk0 := cell_of_block (o := 0) nb rfl
  have qk1 := cell_of_block (o := 1) nb rfl
  have qk2 := cell_of_block (o := 2) nb rfl
  have qk3 := cell_of_block (o := 3) nb rfl
  clear nb
  have C_k := D5.grow gx
  replace qc0 := cell_grow gx qc0
  replace qc1 := cell_grow gx qc1
  replace qc2 := cell_grow gx qc2
  replace qc3 := cell_grow gx qc3
  replace qd0 := cell_grow gx qd0
  replace qd1 := cell_grow gx qd1
  replace qd2 := cell_grow gx qd2
  replace qd3 := cell_grow gx qd3
  replace C_c := C_c.grow gx
  replace C_d := C_d.grow gx
  replace G := G.trans gx
  clear gx D5
  go_wp2_with fail
  generalize w5.alloc (Obj.cells #[.int .i64 0, .bool true, .int .i64 0, .slice a5 2 cap5] 42) = W5 at *
  refine (cwrite_any (⟨0, true, 0, [junkCl, (textCl ⟨#[120]⟩)]⟩ : Ch) a5 cap5 0 2 ⟨#[122]⟩ _ C_k (by decide)).mono ?_
  rw [begun6]
  rintro e w6 ⟨a6, cap6, rfl, g6, D6⟩
  replace qc0 := cell_grow g6 qc0
  replace qc1 := cell_grow g6 qc1
  replace qc2 := cell_grow g6 qc2
  replace qc3 := cell_grow g6 qc3
  replace qd0 := cell_grow g6 qd0
  replace qd1 := cell_grow g6 qd1
  replace qd2 := cell_grow g6 qd2
  replace qd3 := cell_grow g6 qd3
  replace qk0 := cell_grow g6 qk0
  replace qk1 := cell_grow g6 qk1
  replace qk2 := cell_grow g6 qk2
  replace qk3 := cell_grow g6 qk3
  replace C_c := C_c.grow g6
  replace C_d := C_d.grow g6
  replace C_k := C_k.grow g6
  replace G := G.trans g6
  clear g6
  unfold Ch.val
  simp only [List.length_nil]
  have gx : Grow w6 (w6.alloc (Obj.cells #[.int .i64 0, .bool false, .int .i64 0, .slice a6 0 cap6] 42)) := (Grow.refl _).alloc _
  replace qc0 := cell_grow gx qc0
  replace qc1 := cell_grow gx qc1
  replace qc2 := cell_grow gx qc2
  replace qc3 := cell_grow gx qc3
  replace qd0 := cell_grow gx qd0
  replace qd1 := cell_grow gx qd1
  replace qd2 := cell_grow gx qd2
  replace qd3 := cell_grow gx qd3
  replace qk0 := cell_grow gx qk0
  replace qk1 := cell_grow gx qk1
  replace qk2 := cell_grow gx qk2
  replace qk3 := cell_grow gx qk3
  replace C_c := C_c.grow gx
  replace C_d := C_d.grow gx
  replace C_k := C_k.grow gx
  replace G := G.trans gx
  clear gx D6
  go_wp2_with fail
  generalize w6.alloc (Obj.cells #[.int .i64 0, .bool false, .int .i64 0, .slice a6 0 cap6] 42) = W6 at *
  refine (open_any (⟨0, true, 0, [junkCl, (textCl ⟨#[120]⟩)]⟩ : Ch) a5 cap5 _ C_k).mono ?_
  rw [begun7]
  rintro e w7 ⟨a7, cap7, rfl, g7, D7⟩
  replace qc0 := cell_grow g7 qc0
  replace qc1 := cell_grow g7 qc1
  replace qc2 := cell_grow g7 qc2
  replace qc3 := cell_grow g7 qc3
  replace qd0 := cell_grow g7 qd0
  replace qd1 := cell_grow g7 qd1
  replace qd2 := cell_grow g7 qd2
  replace qd3 := cell_grow g7 qd3
  replace qk0 := cell_grow g7 qk0
  replace qk1 := cell_grow g7 qk1
  replace qk2 := cell_grow g7 qk2
  replace qk3 := cell_grow g7 qk3
  replace C_c := C_c.grow g7
  replace C_d := C_d.grow g7
  replace C_k := C_k.grow g7
  replace G := G.trans g7
  clear g7
  unfold Ch.val
  simp only [List.length_cons, List.length_nil, Nat.zero_add, Nat.reduceAdd]
  have gx : Grow w7 (w7.alloc (Obj.cells #[.int .i64 1, .bool false, .int .i64 0, .slice a7 2 cap7] 42)) := (Grow.refl _).alloc _
  have nb := heap_alloc_new w7 (Obj.cells #[.int .i64 1, .bool false, .int .i64 0, .slice a7 2 cap7] 42)
  have qo0 := cell_of_block (o := 0) nb rfl
  have qo1 := cell_of_block (o := 1) nb rfl
  have qo2 := cell_of_block (o := 2) nb rfl
  have qo3 := cell_of_block (o := 3) nb rfl
  clear nb
  have C_o := D7.grow gx
  replace qc0 := cell_grow gx qc0
  replace qc1 := cell_grow gx qc1
  replace qc2 := cell_grow gx qc2
  replace qc3 := cell_grow gx qc3
  replace qd0 := cell_grow gx qd0
  replace qd1 := cell_grow gx qd1
  replace qd2 := cell_grow gx qd2
  replace qd3 := cell_grow gx qd3
  replace qk0 := cell_grow gx qk0
  replace qk1 := cell_grow gx qk1
  replace qk2 := cell_grow gx qk2
  replace qk3 := cell_grow gx qk3
  replace C_c := C_c.grow gx
  replace C_d := C_d.grow gx
  replace C_k := C_k.grow gx
  replace G := G.trans gx
  clear gx D7
  go_wp2_with fail
  generalize w7.alloc (Obj.cells #[.int .i64 1, .bool false, .int .i64 0, .slice a7 2 cap7] 42) = W7 at *
  refine (trim_any (⟨1, false, 0, [junkCl, (textCl ⟨#[120]⟩)]⟩ : Ch) a7 cap7 1 _ C_o).mono ?_
  rw [begun8]
  rintro e w8 ⟨a8, cap8, rfl, g8, D8⟩
  replace qc0 := cell_grow g8 qc0
  replace qc1 := cell_grow g8 qc1
  replace qc2 := cell_grow g8 qc2
  replace qc3 := cell_grow g8 qc3
  replace qd0 := cell_grow g8 qd0
  replace qd1 := cell_grow g8 qd1
  replace qd2 := cell_grow g8 qd2
  replace qd3 := cell_grow g8 qd3
  replace qk0 := cell_grow g8 qk0
  replace qk1 := cell_grow g8 qk1
  replace qk2 := cell_grow g8 qk2
  replace qk3 := cell_grow g8 qk3
  replace qo0 := cell_grow g8 qo0
  replace qo1 := cell_grow g8 qo1
  replace qo2 := cell_grow g8 qo2
  replace qo3 := cell_grow g8 qo3
  replace C_c := C_c.grow g8
  replace C_d := C_d.grow g8
  replace C_k := C_k.grow g8
  replace C_o := C_o.grow g8
  replace G := G.trans g8
  clear g8
  unfold Ch.val
  simp only [List.length_cons, List.length_nil, Nat.zero_add]
  have gx : Grow w8 (w8.alloc (Obj.cells #[.int .i64 1, .bool false, .int .i64 1, .slice a8 1 cap8] 42)) := (Grow.refl _).alloc _
  have nb := heap_alloc_new w8 (Obj.cells #[.int .i64 1, .bool false, .int .i64 1, .slice a8 1 cap8] 42)
  have qn0 := cell_of_block (o := 0) nb rfl
  have qn1 := cell_of_block (o := 1) nb rfl
  have qn2 := cell_of_block (o := 2) nb rfl
  have qn3 := cell_of_block (o := 3) nb rfl
  clear nb
  have C_n := D8.grow gx
  replace qc0 := cell_grow gx qc0
  replace qc1 := cell_grow gx qc1
  replace qc2 := cell_grow gx qc2
  replace qc3 := cell_grow gx qc3
  replace qd0 := cell_grow gx qd0
  replace qd1 := cell_grow gx qd1
  replace qd2 := cell_grow gx qd2
  replace qd3 := cell_grow gx qd3
  replace qk0 := cell_grow gx qk0
  replace qk1 := cell_grow gx qk1
  replace qk2 := cell_grow gx qk2
  replace qk3 := cell_grow gx qk3
  replace qo0 := cell_grow gx qo0
  replace qo1 := cell_grow gx qo1
  replace qo2 := cell_grow gx qo2
  replace qo3 := cell_grow gx qo3
  replace C_c := C_c.grow gx
  replace C_d := C_d.grow gx
  replace C_k := C_k.grow gx
  replace C_o := C_o.grow gx
  replace G := G.trans gx
  clear gx D8
  go_wp2_with fail
  generalize w8.alloc (Obj.cells #[.int .i64 1, .bool false, .int .i64 1, .slice a8 1 cap8] 42) = W8 at *
  refine (tail_any (⟨1, false, 1, [(textCl ⟨#[120]⟩)]⟩ : Ch) a8 cap8 _ C_n).mono ?_
  rw [begun9]
  rintro e w9 ⟨rfl, g9⟩
  replace qc0 := cell_grow g9 qc0
  replace qc1 := cell_grow g9 qc1
  replace qc2 := cell_grow g9 qc2
  replace qc3 := cell_grow g9 qc3
  replace qd0 := cell_grow g9 qd0
  replace qd1 := cell_grow g9 qd1
  replace qd2 := cell_grow g9 qd2
  replace qd3 := cell_grow g9 qd3
  replace qk0 := cell_grow g9 qk0
  replace qk1 := cell_grow g9 qk1
  replace qk2 := cell_grow g9 qk2
  replace qk3 := cell_grow g9 qk3
  replace qo0 := cell_grow g9 qo0
  replace qo1 := cell_grow g9 qo1
  replace qo2 := cell_grow g9 qo2
  replace qo3 := cell_grow g9 qo3
  replace qn0 := cell_grow g9 qn0
  replace qn1 := cell_grow g9 qn1
  replace qn2 := cell_grow g9 qn2
  replace qn3 := cell_grow g9 qn3
  replace C_c := C_c.grow g9
  replace C_d := C_d.grow g9
  replace C_k := C_k.grow g9
  replace C_o := C_o.grow g9
  replace C_n := C_n.grow g9
  replace G := G.trans g9
  clear g9
  go_wp2_with fail
  refine (check_any (⟨1, false, 1, [(textCl ⟨#[120]⟩)]⟩ : Ch) a8 cap8 _ C_n).mono ?_
  rw [begun10]
  rintro e w10 ⟨rfl, g10⟩
  replace qc0 := cell_grow g10 qc0
  replace qc1 := cell_grow g10 qc1
  replace qc2 := cell_grow g10 qc2
  replace qc3 := cell_grow g10 qc3
  replace qd0 := cell_grow g10 qd0
  replace qd1 := cell_grow g10 qd1
  replace qd2 := cell_grow g10 qd2
  replace qd3 := cell_grow g10 qd3
  replace qk0 := cell_grow g10 qk0
  replace qk1 := cell_grow g10 qk1
  replace qk2 := cell_grow g10 qk2
  replace qk3 := cell_grow g10 qk3
  replace qo0 := cell_grow g10 qo0
  replace qo1 := cell_grow g10 qo1
  replace qo2 := cell_grow g10 qo2
  replace qo3 := cell_grow g10 qo3
  replace qn0 := cell_grow g10 qn0
  replace qn1 := cell_grow g10 qn1
  replace qn2 := cell_grow g10 qn2
  replace qn3 := cell_grow g10 qn3
  replace C_c := C_c.grow g10
  replace C_d := C_d.grow g10
  replace C_k := C_k.grow g10
  replace C_o := C_o.grow g10
  replace C_n := C_n.grow g10
  replace G := G.trans g10
  clear g10
  go_wp2
  go_ret
  exact ⟨rfl, G⟩
end Go.Proofs.Ytikdncgjaomlcaa
