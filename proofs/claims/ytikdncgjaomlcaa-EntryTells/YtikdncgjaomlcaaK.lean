/- cutwaterlaw.entryBegun answers true. -/
import Derived.Test.YtikdncgjaomlcaaN
import Derived.Test.YtikdncgjaomlcaaU
namespace Go.Proofs.Ytikdncgjaomlcaa
open Go.RowKit

theorem begun_check2 : checkErr 0 2 3 (⟨#[100, 114, 111, 112, 32, 97]⟩ : ByteArray).size 1 (fun _ => 0) (fun _ => 1) = 0 := by decide
theorem begun_check3 : checkErr 1 2 2 (⟨#[112, 117, 116, 32, 98, 32, 122]⟩ : ByteArray).size 2 (fun k => if k = 0 then 0 else 1) (fun k => if k = 0 then 2 else 1) = 0 := by decide
theorem begun_enc : encStr 0 2 3 ⟨#[100, 114, 111, 112, 32, 97]⟩ 1 (fun _ => 0) (fun _ => 1) = ⟨#[0, 2, 3, 1, 0, 1, 6, 100, 114, 111, 112, 32, 97]⟩ := by decide
theorem begun_dec : decErr ⟨#[0, 2, 3, 1, 0, 1, 6, 100, 114, 111, 112, 32, 97, 122]⟩ = 0 := by decide
theorem begun_dec5 : decErr ⟨#[0, 1, 1]⟩ = 5 := by decide
theorem begun_dec1 : decErr ⟨#[2]⟩ = 1 := by decide

theorem IdsAt.congr {w : World} {a : Option Addr} {len : Nat} {R N R' N' : Nat → Int} (h : IdsAt w a len R N) (h0 : ∀ k, k < len → R k = R' k) (h1 : ∀ k, k < len → N k = N' k) : IdsAt w a len R' N' := by
  refine ⟨h.1, ?_⟩
  rcases h.2 with h2 | ⟨b, off, ha, c0, c1⟩
  · exact .inl h2
  · exact .inr ⟨b, off, ha, fun k hk => by rw [← h0 k hk]; exact c0 k hk, fun k hk => by rw [← h1 k hk]; exact c1 k hk⟩
theorem begun_decode (w : World) : Calls Try.prog 10 #[.string ⟨#[0, 2, 3, 1, 0, 1, 6, 100, 114, 111, 112, 32, 97, 122]⟩] w fun e w' => ∃ a cap, e = .returned (.tuple #[.agg #[.int .i64 0, .int .i64 2, .int .i64 3, .string ⟨#[100, 114, 111, 112, 32, 97]⟩, .slice a 1 cap], .int .i64 13, .int .i64 0]) ∧ Grow w w' ∧ IdsAt w' a 1 (fun _ => 0) (fun _ => 1) := by
  refine (decode_ok _ w (by decide) begun_dec).mono ?_
  rintro e w' ⟨a, cap, rfl, g, i⟩
  exact ⟨a, cap, rfl, g, i.congr (fun k hk => by obtain rfl : k = 0 := by (have h1 : bAt ⟨#[0, 2, 3, 1, 0, 1, 6, 100, 114, 111, 112, 32, 97, 122]⟩ 3 = 1 := by decide); omega
                                                 decide) (fun k hk => by obtain rfl : k = 0 := by (have h1 : bAt ⟨#[0, 2, 3, 1, 0, 1, 6, 100, 114, 111, 112, 32, 97, 122]⟩ 3 = 1 := by decide); omega
                                                                         decide)⟩
theorem begun_err5 (w : World) : Calls Try.prog 10 #[.string ⟨#[0, 1, 1]⟩] w fun e w' => e = .returned (.tuple #[.agg #[.int .i64 0, .int .i64 0, .int .i64 0, .string ⟨#[]⟩, .slice none 0 0], .int .i64 0, .int .i64 5]) ∧ Grow w w' := by
  have := decode_err ⟨#[0, 1, 1]⟩ w (by decide) (by rw [begun_dec5]; decide)
  rwa [begun_dec5] at this
theorem begun_err1 (w : World) : Calls Try.prog 10 #[.string ⟨#[2]⟩] w fun e w' => e = .returned (.tuple #[.agg #[.int .i64 0, .int .i64 0, .int .i64 0, .string ⟨#[]⟩, .slice none 0 0], .int .i64 0, .int .i64 1]) ∧ Grow w w' := by
  have := decode_err ⟨#[2]⟩ w (by decide) (by rw [begun_dec1]; decide)
  rwa [begun_dec1] at this

set_option maxHeartbeats 4000000 in
theorem entryBegun_any (w : World) : Calls Try.prog 14 #[] w fun e w' => e = .returned (.bool true) ∧ Grow w w' := by
  go_enter Try.func14, Try.ntmps14
  go_wp2_with fail
  refine (entries_any _).mono ?_
  rintro e w1 ⟨b, a2, a3, rfl, four, g1⟩
  have c0 := four.c10
  have c1 := four.c11
  have c2 := four.c12
  have c3 := four.c13
  have c4 := four.c14
  go_wp2_with fail
  refine (encode_ok 0 2 3 _ a2 1 1 (fun _ => 0) (fun _ => 1) _ four.i2 begun_check2).mono ?_
  rw [begun_enc]
  rintro e w2 ⟨rfl, g2⟩
  clear c0 c1 c2 c3 c4 four
  have G2 := g1.trans g2
  clear g1 g2
  go_wp2_with fail
  rw [show (⟨#[0, 2, 3, 1, 0, 1, 6, 100, 114, 111, 112, 32, 97]⟩ : ByteArray) ++ ⟨#[122]⟩ = ⟨#[0, 2, 3, 1, 0, 1, 6, 100, 114, 111, 112, 32, 97, 122]⟩ from by decide]
  refine (begun_decode _).mono ?_
  rintro e w3 ⟨ax, capx, rfl, g3, i3⟩
  have G3 := G2.trans g3
  clear G2 g3
  go_wp2_with fail
  refine (begun_err5 _).mono ?_
  rintro e w4 ⟨rfl, g4⟩
  have d0 := cell_grow g4 (a := ⟨w3.heap.size, 0, none⟩) (v := .int .i64 0) (by simp)
  have d1 := cell_grow g4 (a := ⟨w3.heap.size, 1, none⟩) (v := .int .i64 2) (by simp)
  have d2 := cell_grow g4 (a := ⟨w3.heap.size, 2, none⟩) (v := .int .i64 3) (by simp)
  have d3 := cell_grow g4 (a := ⟨w3.heap.size, 3, none⟩) (v := .string ⟨#[100, 114, 111, 112, 32, 97]⟩) (by simp)
  have d4 := cell_grow g4 (a := ⟨w3.heap.size, 4, none⟩) (v := .slice ax 1 capx) (by simp)
  have i4 := (i3.grow ((Grow.refl _).alloc _)).grow g4
  have G4 := (G3.alloc _).trans g4
  clear g4 G3 i3
  go_wp2_with fail
  refine (begun_err1 _).mono ?_
  rintro e w5 ⟨rfl, g5⟩
  have e0 := cell_grow (((Grow.refl _).alloc _).trans g5) d0
  have e1 := cell_grow (((Grow.refl _).alloc _).trans g5) d1
  have e2 := cell_grow (((Grow.refl _).alloc _).trans g5) d2
  have e3 := cell_grow (((Grow.refl _).alloc _).trans g5) d3
  have e4 := cell_grow (((Grow.refl _).alloc _).trans g5) d4
  have i5 := (i4.grow ((Grow.refl _).alloc _)).grow g5
  have G5 := (G4.alloc _).trans g5
  clear g5 G4 i4 d0 d1 d2 d3 d4
  go_wp2_with fail
  have h0 := cell_grow ((Grow.refl _).alloc (Obj.cells #[Value.int IntKind.i64 0, Value.int IntKind.i64 0, Value.int IntKind.i64 0, Value.string { data := #[] }, Value.slice none 0 0] 26)) e0
  have h1 := cell_grow ((Grow.refl _).alloc (Obj.cells #[Value.int IntKind.i64 0, Value.int IntKind.i64 0, Value.int IntKind.i64 0, Value.string { data := #[] }, Value.slice none 0 0] 26)) e1
  have h2 := cell_grow ((Grow.refl _).alloc (Obj.cells #[Value.int IntKind.i64 0, Value.int IntKind.i64 0, Value.int IntKind.i64 0, Value.string { data := #[] }, Value.slice none 0 0] 26)) e2
  have h3 := cell_grow ((Grow.refl _).alloc (Obj.cells #[Value.int IntKind.i64 0, Value.int IntKind.i64 0, Value.int IntKind.i64 0, Value.string { data := #[] }, Value.slice none 0 0] 26)) e3
  have h4 := cell_grow ((Grow.refl _).alloc (Obj.cells #[Value.int IntKind.i64 0, Value.int IntKind.i64 0, Value.int IntKind.i64 0, Value.string { data := #[] }, Value.slice none 0 0] 26)) e4
  have i6 := i5.grow ((Grow.refl _).alloc (Obj.cells #[Value.int IntKind.i64 0, Value.int IntKind.i64 0, Value.int IntKind.i64 0, Value.string { data := #[] }, Value.slice none 0 0] 26))
  have G6 := G5.alloc (Obj.cells #[Value.int IntKind.i64 0, Value.int IntKind.i64 0, Value.int IntKind.i64 0, Value.string { data := #[] }, Value.slice none 0 0] 26)
  clear e0 e1 e2 e3 e4 i5 G5
  generalize w5.alloc (Obj.cells #[Value.int IntKind.i64 0, Value.int IntKind.i64 0, Value.int IntKind.i64 0, Value.string { data := #[] }, Value.slice none 0 0] 26) = W6 at *
  replace h0 := cell_grow (Grow.refl W6).drew h0
  replace h1 := cell_grow (Grow.refl W6).drew h1
  replace h2 := cell_grow (Grow.refl W6).drew h2
  replace h3 := cell_grow (Grow.refl W6).drew h3
  replace h4 := cell_grow (Grow.refl W6).drew h4
  replace i6 := i6.grow (Grow.refl W6).drew
  replace G6 := G6.trans (Grow.refl W6).drew
  refine wp_region_plan [(0, true), (1, false), (2, false), (3, true), (4, true), (5, false), (6, true), (7, true), (8, true), (9, false), (10, false), (11, false), (12, true), (13, false), (14, false), (15, false), (16, true), (17, false), (18, false), (19, false), (20, true), (21, false), (22, false), (23, false), (24, true), (25, false), (26, false), (27, false), (28, false), (29, false), (30, true), (31, false), (32, false), (33, false), (34, true), (35, false), (36, false), (37, false), (38, true), (39, false), (40, false), (41, true), (42, false), (43, false)] (by kernel_rfl) (by kernel_rfl) (by kernel_rfl) (by kernel_rfl) ?_
  simp only [segs, consHead, List.getElem?_toArray, List.getElem?_cons_zero, List.getElem?_cons_succ, if_true, Bool.false_eq_true, if_false]
  refine segs_step fun K HK => ?_
  go_wp2_with fail
  refine (entries_any _).mono ?_
  rintro e w7a ⟨b7a, y2a, y3a, rfl, foura, hg⟩
  have c15a := foura.c15
  have c16a := foura.c16
  have c17a := foura.c17
  have c18a := foura.c18
  have c19a := foura.c19
  replace h0 := cell_grow hg h0
  replace h1 := cell_grow hg h1
  replace h2 := cell_grow hg h2
  replace h3 := cell_grow hg h3
  replace h4 := cell_grow hg h4
  replace i6 := i6.grow hg
  replace G6 := G6.trans hg
  go_wp2_with fail
  refine HK.out _ _ hg ?_
  clear HK K
  refine segs_step fun K HK => ?_
  go_wp2_with fail
  refine (check_any 1 2 2 _ _ 2 2 (fun k => if k = 0 then 0 else 1) (fun k => if k = 0 then 2 else 1) _ foura.i3 (by decide)).mono ?_
  rw [begun_check3]
  rintro e w8 ⟨rfl, hg⟩
  replace h0 := cell_grow hg h0
  replace h1 := cell_grow hg h1
  replace h2 := cell_grow hg h2
  replace h3 := cell_grow hg h3
  replace h4 := cell_grow hg h4
  replace i6 := i6.grow hg
  replace G6 := G6.trans hg
  clear c15a c16a c17a c18a c19a foura
  go_wp2_with fail
  refine HK.out _ _ hg ?_
  clear HK K
  refine segs_step fun K HK => ?_
  go_wp2_with fail
  refine HK.out _ _ (Grow.refl _) ?_
  clear HK K
  refine segs_step fun K HK => ?_
  go_wp2_with fail
  refine (id_any _ _ _).mono ?_
  rintro e w96 ⟨rfl, hg⟩
  replace h0 := cell_grow hg h0
  replace h1 := cell_grow hg h1
  replace h2 := cell_grow hg h2
  replace h3 := cell_grow hg h3
  replace h4 := cell_grow hg h4
  replace i6 := i6.grow hg
  replace G6 := G6.trans hg
  go_wp2_with fail
  refine HK.out _ _ hg ?_
  clear HK K
  refine segs_step fun K HK => ?_
  go_wp2_with fail
  refine (id_any _ _ _).mono ?_
  rintro e w97 ⟨rfl, hg⟩
  replace h0 := cell_grow hg h0
  replace h1 := cell_grow hg h1
  replace h2 := cell_grow hg h2
  replace h3 := cell_grow hg h3
  replace h4 := cell_grow hg h4
  replace i6 := i6.grow hg
  replace G6 := G6.trans hg
  go_wp2_with fail
  refine HK.out _ _ hg ?_
  clear HK K
  refine segs_step fun K HK => ?_
  go_wp2_with fail
  refine (less_any 0 2 1 1 _).mono ?_
  rw [show idLess 0 2 1 1 = true from by decide]
  rintro e w10 ⟨rfl, hg⟩
  replace h0 := cell_grow hg h0
  replace h1 := cell_grow hg h1
  replace h2 := cell_grow hg h2
  replace h3 := cell_grow hg h3
  replace h4 := cell_grow hg h4
  replace i6 := i6.grow hg
  replace G6 := G6.trans hg
  go_wp2_with fail
  refine HK.out _ _ hg ?_
  clear HK K
  refine segs_step fun K HK => ?_
  go_wp2_with fail
  refine HK.out _ _ (Grow.refl _) ?_
  clear HK K
  refine segs_step fun K HK => ?_
  go_wp2_with fail
  refine HK.out _ _ (Grow.refl _) ?_
  clear HK K
  refine segs_step fun K HK => ?_
  go_wp2_with fail
  refine HK.out _ _ (Grow.refl _) ?_
  clear HK K
  refine segs_step fun K HK => ?_
  go_wp2_with fail
  refine HK.out _ _ (Grow.refl _) ?_
  clear HK K
  refine segs_step fun K HK => ?_
  go_wp2_with fail
  refine HK.out _ _ (Grow.refl _) ?_
  clear HK K
  refine segs_step fun K HK => ?_
  go_wp2_with fail
  refine HK.out _ _ (Grow.refl _) ?_
  clear HK K
  refine segs_step fun K HK => ?_
  go_wp2_with fail
  refine (entries_any _).mono ?_
  rintro e w7b ⟨b7b, y2b, y3b, rfl, fourb, hg⟩
  have c10b := fourb.c10
  have c11b := fourb.c11
  have c12b := fourb.c12
  have c13b := fourb.c13
  have c14b := fourb.c14
  replace h0 := cell_grow hg h0
  replace h1 := cell_grow hg h1
  replace h2 := cell_grow hg h2
  replace h3 := cell_grow hg h3
  replace h4 := cell_grow hg h4
  replace i6 := i6.grow hg
  replace G6 := G6.trans hg
  go_wp2_with fail
  refine HK.out _ _ hg ?_
  clear HK K
  refine segs_step fun K HK => ?_
  go_wp2_with fail
  refine (sameEntry_any 0 2 3 _ _ 1 _ (fun _ => 0) (fun _ => 1) 0 2 3 _ _ 1 _ (fun _ => 0) (fun _ => 1) _ i6 fourb.i2).mono ?_
  rw [sameEntry_self (fun k hk => ⟨rfl, rfl⟩)]
  rintro e w11 ⟨rfl, hg⟩
  replace G6 := G6.trans hg
  go_wp2_with fail
  refine HK.out _ _ hg ?_
  clear HK K
  refine segs_step fun K HK => ?_
  go_wp2_with fail
  refine HK.out _ _ (Grow.refl _) ?_
  clear HK K
  refine segs_done ?_
  go_wp2
  go_ret
  exact ⟨rfl, G6⟩
end Go.Proofs.Ytikdncgjaomlcaa
