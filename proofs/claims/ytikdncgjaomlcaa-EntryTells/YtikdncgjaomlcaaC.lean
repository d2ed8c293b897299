/- cutwaterref.SameEntry, and the log of four entries. -/
import Derived.Test.YtikdncgjaomlcaaB
namespace Go.Proofs.Ytikdncgjaomlcaa
open Go.RowKit

/-- Are two entries the same? -/
def sameEntry (r n c : Int) (s : ByteArray) (len : Nat) (R N : Nat → Int) (r' n' c' : Int) (s' : ByteArray) (len' : Nat) (R' N' : Nat → Int) : Bool :=
  same2 r n r' n' && (c == c' && (s.toList == s'.toList && sameIds len len' R N R' N'))
set_option maxHeartbeats 1000000 in
theorem sameEntry_any (r n c : Int) (s : ByteArray) (a : Option Addr) (len cap : Nat) (R N : Nat → Int) (r' n' c' : Int) (s' : ByteArray) (a' : Option Addr) (len' cap' : Nat) (R' N' : Nat → Int)
    (w : World) (h : IdsAt w a len R N) (h' : IdsAt w a' len' R' N') :
    Calls Try.prog 18 #[.agg #[.int .i64 r, .int .i64 n, .int .i64 c, .string s, .slice a len cap], .agg #[.int .i64 r', .int .i64 n', .int .i64 c', .string s', .slice a' len' cap']] w
      fun e w' => e = .returned (.bool (sameEntry r n c s len R N r' n' c' s' len' R' N')) ∧ Grow w w' := by
  have HI := (show Hid (IdsAt w a len R N) from h)
  have HI' := (show Hid (IdsAt w a' len' R' N') from h')
  clear h h'
  have he := run_eql23 r n r' n'
  cases h1 : same2 r n r' n'
  · rw [h1] at he
    go_enter Try.func18, Try.ntmps18
    go_wp2
    go_ret
    exact ⟨by simp [sameEntry, h1], ((Grow.refl _).alloc _).alloc _⟩
  · rw [h1] at he
    cases h2 : (c == c')
    · go_enter Try.func18, Try.ntmps18
      go_wp2
      go_ret
      exact ⟨by simp [sameEntry, h2], ((Grow.refl _).alloc _).alloc _⟩
    · cases h3 : (s.toList == s'.toList)
      · go_enter Try.func18, Try.ntmps18
        go_wp2
        go_ret
        exact ⟨by simp [sameEntry, h3], ((Grow.refl _).alloc _).alloc _⟩
      · go_enter Try.func18, Try.ntmps18
        go_wp2_with (go_at_call 42; refine (sameIds_any _ _ _ _ _ _ R N R' N' _ (HI.out.grow (((Grow.refl _).alloc _).alloc _)) (HI'.out.grow (((Grow.refl _).alloc _).alloc _))).mono ?_; rintro e w2 ⟨rfl, hb2⟩)
        go_ret
        exact ⟨by simp [sameEntry, h1, h2, h3], (((Grow.refl _).alloc _).alloc _).trans hb2⟩

/-- The log of four: what its third and its fourth entry are. -/
structure Four (w : World) (b : Nat) (a2 a3 : Option Addr) : Prop where
  c10 : w.cell? ⟨b, 10, none⟩ = some (.int .i64 0)
  c11 : w.cell? ⟨b, 11, none⟩ = some (.int .i64 2)
  c12 : w.cell? ⟨b, 12, none⟩ = some (.int .i64 3)
  c13 : w.cell? ⟨b, 13, none⟩ = some (.string ⟨#[100, 114, 111, 112, 32, 97]⟩)
  c14 : w.cell? ⟨b, 14, none⟩ = some (.slice a2 1 1)
  c15 : w.cell? ⟨b, 15, none⟩ = some (.int .i64 1)
  c16 : w.cell? ⟨b, 16, none⟩ = some (.int .i64 2)
  c17 : w.cell? ⟨b, 17, none⟩ = some (.int .i64 2)
  c18 : w.cell? ⟨b, 18, none⟩ = some (.string ⟨#[112, 117, 116, 32, 98, 32, 122]⟩)
  c19 : w.cell? ⟨b, 19, none⟩ = some (.slice a3 2 2)
  i2 : IdsAt w a2 1 (fun _ => 0) (fun _ => 1)
  i3 : IdsAt w a3 2 (fun k => if k = 0 then 0 else 1) (fun k => if k = 0 then 2 else 1)
theorem Four.grow {w w' : World} {b : Nat} {a2 a3 : Option Addr} (h : Four w b a2 a3) (g : Grow w w') : Four w' b a2 a3 :=
  ⟨cell_grow g h.c10, cell_grow g h.c11, cell_grow g h.c12, cell_grow g h.c13, cell_grow g h.c14, cell_grow g h.c15, cell_grow g h.c16, cell_grow g h.c17, cell_grow g h.c18, cell_grow g h.c19, h.i2.grow g, h.i3.grow g⟩
theorem idsAt_one (w : World) (b : Nat) (x y : Int) (h0 : w.cell? ⟨b, 0, none⟩ = some (.int .i64 x)) (h1 : w.cell? ⟨b, 1, none⟩ = some (.int .i64 y)) : IdsAt w (some ⟨b, 0, none⟩) 1 (fun _ => x) (fun _ => y) :=
  ⟨by decide, .inr ⟨b, 0, rfl, fun k hk => by obtain rfl : k = 0 := by omega
                                              simpa using h0, fun k hk => by obtain rfl : k = 0 := by omega
                                                                             simpa using h1⟩⟩
theorem idsAt_two (w : World) (b : Nat) (x y x' y' : Int) (h0 : w.cell? ⟨b, 0, none⟩ = some (.int .i64 x)) (h1 : w.cell? ⟨b, 1, none⟩ = some (.int .i64 y)) (h2 : w.cell? ⟨b, 2, none⟩ = some (.int .i64 x')) (h3 : w.cell? ⟨b, 3, none⟩ = some (.int .i64 y')) :
    IdsAt w (some ⟨b, 0, none⟩) 2 (fun k => if k = 0 then x else x') (fun k => if k = 0 then y else y') := by
  refine ⟨by decide, .inr ⟨b, 0, rfl, fun k hk => ?_, fun k hk => ?_⟩⟩ <;>
    (obtain rfl | rfl : k = 0 ∨ k = 1 := by omega) <;> simp [h0, h1, h2, h3]
set_option maxHeartbeats 1000000 in
theorem entries_any (w : World) :
    Calls Try.prog 38 #[] w fun e w' => ∃ b a2 a3, e = .returned (.slice (some ⟨b, 0, none⟩) 4 4) ∧ Four w' b a2 a3 ∧ Grow w w' := by
  go_enter Try.func38, Try.ntmps38
  go_wp2_with (go_at_call 39; refine (id_any _ _ _).mono ?_; rintro e w' ⟨rfl, hb⟩)
  go_ret
  rename_i w1 h1 w2 h2 w3 h3 w4 h4 w5 h5 w6 h6
  have g45 : Grow (w4.alloc (Obj.cells #[Value.int IntKind.i64 0, Value.int IntKind.i64 1] 23)) w' := (h5.trans h6).trans hb
  have j2 : IdsAt w' (some ⟨w4.heap.size, 0, none⟩) 1 (fun _ => 0) (fun _ => 1) := (idsAt_one _ w4.heap.size 0 1 (by simp) (by simp)).grow g45
  have j3 : IdsAt (w'.alloc (Obj.cells #[Value.int IntKind.i64 0, Value.int IntKind.i64 2, Value.int IntKind.i64 1, Value.int IntKind.i64 1] 23)) (some ⟨w'.heap.size, 0, none⟩) 2 (fun k => if k = 0 then 0 else 1) (fun k => if k = 0 then 2 else 1) :=
    idsAt_two _ w'.heap.size 0 2 1 1 (by simp) (by simp) (by simp) (by simp)
  have g04 : Grow w w4 := ((h1.trans h2).trans h3).trans h4
  refine ⟨_, some ⟨w4.heap.size, 0, none⟩, some ⟨w'.heap.size, 0, none⟩, rfl, ?_, (((g04.alloc _).trans g45).alloc _).alloc _⟩
  constructor
  all_goals first
    | exact (j2.grow ((Grow.refl _).alloc _)).grow ((Grow.refl _).alloc _)
    | exact j3.grow ((Grow.refl _).alloc _)
    | simp [World.cell?_alloc_at]
end Go.Proofs.Ytikdncgjaomlcaa
