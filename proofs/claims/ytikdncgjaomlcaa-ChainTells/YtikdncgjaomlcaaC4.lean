/- chain.Read, Tail, Seal and Open: what each answers, whatever it is handed. -/
import Derived.Test.YtikdncgjaomlcaaC3
namespace Go.Proofs.Ytikdncgjaomlcaa
open Go.RowKit

/-- What Read answers. -/
def Ch.read (c : Ch) (p : Int) : ByteArray × Int :=
  if c.err ≠ 0 then (⟨#[]⟩, c.err) else if p < 0 ∨ 30 ≤ p then (⟨#[]⟩, 3) else if p < c.cut then (⟨#[]⟩, 4) else
    if (c.at (p - c.cut).toNat).junk then (⟨#[]⟩, 7) else if (c.at (p - c.cut).toNat).there then ((c.at (p - c.cut).toNat).text, 0) else (⟨#[]⟩, 5)
set_option maxHeartbeats 2000000 in
theorem read_any (c : Ch) (a : Option Addr) (cap : Nat) (p : Int) (w : World) (hc : CellsAt w a cap c.cells) :
    Calls Try.prog 21 #[c.val a cap, .int .i64 p] w fun e w' => e = .returned (.tuple #[.string (c.read p).1, .int .i64 (c.read p).2]) ∧ Grow w w' := by
  have HC : Hid (CellsAt w a cap c.cells) := hc
  clear hc
  have HR : ∀ x, c.read p = x → Hid (c.read p = x) := fun _ h => h
  have g0 : Grow w (w.alloc (Obj.cells #[.int .i64 c.epoch, .bool c.sealed, .int .i64 c.cut, .slice a c.cells.length cap] 42)) := (Grow.refl w).alloc _
  unfold Ch.val
  go_enter Try.func21, Try.ntmps21
  go_wp2_with fail
  refine (check_any c a cap _ (HC.out.grow g0)).mono ?_
  rintro e w1 ⟨rfl, g1⟩
  have q0 := cell_grow g1 (a := ⟨w.heap.size, 0, none⟩) (v := .int .i64 c.epoch) (by simp)
  have q1 := cell_grow g1 (a := ⟨w.heap.size, 1, none⟩) (v := .bool c.sealed) (by simp)
  have q2 := cell_grow g1 (a := ⟨w.heap.size, 2, none⟩) (v := .int .i64 c.cut) (by simp)
  have q3 := cell_grow g1 (a := ⟨w.heap.size, 3, none⟩) (v := .slice a c.cells.length cap) (by simp)
  have G1 := g0.trans g1
  clear g0 g1
  by_cases h1 : c.err = 0
  · obtain ⟨_, hcut, hlen, _⟩ := Ch.fine h1
    have hlen' : c.cells.length ≤ 30 := by omega
    have R1 : c.read p = if p < 0 ∨ 30 ≤ p then (⟨#[]⟩, 3) else if p < c.cut then (⟨#[]⟩, 4) else
      if (c.at (p - c.cut).toNat).junk then (⟨#[]⟩, 7) else if (c.at (p - c.cut).toNat).there then ((c.at (p - c.cut).toNat).text, 0) else (⟨#[]⟩, 5) := by rw [Ch.read, if_neg (by simp [h1])]
    rw [h1]
    clear h1
    have T1 := HR _ R1
    clear R1 HR
    go_wp2_with fail
    refine (isPlace_any _ _).mono ?_
    rintro e w2 ⟨rfl, rfl⟩
    cases h2 : (decide (0 ≤ p) && decide (p < 30))
    · go_wp2
      go_ret2
      exact ⟨by rw [T1.out, if_pos (by simp at h2; omega)]; rfl, G1⟩
    · have hp : 0 ≤ p ∧ p < 30 := by simpa using h2
      rw [if_neg (by omega)] at T1
      by_cases h3 : p < c.cut
      · rw [if_pos h3] at T1
        go_wp2
        go_ret2
        exact ⟨by rw [T1.out]; rfl, G1⟩
      · rw [if_neg h3] at T1
        obtain ⟨i, hi⟩ : ∃ i : Nat, p = c.cut + i := ⟨(p - c.cut).toNat, by omega⟩
        have hin : (p - c.cut).toNat = i := by omega
        rw [hin] at T1
        clear hin
        have hi30 : i ≤ 30 := by omega
        have hsz := HC.out.size (c := c) i
        have HP : Hid (p = c.cut + i) := hi
        clear hi
        go_wp2_with fail
        rw [HP.out]
        refine (cellAt_any c a cap i _ (HC.out.grow G1) hi30 hlen' hcut).mono ?_
        rintro e w3 ⟨rfl, g3⟩
        have G3 := G1.trans g3
        generalize c.at i = x at T1 hsz
        obtain ⟨t, j, s⟩ := x
        unfold Cl.val
        simp only at T1 hsz ⊢
        cases j
        all_goals
          cases t
          all_goals
            go_wp2
            go_ret2
            exact ⟨by rw [← HP.out, T1.out]; rfl, G3.alloc _⟩
  · have hx0 : (c.err == 0) = false := by simpa using h1
    have hx1 : (c.err != 0) = true := by simpa using h1
    have R := HR (⟨#[]⟩, c.err) (by rw [Ch.read, if_pos h1])
    clear h1 HR
    go_wp2
    go_ret2
    exact ⟨by rw [R.out]; rfl, G1⟩

/-- What Tail answers. -/
def Ch.tail (c : Ch) : Int × Int := if c.err ≠ 0 then (0, c.err) else (c.cut + c.cells.length, 0)
set_option maxHeartbeats 2000000 in
theorem tail_any (c : Ch) (a : Option Addr) (cap : Nat) (w : World) (hc : CellsAt w a cap c.cells) :
    Calls Try.prog 22 #[c.val a cap] w fun e w' => e = .returned (.tuple #[.int .i64 c.tail.1, .int .i64 c.tail.2]) ∧ Grow w w' := by
  have HC : Hid (CellsAt w a cap c.cells) := hc
  clear hc
  have g0 : Grow w (w.alloc (Obj.cells #[.int .i64 c.epoch, .bool c.sealed, .int .i64 c.cut, .slice a c.cells.length cap] 42)) := (Grow.refl w).alloc _
  unfold Ch.val
  go_enter Try.func22, Try.ntmps22
  go_wp2_with fail
  refine (check_any c a cap _ (HC.out.grow g0)).mono ?_
  rintro e w1 ⟨rfl, g1⟩
  have q2 := cell_grow g1 (a := ⟨w.heap.size, 2, none⟩) (v := .int .i64 c.cut) (by simp)
  have q3 := cell_grow g1 (a := ⟨w.heap.size, 3, none⟩) (v := .slice a c.cells.length cap) (by simp)
  have G1 := g0.trans g1
  clear g0 g1
  by_cases h1 : c.err = 0
  · obtain ⟨_, hcut, hlen, _⟩ := Ch.fine h1
    have hlen' : c.cells.length ≤ 30 := by omega
    have R : Hid (c.tail = (c.cut + c.cells.length, 0)) := by show c.tail = _; rw [Ch.tail, if_neg (by simp [h1])]
    rw [h1]
    clear h1
    go_wp2
    go_ret2
    exact ⟨by rw [R.out]; rfl, G1⟩
  · have hx0 : (c.err == 0) = false := by simpa using h1
    have hx1 : (c.err != 0) = true := by simpa using h1
    have R : Hid (c.tail = (0, c.err)) := by show c.tail = _; rw [Ch.tail, if_pos h1]
    clear h1
    go_wp2
    go_ret2
    exact ⟨by rw [R.out]; rfl, G1⟩
end Go.Proofs.Ytikdncgjaomlcaa
