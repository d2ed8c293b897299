/- What the walks over package entry and chain lean on: worlds that only grow, ids, links. -/
import Derived.Test.YtikdncgjaomlcaaRows
import Derived.WalkKit
import Derived.WalkSpells
import Derived.StillTactics
import Derived.Laws.Pointers
import Derived.Deep.RegionHeld3
import Derived.Deep.QuietTactic
import Derived.Deep.DrawnRows
import Derived.BigQuiet
import Derived.RowKit3
namespace Go.Proofs.Ytikdncgjaomlcaa
open Go.RowKit

/-- The world has grown: all that was there is as it was. -/
def Grow (w w' : World) : Prop := Below w.heap.size w w'
theorem Grow.refl (w : World) : Grow w w := Below.refl _ _
theorem Grow.size {w w' : World} (h : Grow w w') : w.heap.size ≤ w'.heap.size := Below.size h
theorem Grow.trans {a b c : World} (h : Grow a b) (k : Grow b c) : Grow a c := Below.trans h (Below.mono k (Below.size h))
theorem Grow.drew {a b : World} (h : Grow a b) : Grow a b.drew := Below.drew h
theorem Grow.drewN {a b : World} (h : Grow a b) (n : Nat) : Grow a (b.drewN n) := Below.trans h ⟨rfl, rfl, rfl, Nat.le_refl _, fun _ _ => rfl⟩
theorem Grow.alloc {a b : World} (h : Grow a b) (o : Obj) : Grow a (b.alloc o) := Below.alloc h (Below.size h) o
theorem Grow.setCell {a b : World} (h : Grow a b) {p : Addr} (hp : a.heap.size ≤ p.block) (u : Value) : Grow a (b.setCell p u) := Below.setCell h hp u
theorem cell_lt {w : World} {a : Addr} {v : Value} (h : w.cell? a = some v) : a.block < w.heap.size := World.block_lt_of_cell? w a h
theorem cell_grow {w w' : World} {a : Addr} {v : Value} (hb : Grow w w') (h : w.cell? a = some v) : w'.cell? a = some v :=
  (Below.cell hb (p := a) (cell_lt h)).trans h
theorem frozen_grow {w w' : World} {a : Addr} {v : Value} (hb : Grow w w') (h : w.cell? a = some v) : w'.frozen? a = w.frozen? a :=
  Below.frozen hb (p := a) (cell_lt h)

/-- entry.isRegion -/
def isReg (r : Int) : Bool := r == 0 || r == 1
theorem isRegion_any (r : Int) (w : World) :
    Calls Try.prog 56 #[.int .i64 r] w fun e w' => e = .returned (.bool (isReg r)) ∧ w' = w := by
  by_cases h0 : r = 0
  · subst h0
    go_enter Try.func56, Try.ntmps56
    go_wp2
    go_ret
    exact ⟨rfl, rfl⟩
  · have h0' : (r == 0) = false := by simpa using h0
    go_enter Try.func56, Try.ntmps56
    go_wp2
    go_ret
    exact ⟨by simp [isReg, h0'], rfl⟩

/-- entry.Less -/
def idLess (ar an br bn : Int) : Bool := if ar = br then decide (an < bn) else decide (ar < br)
theorem less_any (ar an br bn : Int) (w : World) :
    Calls Try.prog 15 #[.agg #[.int .i64 ar, .int .i64 an], .agg #[.int .i64 br, .int .i64 bn]] w fun e w' => e = .returned (.bool (idLess ar an br bn)) ∧ Grow w w' := by
  by_cases h0 : ar = br
  · subst h0
    go_enter Try.func15, Try.ntmps15
    go_wp2
    go_ret
    exact ⟨by simp [idLess], ((Grow.refl _).alloc _).alloc _⟩
  · have h0' : (ar != br) = true := by simpa using h0
    go_enter Try.func15, Try.ntmps15
    go_wp2
    go_ret
    exact ⟨by simp [idLess, h0], ((Grow.refl _).alloc _).alloc _⟩

theorem id_any (r n : Int) (w : World) :
    Calls Try.prog 39 #[.int .i64 r, .int .i64 n] w fun e w' => e = .returned (.agg #[.int .i64 r, .int .i64 n]) ∧ Grow w w' := by
  go_enter Try.func39, Try.ntmps39
  go_wp2
  exact bodyPost_ret (v := .agg #[.int .i64 r, .int .i64 n]) (by simp [results, Try.results39, go_sem]) rfl ⟨rfl, (Grow.refl _).alloc _⟩

/-- entry.isId -/
def isIdB (r n : Int) : Bool := isReg r && (decide (1 ≤ n) && decide (n ≤ 20))
theorem isId_any (r n : Int) (w : World) :
    Calls Try.prog 40 #[.agg #[.int .i64 r, .int .i64 n]] w fun e w' => e = .returned (.bool (isIdB r n)) ∧ Grow w w' := by
  cases h0 : isReg r
  · go_enter Try.func40, Try.ntmps40
    go_wp2_with (go_at_call 56; refine (isRegion_any _ _).mono ?_; rintro e w' ⟨rfl, rfl⟩)
    go_ret
    exact ⟨by simp [isIdB, h0], (Grow.refl _).alloc _⟩
  · by_cases h1 : 1 ≤ n
    · go_enter Try.func40, Try.ntmps40
      go_wp2_with (go_at_call 56; refine (isRegion_any _ _).mono ?_; rintro e w' ⟨rfl, rfl⟩)
      go_ret
      exact ⟨by simp [isIdB, h0, h1], (Grow.refl _).alloc _⟩
    · have h1' : decide (1 ≤ n) = false := by simpa using h1
      go_enter Try.func40, Try.ntmps40
      go_wp2_with (go_at_call 56; refine (isRegion_any _ _).mono ?_; rintro e w' ⟨rfl, rfl⟩)
      go_ret
      exact ⟨by simp [isIdB, h0]; omega, (Grow.refl _).alloc _⟩

/-- A slice of ids: its elements, by two functions. -/
structure IdsAt (w : World) (a : Option Addr) (len : Nat) (R N : Nat → Int) : Prop where
  most : len ≤ 9223372036854775807
  cells : len = 0 ∨ ∃ b off, a = some ⟨b, off, none⟩ ∧
    (∀ k, k < len → w.cell? ⟨b, off + k * 2, none⟩ = some (.int .i64 (R k))) ∧ (∀ k, k < len → w.cell? ⟨b, off + k * 2 + 1, none⟩ = some (.int .i64 (N k)))
theorem IdsAt.grow {w w' : World} {a : Option Addr} {len : Nat} {R N : Nat → Int} (h : IdsAt w a len R N) (hb : Grow w w') : IdsAt w' a len R N := by
  obtain ⟨h1, h2⟩ := h
  refine ⟨h1, ?_⟩
  rcases h2 with h2 | ⟨b, off, ha, c0, c1⟩
  · exact .inl h2
  · exact .inr ⟨b, off, ha, fun k hk => cell_grow hb (c0 k hk), fun k hk => cell_grow hb (c1 k hk)⟩
theorem IdsAt.at {w : World} {a : Option Addr} {len : Nat} {R N : Nat → Int} (h : IdsAt w a len R N) (k : Nat) (hk : k < len) : ∃ b off, a = some ⟨b, off, none⟩ ∧
    (∀ k, k < len → w.cell? ⟨b, off + k * 2, none⟩ = some (.int .i64 (R k))) ∧ (∀ k, k < len → w.cell? ⟨b, off + k * 2 + 1, none⟩ = some (.int .i64 (N k))) := by
  rcases h.2 with h | h
  · omega
  · exact h

/-- What is wrong with link k of an entry (r, n). -/
def linkErr (r n : Int) (R N : Nat → Int) (k : Nat) : Int :=
  if isIdB (R k) (N k) = false then 3 else if 0 < k ∧ idLess (R (k - 1)) (N (k - 1)) (R k) (N k) = false then 4 else if R k = r ∧ n ≤ N k then 4 else 0
/-- What is wrong with the first k links. -/
def linksErr (r n : Int) (R N : Nat → Int) : Nat → Int
  | 0 => 0
  | k + 1 => if linksErr r n R N k = 0 then linkErr r n R N k else linksErr r n R N k
theorem linksErr_stays (r n : Int) (R N : Nat → Int) (k : Nat) (h : linksErr r n R N k ≠ 0) : ∀ m, k ≤ m → linksErr r n R N m = linksErr r n R N k := by
  intro m hm
  induction m with
  | zero => have : k = 0 := by omega
            subst this; rfl
  | succ m ih =>
    by_cases hk : k = m + 1
    · subst hk; rfl
    · have := ih (by omega)
      simp only [linksErr]
      rw [if_neg (by rw [this]; exact h), this]
theorem linksErr_step (r n : Int) (R N : Nat → Int) (k : Nat) (h0 : linksErr r n R N k = 0) : linksErr r n R N (k + 1) = linkErr r n R N k := by simp [linksErr, h0]
theorem linksErr_at (r n : Int) (R N : Nat → Int) (k m : Nat) (h0 : linksErr r n R N k = 0) (h : linkErr r n R N k ≠ 0) (hm : k < m) : linksErr r n R N m = linkErr r n R N k := by
  have e := linksErr_step r n R N k h0
  rw [linksErr_stays r n R N (k + 1) (by rw [e]; exact h) m (by omega), e]

set_option maxHeartbeats 1000000 in
theorem checkLinks_any (r n : Int) (a : Option Addr) (len cap : Nat) (R N : Nat → Int) (w : World) (hids : IdsAt w a len R N) :
    Calls Try.prog 41 #[.agg #[.int .i64 r, .int .i64 n], .slice a len cap] w fun e w' => e = .returned (.int .i64 (linksErr r n R N len)) ∧ Grow w w' := by
  have hl := hids.1
  go_enter Try.func41, Try.ntmps41
  go_wp2
  go_loopw [4, 9] (fun t i wr => t = .int .i64 0 ∧ ∃ k : Nat, k ≤ len ∧ i = .int .i64 k ∧ linksErr r n R N k = 0 ∧ Grow w wr ∧ IdsAt wr a len R N ∧ wr.cell? ⟨w.heap.size, 0, none⟩ = some (.int .i64 r) ∧ wr.cell? ⟨w.heap.size, 1, none⟩ = some (.int .i64 n)) (fun _ i _ => len - (intOf i).toNat)
  case atStart => exact ⟨rfl, 0, Nat.zero_le _, rfl, rfl, (Grow.refl _).alloc _, hids.grow ((Grow.refl _).alloc _), by simp, by simp⟩
  case round =>
    obtain ⟨rfl, k, hk, rfl, hz, hg, hi, e0, e1⟩ := hrel
    have HZ : Hid (linksErr r n R N k = 0) := hz
    clear hz
    by_cases hlt : k < len
    · obtain ⟨b, off, rfl, c0, c1⟩ := hi.at k hlt
      have d0 := c0 k hlt
      have d1 := c1 k hlt
      have hlt' : (k : Int) < (len : Int) := by omega
      have hm := linksErr_at r n R N k len HZ.out
      have step := linksErr_step r n R N k HZ.out
      cases hid : isIdB (R k) (N k)
      · go_wp2_with (go_at_call 40; refine (isId_any _ _ _).mono ?_; rintro e w' ⟨rfl, hb1⟩)
        go_ret
        have e3 : linkErr r n R N k = 3 := by simp [linkErr, hid]
        exact ⟨by rw [hm (by rw [e3]; decide) hlt, e3]; rfl, (hg.alloc _).trans hb1⟩
      · go_wp2_with (go_at_call 40; refine (isId_any _ _ _).mono ?_; rintro e w1 ⟨rfl, hb1⟩)
        have g0 : w1.cell? ⟨wr.heap.size, 0, none⟩ = some (.int .i64 (R k)) := cell_grow hb1 (by simp)
        have g1 : w1.cell? ⟨wr.heap.size, 1, none⟩ = some (.int .i64 (N k)) := cell_grow hb1 (by simp)
        have hg1 : Grow wr w1 := ((Grow.refl _).alloc _).trans hb1
        have f0 := cell_grow hg1 e0
        have f1 := cell_grow hg1 e1
        have i1 := hi.grow hg1
        have q1 := hg.trans hg1
        clear hb1 hg hi e0 e1 d0 d1
        by_cases hk0 : k = 0
        · subst hk0
          clear hg1 c0 c1
          go_quiet (fail)
          go_wp2
          · go_ret
            have e3 : linkErr r n R N 0 = 4 := by rw [linkErr, if_neg (by simp [hid]), if_neg (by simp), if_pos ⟨‹_›, ‹_›⟩]
            exact ⟨by rw [hm (by rw [e3]; decide) hlt, e3]; rfl, q1.drewN _⟩
          all_goals
            go_roundw
            case rel => exact ⟨rfl, 1, by omega, rfl, by rw [step, linkErr, if_neg (by simp [hid]), if_neg (by simp), if_neg (by omega)], q1.drewN _, i1.grow ((Grow.refl _).drewN _), f0, f1⟩
            case measure => simp [intOf]; omega
        · obtain ⟨j, rfl⟩ : ∃ j, k = j + 1 := ⟨k - 1, by omega⟩
          have p0 := cell_grow hg1 (c0 j (by omega))
          have p1 := cell_grow hg1 (c1 j (by omega))
          have hk1 : (j : Int) < (len : Int) := by omega
          have hk4 : decide ((0 : Int) < (j : Int) + 1) = true := by simp
          have hk6 : IntKind.i64.wrap (j : Int) = j := by simp [IntKind.wrap_i64]; omega
          clear hg1 c0 c1
          cases hless : idLess (R j) (N j) (R (j + 1)) (N (j + 1))
          all_goals
            go_region_held3 (fun w' => Grow w w' ∧ IdsAt w' (some ⟨b, off, none⟩) len R N ∧ w'.cell? ⟨wr.heap.size, 0, none⟩ = some (.int .i64 (R (j+1))) ∧ w'.cell? ⟨wr.heap.size, 1, none⟩ = some (.int .i64 (N (j+1))) ∧ w'.cell? ⟨b, off + j * 2, none⟩ = some (.int .i64 (R j)) ∧ w'.cell? ⟨b, off + j * 2 + 1, none⟩ = some (.int .i64 (N j)) ∧ w'.cell? ⟨w.heap.size, 0, none⟩ = some (.int .i64 r) ∧ w'.cell? ⟨w.heap.size, 1, none⟩ = some (.int .i64 n))
              (first | ((repeat' apply And.intro) <;> first | assumption | exact Grow.drew (by assumption) | exact IdsAt.grow i1 (Grow.drew (Grow.refl _)) | exact cell_grow hb2 (by assumption) | exact Grow.trans (Grow.drew (by assumption)) hb2 | exact IdsAt.grow i1 (Grow.trans (Grow.drew (Grow.refl _)) hb2)))
              (first | (go_at_call 15; refine (less_any _ _ _ _ _).mono ?_; rintro e w2 ⟨rfl, hb2⟩))
            rename_i hS
            obtain ⟨q2, i2, a1, a2, a3, a4, f0, f1⟩ := hS
            go_wp2
          · go_ret
            have e3 : linkErr r n R N (j + 1) = 4 := by rw [linkErr, if_neg (by simp [hid]), if_pos (by simp [hless])]
            exact ⟨by rw [hm (by rw [e3]; decide) hlt, e3]; rfl, q2⟩
          · go_ret
            have e3 : linkErr r n R N (j + 1) = 4 := by rw [linkErr, if_neg (by simp [hid]), if_neg (by simp [hless]), if_pos ⟨‹_›, ‹_›⟩]
            exact ⟨by rw [hm (by rw [e3]; decide) hlt, e3]; rfl, q2⟩
          all_goals
            go_roundw
            case rel => exact ⟨rfl, j + 2, by omega, by go_num, by rw [step, linkErr, if_neg (by simp [hid]), if_neg (by simp [hless]), if_neg (by omega)], q2, i2, f0, f1⟩
            case measure => simp [intOf]; omega
    · go_wp2
      go_ret
      have : k = len := by omega
      subst this
      exact ⟨by rw [HZ.out]; rfl, hg⟩
end Go.Proofs.Ytikdncgjaomlcaa
