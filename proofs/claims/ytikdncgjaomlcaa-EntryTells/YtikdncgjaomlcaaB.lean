/- entry.Check, and the document's sameness of ids and entries: what each call answers, whatever it is handed. -/
import Derived.Test.YtikdncgjaomlcaaA
namespace Go.Proofs.Ytikdncgjaomlcaa
open Go.RowKit

/-- entry.Check -/
def checkErr (r n c : Int) (tlen len : Nat) (R N : Nat → Int) : Int :=
  if isIdB r n = false ∨ c < 1 ∨ 7 < c then 3 else if 12 < tlen ∨ 6 < len then 2 else linksErr r n R N len
theorem eq_ret {k : IntKind} {a b : Int} (h : a = b) : Ending.returned (.int k a) = .returned (.int k b) := by rw [h]

set_option maxHeartbeats 1000000 in
theorem check_any (r n c : Int) (s : ByteArray) (a : Option Addr) (len cap : Nat) (R N : Nat → Int) (w : World) (hids : IdsAt w a len R N) (hs : s.size ≤ 9223372036854775807) :
    Calls Try.prog 17 #[.agg #[.int .i64 r, .int .i64 n, .int .i64 c, .string s, .slice a len cap]] w fun e w' => e = .returned (.int .i64 (checkErr r n c s.size len R N)) ∧ Grow w w' := by
  have hl := hids.1
  have HI : Hid (IdsAt w a len R N) := hids
  clear hids
  cases hid : isIdB r n
  · go_enter Try.func17, Try.ntmps17
    go_wp2_with (go_at_call 40; refine (isId_any _ _ _).mono ?_; rintro e w1 ⟨rfl, hb1⟩)
    go_ret
    exact ⟨eq_ret (by simp [checkErr, hid]), ((Grow.refl _).alloc _).trans hb1⟩
  · by_cases hc1 : c < 1
    · have hd1 : decide (c < 1) = true := by simpa using hc1
      go_enter Try.func17, Try.ntmps17
      go_wp2_with (go_at_call 40; refine (isId_any _ _ _).mono ?_; rintro e w1 ⟨rfl, hb1⟩; have g2 : w1.cell? ⟨w.heap.size, 2, none⟩ = some (.int .i64 c) := cell_grow hb1 (by simp))
      go_ret
      exact ⟨eq_ret (by simp [checkErr, hc1]), ((Grow.refl _).alloc _).trans hb1⟩
    · have hd1 : decide (c < 1) = false := by simpa using hc1
      by_cases hc2 : 7 < c
      · have hd2 : decide (7 < c) = true := by simpa using hc2
        go_enter Try.func17, Try.ntmps17
        go_wp2_with (go_at_call 40; refine (isId_any _ _ _).mono ?_; rintro e w1 ⟨rfl, hb1⟩; have g2 : w1.cell? ⟨w.heap.size, 2, none⟩ = some (.int .i64 c) := cell_grow hb1 (by simp))
        go_ret
        exact ⟨eq_ret (by simp [checkErr, hc2]), ((Grow.refl _).alloc _).trans hb1⟩
      · have hd2 : decide (7 < c) = false := by simpa using hc2
        by_cases ht : 12 < s.size
        · have hd3 : decide (12 < s.size) = true := by simpa using ht
          go_enter Try.func17, Try.ntmps17
          go_wp2_with (go_at_call 40; refine (isId_any _ _ _).mono ?_; rintro e w1 ⟨rfl, hb1⟩; have g2 : w1.cell? ⟨w.heap.size, 2, none⟩ = some (.int .i64 c) := cell_grow hb1 (by simp); have g3 : w1.cell? ⟨w.heap.size, 3, none⟩ = some (.string s) := cell_grow hb1 (by simp); have g4 : w1.cell? ⟨w.heap.size, 4, none⟩ = some (.slice a len cap) := cell_grow hb1 (by simp))
          go_ret
          exact ⟨eq_ret (by rw [checkErr, if_neg (by simp [hid]; omega), if_pos (by simp [ht])]), ((Grow.refl _).alloc _).trans hb1⟩
        · have hd3 : decide (12 < s.size) = false := by simpa using ht
          by_cases hk : 6 < len
          · have hd4 : decide (6 < len) = true := by simpa using hk
            go_enter Try.func17, Try.ntmps17
            go_wp2_with (go_at_call 40; refine (isId_any _ _ _).mono ?_; rintro e w1 ⟨rfl, hb1⟩; have g2 : w1.cell? ⟨w.heap.size, 2, none⟩ = some (.int .i64 c) := cell_grow hb1 (by simp); have g3 : w1.cell? ⟨w.heap.size, 3, none⟩ = some (.string s) := cell_grow hb1 (by simp); have g4 : w1.cell? ⟨w.heap.size, 4, none⟩ = some (.slice a len cap) := cell_grow hb1 (by simp))
            go_ret
            exact ⟨eq_ret (by rw [checkErr, if_neg (by simp [hid]; omega), if_pos (by simp [hk])]), ((Grow.refl _).alloc _).trans hb1⟩
          · have hd4 : decide (6 < len) = false := by simpa using hk
            go_enter Try.func17, Try.ntmps17
            go_wp2_with (first
              | (go_at_call 40; refine (isId_any _ _ _).mono ?_; rintro e w1 ⟨rfl, hb1⟩; have g0 : w1.cell? ⟨w.heap.size, 0, none⟩ = some (.int .i64 r) := cell_grow hb1 (by simp); have g1 : w1.cell? ⟨w.heap.size, 1, none⟩ = some (.int .i64 n) := cell_grow hb1 (by simp); have g2 : w1.cell? ⟨w.heap.size, 2, none⟩ = some (.int .i64 c) := cell_grow hb1 (by simp); have g3 : w1.cell? ⟨w.heap.size, 3, none⟩ = some (.string s) := cell_grow hb1 (by simp); have g4 : w1.cell? ⟨w.heap.size, 4, none⟩ = some (.slice a len cap) := cell_grow hb1 (by simp))
              | (go_at_call 41; refine (checkLinks_any _ _ _ _ _ R N _ ((HI.out.grow ((Grow.refl _).alloc _)).grow hb1)).mono ?_; rintro e w2 ⟨rfl, hb2⟩))
            go_ret
            exact ⟨eq_ret (by rw [checkErr, if_neg (by simp [hid]; omega), if_neg (by omega)]), (((Grow.refl _).alloc _).trans hb1).trans hb2⟩

/-- '==' of two ids. -/
def same2 (ar an br bn : Int) : Bool := ar == br && an == bn
theorem run_eql23 (ar an br bn : Int) (w : World) : (binOp .eql 23 (.agg #[.int .i64 ar, .int .i64 an]) (.agg #[.int .i64 br, .int .i64 bn])).run Try.prog w = .ok (.bool (same2 ar an br bn)) w := by
  by_cases h : ar = br
  · by_cases h2 : an = bn
    · subst h h2
      simp [same2, go_sem]
    · have : (an == bn) = false := by simpa using h2
      subst h
      simp [same2, go_sem, this]
  · have : (ar == br) = false := by simpa using h
    simp [same2, go_sem, this]
theorem run_neq23 (ar an br bn : Int) (w : World) : (binOp .neq 23 (.agg #[.int .i64 ar, .int .i64 an]) (.agg #[.int .i64 br, .int .i64 bn])).run Try.prog w = .ok (.bool (!same2 ar an br bn)) w := by
  by_cases h : ar = br
  · by_cases h2 : an = bn
    · subst h h2
      simp [same2, go_sem]
    · have : (an == bn) = false := by simpa using h2
      subst h
      simp [same2, go_sem, this]
  · have : (ar == br) = false := by simpa using h
    simp [same2, go_sem, this]

/-- Are two slices of ids the same? -/
def sameIds (len len' : Nat) (R N R' N' : Nat → Int) : Bool := len == len' && (List.range len).all fun k => same2 (R k) (N k) (R' k) (N' k)
set_option maxHeartbeats 1000000 in
theorem sameIds_any (a a' : Option Addr) (len cap len' cap' : Nat) (R N R' N' : Nat → Int) (w : World) (h : IdsAt w a len R N) (h' : IdsAt w a' len' R' N') :
    Calls Try.prog 42 #[.slice a len cap, .slice a' len' cap'] w fun e w' => e = .returned (.bool (sameIds len len' R N R' N')) ∧ Grow w w' := by
  have hl := h.1
  have hl' := h'.1
  by_cases he : len = len'
  · subst he
    go_enter Try.func42, Try.ntmps42
    go_wp2
    go_loopw [5] (fun i wr => ∃ k : Nat, k ≤ len ∧ i = .int .i64 k ∧ (∀ j, j < k → same2 (R j) (N j) (R' j) (N' j) = true) ∧ Grow w wr ∧ IdsAt wr a len R N ∧ IdsAt wr a' len R' N') (fun i _ => len - (intOf i).toNat)
    case atStart => exact ⟨0, Nat.zero_le _, rfl, fun j hj => by omega, Grow.refl _, h, h'⟩
    case round =>
      obtain ⟨k, hk, rfl, hsame, hg, hi, hi'⟩ := hrel
      have HS : Hid (∀ j, j < k → same2 (R j) (N j) (R' j) (N' j) = true) := hsame
      clear hsame
      by_cases hlt : k < len
      · obtain ⟨b, off, rfl, c0, c1⟩ := hi.at k hlt
        obtain ⟨b', off', rfl, c0', c1'⟩ := hi'.at k hlt
        have d0 := c0 k hlt
        have d1 := c1 k hlt
        have d0' := c0' k hlt
        have d1' := c1' k hlt
        have hlt' : (k : Int) < (len : Int) := by omega
        clear c0 c1 c0' c1'
        have G := fun n => hg.drewN n
        have I := fun n => hi.grow ((Grow.refl _).drewN n)
        have I' := fun n => hi'.grow ((Grow.refl _).drewN n)
        clear hg hi hi'
        have hne := run_neq23 (R k) (N k) (R' k) (N' k)
        have hnot : ∀ (x : Bool) (w : World), (Op.unary .not (.bool x)).run Try.prog w = .ok (.bool (!x)) w := fun _ _ => rfl
        cases hq : same2 (R k) (N k) (R' k) (N' k)
        all_goals
          rw [hq] at hne
          go_wp2
          go_quiet (fail)
          go_wp2
        · go_ret
          exact ⟨by rw [sameIds]; simp; exact ⟨k, hlt, hq⟩, G _⟩
        · go_roundw
          case rel => exact ⟨k + 1, by omega, by go_num, fun j hj => by rcases Nat.lt_succ_iff_lt_or_eq.1 hj with h | h; exact HS.out j h; rw [h]; exact hq, G _, I _, I' _⟩
          case measure => simp [intOf]; omega
      · go_wp2
        go_ret
        have : k = len := by omega
        subst this
        exact ⟨by simp [sameIds]; exact HS.out, hg⟩
  · have he' : ((len : Int) != (len' : Int)) = true := by simp; omega
    go_enter Try.func42, Try.ntmps42
    go_wp2
    go_ret
    exact ⟨by simp [sameIds, he], Grow.refl _⟩
end Go.Proofs.Ytikdncgjaomlcaa
