/- The document's answers for ids and entries: cutwaterref.IsId, IsAhead, CheckEntry. -/
import Derived.Test.YtikdncgjaomlcaaV
import Derived.Test.YtikdncgjaomlcaaN
namespace Go.Proofs.Ytikdncgjaomlcaa
open Go.RowKit

def betw (n a b : Int) : Bool := decide (a ≤ n) && decide (n ≤ b)
theorem between_any (n a b : Int) (w : World) : Calls Try.prog 36 #[.int .i64 n, .int .i64 a, .int .i64 b] w fun e w' => e = .returned (.bool (betw n a b)) ∧ w' = w := by
  by_cases h : a ≤ n
  · have h' : decide (a ≤ n) = true := by simpa using h
    go_enter Try.func36, Try.ntmps36
    go_wp2
    go_ret
    exact ⟨by simp [betw, h], rfl⟩
  · have h' : decide (a ≤ n) = false := by simpa using h
    go_enter Try.func36, Try.ntmps36
    go_wp2
    go_ret
    exact ⟨by simp [betw, h'], rfl⟩
theorem betw_id (r n : Int) : (betw r 0 1 && betw n 1 20) = isIdB r n := by
  unfold betw isIdB isReg
  rw [Bool.eq_iff_iff]
  simp
  omega
theorem refIsId_any (r n : Int) (w : World) : Calls Try.prog 35 #[.agg #[.int .i64 r, .int .i64 n]] w fun e w' => e = .returned (.bool (isIdB r n)) ∧ Grow w w' := by
  rw [← betw_id]
  cases h : betw r 0 1
  · go_enter Try.func35, Try.ntmps35
    go_wp2_with fail
    refine (between_any _ _ _ _).mono ?_
    rw [h]
    rintro e w1 ⟨rfl, rfl⟩
    go_wp2_with fail
    go_ret
    exact ⟨rfl, (Grow.refl _).alloc _⟩
  · go_enter Try.func35, Try.ntmps35
    go_wp2_with fail
    refine (between_any _ _ _ _).mono ?_
    rw [h]
    rintro e w1 ⟨rfl, rfl⟩
    go_wp2_with fail
    refine (between_any _ _ _ _).mono ?_
    rintro e w1 ⟨rfl, rfl⟩
    go_wp2_with fail
    go_ret
    exact ⟨rfl, (Grow.refl _).alloc _⟩
theorem refAhead_any (ar an br bn : Int) (w : World) :
    Calls Try.prog 16 #[.agg #[.int .i64 ar, .int .i64 an], .agg #[.int .i64 br, .int .i64 bn]] w fun e w' => e = .returned (.bool (idLess ar an br bn)) ∧ Grow w w' := by
  by_cases h : ar < br
  · have h' : decide (ar < br) = true := by simpa using h
    go_enter Try.func16, Try.ntmps16
    go_wp2
    go_ret
    exact ⟨by simp [idLess, h]; omega, ((Grow.refl _).alloc _).alloc _⟩
  · have h' : decide (ar < br) = false := by simpa using h
    by_cases h2 : ar = br
    · subst h2
      go_enter Try.func16, Try.ntmps16
      go_wp2
      go_ret
      exact ⟨by simp [idLess], ((Grow.refl _).alloc _).alloc _⟩
    · have h3 : (ar == br) = false := by simpa using h2
      go_enter Try.func16, Try.ntmps16
      go_wp2
      go_ret
      exact ⟨by simp [idLess, h2]; omega, ((Grow.refl _).alloc _).alloc _⟩
end Go.Proofs.Ytikdncgjaomlcaa
