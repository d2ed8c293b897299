/- Package chain: cells and the check of a chain: what each call answers, whatever it is handed. -/
import Derived.Test.YtikdncgjaomlcaaP
namespace Go.Proofs.Ytikdncgjaomlcaa
open Go.RowKit

/-- A cell of a chain. -/
structure Cl where
  there : Bool
  junk : Bool
  text : ByteArray
def Cl.val (c : Cl) : Value := .agg #[.bool c.there, .bool c.junk, .string c.text]
def zeroCl : Cl := ⟨false, false, ⟨#[]⟩⟩
/-- Cells that lie in memory. -/
def CellsAt (w : World) (a : Option Addr) (cap : Nat) (cs : List Cl) : Prop :=
  cs.length ≤ 9223372036854775807 ∧ cs.length ≤ cap ∧ (cs = [] ∨ ∃ b off, a = some ⟨b, off, none⟩ ∧ ∀ k c, cs[k]? = some c →
    w.cell? ⟨b, off + k * 3, none⟩ = some (.bool c.there) ∧ w.cell? ⟨b, off + k * 3 + 1, none⟩ = some (.bool c.junk) ∧ w.cell? ⟨b, off + k * 3 + 2, none⟩ = some (.string c.text) ∧ c.text.size ≤ 9223372036854775807)
theorem CellsAt.grow {w w' : World} {a : Option Addr} {cap : Nat} {cs : List Cl} (h : CellsAt w a cap cs) (hg : Grow w w') : CellsAt w' a cap cs := by
  refine ⟨h.1, h.2.1, h.2.2.imp id ?_⟩
  rintro ⟨b, off, ha, hc⟩
  exact ⟨b, off, ha, fun k c hk => ⟨cell_grow hg (hc k c hk).1, cell_grow hg (hc k c hk).2.1, cell_grow hg (hc k c hk).2.2.1, (hc k c hk).2.2.2⟩⟩
theorem CellsAt.at {w : World} {a : Option Addr} {cap : Nat} {cs : List Cl} (h : CellsAt w a cap cs) {k : Nat} {c : Cl} (hk : cs[k]? = some c) :
    ∃ b off, a = some ⟨b, off, none⟩ ∧ w.cell? ⟨b, off + k * 3, none⟩ = some (.bool c.there) ∧ w.cell? ⟨b, off + k * 3 + 1, none⟩ = some (.bool c.junk) ∧ w.cell? ⟨b, off + k * 3 + 2, none⟩ = some (.string c.text) ∧ c.text.size ≤ 9223372036854775807 := by
  rcases h.2.2 with rfl | ⟨b, off, ha, hc⟩
  · cases hk
  · exact ⟨b, off, ha, hc k c hk⟩

/-- chain.isCut, chain.isPlace -/
def inTo (x y : Int) : Bool := decide (0 ≤ x) && decide (x ≤ y)
theorem isCut_any (x : Int) (w : World) : Calls Try.prog 49 #[.int .i64 x] w fun e w' => e = .returned (.bool (inTo x 30)) ∧ w' = w := by
  by_cases h : 0 ≤ x
  · have h' : decide (0 ≤ x) = true := by simpa using h
    go_enter Try.func49, Try.ntmps49
    go_wp2
    go_ret
    exact ⟨by simp [inTo, h'], rfl⟩
  · have h' : decide (0 ≤ x) = false := by simpa using h
    go_enter Try.func49, Try.ntmps49
    go_wp2
    go_ret
    exact ⟨by simp [inTo, h'], rfl⟩
theorem isPlace_any (x : Int) (w : World) : Calls Try.prog 46 #[.int .i64 x] w fun e w' => e = .returned (.bool (decide (0 ≤ x) && decide (x < 30))) ∧ w' = w := by
  by_cases h : 0 ≤ x
  · have h' : decide (0 ≤ x) = true := by simpa using h
    go_enter Try.func46, Try.ntmps46
    go_wp2
    go_ret
    exact ⟨by simp [h'], rfl⟩
  · have h' : decide (0 ≤ x) = false := by simpa using h
    go_enter Try.func46, Try.ntmps46
    go_wp2
    go_ret
    exact ⟨by simp, rfl⟩
/-- chain.isEmpty -/
def Cl.empty (c : Cl) : Bool := !c.there && !c.junk
theorem isEmpty_any (c : Cl) (w : World) : Calls Try.prog 52 #[c.val] w fun e w' => e = .returned (.bool c.empty) ∧ Grow w w' := by
  obtain ⟨t, j, s⟩ := c
  unfold Cl.val Cl.empty
  simp only
  cases t
  all_goals
    go_enter Try.func52, Try.ntmps52
    go_wp2
    go_ret
    exact ⟨rfl, (Grow.refl _).alloc _⟩
/-- chain.checkCell -/
def noText (s : ByteArray) : Bool := s.toList == []
def Cl.err (c : Cl) : Int := if c.there && c.junk then 4 else if !c.there && !noText c.text then 1 else if 12 < c.text.size then 2 else 0
set_option maxHeartbeats 1000000 in
theorem checkCell_any (c : Cl) (w : World) (hs : c.text.size ≤ 9223372036854775807) : Calls Try.prog 51 #[c.val] w fun e w' => e = .returned (.int .i64 c.err) ∧ Grow w w' := by
  obtain ⟨t, j, s⟩ := c
  unfold Cl.val Cl.err
  simp only at hs ⊢
  by_cases hl : 12 < s.size
  all_goals
    cases hn : noText s
    all_goals
      have hn' := hn
      unfold noText at hn'
      cases t
      all_goals
        cases j
        all_goals
          go_enter Try.func51, Try.ntmps51
          go_wp2
          go_ret
          exact ⟨rfl, (Grow.refl _).alloc _⟩
end Go.Proofs.Ytikdncgjaomlcaa
