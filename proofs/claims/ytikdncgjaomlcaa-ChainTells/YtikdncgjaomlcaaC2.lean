/- chain.Check: what it answers, whatever it is handed. -/
import Derived.Test.YtikdncgjaomlcaaC1
namespace Go.Proofs.Ytikdncgjaomlcaa
open Go.RowKit

/-- A chain. -/
structure Ch where
  epoch : Int
  sealed : Bool
  cut : Int
  cells : List Cl
def Ch.val (c : Ch) (a : Option Addr) (cap : Nat) : Value := .agg #[.int .i64 c.epoch, .bool c.sealed, .int .i64 c.cut, .slice a c.cells.length cap]
def zeroCh : Ch := ⟨0, false, 0, []⟩
/-- The first error of cells. -/
def cellsErr : List Cl → Int
  | [] => 0
  | c :: cs => if c.err ≠ 0 then c.err else cellsErr cs
theorem cellsErr_at : ∀ (cs : List Cl) (k : Nat) (c : Cl), cs[k]? = some c → (∀ j, j < k → ∀ d, cs[j]? = some d → d.err = 0) → c.err ≠ 0 → cellsErr cs = c.err
  | [], k, c, h, _, _ => by cases h
  | x :: cs, 0, c, h, _, hn => by
    obtain rfl : x = c := by simpa using h
    rw [cellsErr, if_pos hn]
  | x :: cs, k + 1, c, h, hj, hn => by
    have h0 : x.err = 0 := hj 0 (by omega) x rfl
    rw [cellsErr, if_neg (by simp [h0])]
    exact cellsErr_at cs k c (by simpa using h) (fun j hjk d hd => hj (j + 1) (by omega) d (by simpa using hd)) hn
theorem cellsErr_ok : ∀ (cs : List Cl), (∀ (j : Nat) (d : Cl), cs[j]? = some d → d.err = 0) → cellsErr cs = 0
  | [], _ => rfl
  | x :: cs, h => by
    have h0 : x.err = 0 := h 0 x rfl
    rw [cellsErr, if_neg (by simp [h0])]
    exact cellsErr_ok cs fun j d hd => h (j + 1) d (by simpa using hd)
def lastEmpty (cs : List Cl) : Bool := match cs[cs.length - 1]? with
  | some c => c.empty
  | none => false
/-- The error of Check. -/
def Ch.err (c : Ch) : Int :=
  if c.epoch < 0 ∨ 99 < c.epoch ∨ inTo c.cut 30 = false then 3 else if 30 - c.cut < c.cells.length then 2 else if cellsErr c.cells ≠ 0 then cellsErr c.cells else if lastEmpty c.cells then 4 else 0

set_option maxHeartbeats 4000000 in
theorem check_any (c : Ch) (a : Option Addr) (cap : Nat) (w : World) (hc : CellsAt w a cap c.cells) :
    Calls Try.prog 31 #[c.val a cap] w fun e w' => e = .returned (.int .i64 c.err) ∧ Grow w w' := by
  obtain ⟨ep, se, cu, cs⟩ := c
  unfold Ch.val
  have HE : ∀ x, Ch.err ⟨ep, se, cu, cs⟩ = x → Hid (Ch.err ⟨ep, se, cu, cs⟩ = x) := fun _ h => h
  simp only at hc ⊢
  have HC : Hid (CellsAt w a cap cs) := hc
  have hl := hc.1
  clear hc
  by_cases h1 : ep < 0
  · have h1' : decide (ep < 0) = true := by simpa using h1
    have E := HE 3 (by rw [Ch.err, if_pos (.inl h1)])
    clear HE
    go_enter Try.func31, Try.ntmps31
    go_wp2
    go_ret
    exact ⟨by rw [E.out]; rfl, (Grow.refl _).alloc _⟩
  have h1' : decide (ep < 0) = false := by simpa using h1
  by_cases h2 : 99 < ep
  · have h2' : decide (99 < ep) = true := by simpa using h2
    have E := HE 3 (by rw [Ch.err, if_pos (.inr (.inl h2))])
    clear HE
    go_enter Try.func31, Try.ntmps31
    go_wp2
    go_ret
    exact ⟨by rw [E.out]; rfl, (Grow.refl _).alloc _⟩
  have h2' : decide (99 < ep) = false := by simpa using h2
  cases h3 : inTo cu 30
  · have E := HE 3 (by rw [Ch.err, if_pos (.inr (.inr h3))])
    clear HE
    go_enter Try.func31, Try.ntmps31
    go_wp2_with (go_at_call 49; refine (isCut_any _ _).mono ?_; rw [h3]; rintro e w1 ⟨rfl, rfl⟩)
    go_ret
    exact ⟨by rw [E.out]; rfl, (Grow.refl _).alloc _⟩
  have hcu : 0 ≤ cu ∧ cu ≤ 30 := by simpa [inTo] using h3
  have n1 : ¬ (ep < 0 ∨ 99 < ep ∨ inTo cu 30 = false) := by simp [h1, h2, h3]
  by_cases h4 : 30 - cu < (cs.length : Int)
  · have h4' : decide (30 - cu < (cs.length : Int)) = true := by simpa using h4
    have E := HE 2 (by rw [Ch.err, if_neg n1, if_pos h4])
    clear HE n1
    go_enter Try.func31, Try.ntmps31
    go_wp2_with (go_at_call 49; refine (isCut_any _ _).mono ?_; rw [h3]; rintro e w1 ⟨rfl, rfl⟩)
    go_ret
    exact ⟨by rw [E.out]; rfl, (Grow.refl _).alloc _⟩
  have h4' : decide (30 - cu < (cs.length : Int)) = false := by simpa using h4
  have hle : cs.length ≤ 30 := by omega
  have HN : Hid (Ch.err ⟨ep, se, cu, cs⟩ = if cellsErr cs ≠ 0 then cellsErr cs else if lastEmpty cs then 4 else 0) := by
    show Ch.err ⟨ep, se, cu, cs⟩ = _
    rw [Ch.err, if_neg n1, if_neg h4]
  clear HE n1 hl
  go_enter Try.func31, Try.ntmps31
  go_wp2_with (go_at_call 49; refine (isCut_any _ _).mono ?_; rw [h3]; rintro e w1 ⟨rfl, rfl⟩)
  go_loopw [2, 31] (fun t i wr => t = .int .i64 0 ∧ ∃ k : Nat, k ≤ cs.length ∧ i = .int .i64 k ∧ (∀ j, j < k → ∀ d, cs[j]? = some d → d.err = 0) ∧ Grow (w.alloc (Obj.cells #[.int .i64 ep, .bool se, .int .i64 cu, .slice a cs.length cap] 42)) wr) (fun _ i _ => cs.length - (intOf i).toNat)
  case atStart => exact ⟨rfl, 0, Nat.zero_le _, rfl, fun j hj => by omega, Grow.refl _⟩
  case round =>
    obtain ⟨rfl, k, hk, rfl, hz, hg⟩ := hrel
    have HZ : Hid (∀ j, j < k → ∀ d, cs[j]? = some d → d.err = 0) := hz
    have hG : Grow w wr := ((Grow.refl w).alloc _).trans hg
    clear hz
    by_cases hlt : k < cs.length
    · have hck : cs[k]? = some cs[k] := List.getElem?_eq_getElem hlt
      generalize cs[k] = c at hck
      have HK : Hid (cs[k]? = some c) := hck
      obtain ⟨b, off, rfl, d0, d1, d2, hs⟩ := (HC.out.grow hG).at hck
      have hlt' : (k : Int) < (cs.length : Int) := by omega
      clear hck
      go_wp2_with fail
      refine (checkCell_any c _ hs).mono ?_
      rintro e w2 ⟨rfl, g2⟩
      have G2 := (hg.alloc (Obj.cells #[.bool c.there, .bool c.junk, .string c.text] 54)).trans g2
      clear d0 d1 d2 g2 hg
      by_cases he : c.err = 0
      · rw [he]
        go_wp2
        go_roundw
        case rel =>
          refine ⟨rfl, k + 1, by omega, by go_num, fun j hj d hd => ?_, G2⟩
          by_cases hjk : j = k
          · subst hjk
            rw [HK.out] at hd
            cases hd
            exact he
          · exact HZ.out j (by omega) d hd
        case measure => simp [intOf]; omega
      · have hx0 : (c.err == 0) = false := by simpa using he
        have hx1 : (c.err != 0) = true := by simpa using he
        have hE : Hid (Ch.err ⟨ep, se, cu, cs⟩ = c.err) := by
          show Ch.err ⟨ep, se, cu, cs⟩ = _
          have h5 := cellsErr_at cs k c HK.out HZ.out he
          rw [HN.out, h5, if_pos he]
        clear he
        go_wp2
        go_ret
        exact ⟨by rw [hE.out]; rfl, ((Grow.refl w).alloc _).trans G2⟩
    · have hkl : k = cs.length := by omega
      have h0 : cellsErr cs = 0 := cellsErr_ok cs fun j d hd => HZ.out j (by have := (List.getElem?_eq_some_iff.1 hd).1; omega) d hd
      have HN' : Hid (Ch.err ⟨ep, se, cu, cs⟩ = if lastEmpty cs then 4 else 0) := by
        show Ch.err ⟨ep, se, cu, cs⟩ = _
        rw [HN.out, h0, if_neg (by simp)]
      clear h0 HN HZ hk
      have e3 := cell_grow hg (a := ⟨w.heap.size, 3, none⟩) (v := .slice a cs.length cap) (by simp)
      subst hkl
      by_cases hn : cs = []
      · subst hn
        go_wp2
        go_ret
        exact ⟨by rw [HN'.out]; rfl, hG⟩
      · obtain ⟨m, hm⟩ : ∃ m, cs.length = m + 1 := ⟨cs.length - 1, by have := List.length_pos_iff.2 hn; omega⟩
        have hck : cs[m]? = some cs[m] := List.getElem?_eq_getElem (by omega)
        generalize cs[m] = c at hck
        obtain ⟨b, off, rfl, d0, d1, d2, hs⟩ := (HC.out.grow hG).at hck
        have hle' : Hid (lastEmpty cs = c.empty) := by
          show lastEmpty cs = _
          unfold lastEmpty
          rw [hm, Nat.add_sub_cancel, hck]
        clear hck hn
        have hw6 : IntKind.i64.wrap (m : Int) = m := by simp [IntKind.wrap_i64]; omega
        have hm1 : (m : Int) < (m : Int) + 1 := by omega
        cases hce : c.empty
        all_goals
          go_wp2_with (go_at_call 52; refine (isEmpty_any c _).mono ?_; rw [hce]; rintro e w3 ⟨rfl, g3⟩)
          go_ret
          exact ⟨by rw [HN'.out, hle'.out, hce]; rfl, hG.trans g3⟩
end Go.Proofs.Ytikdncgjaomlcaa
