/- Chains: plain laws of what the calls answer. -/
import Derived.Test.YtikdncgjaomlcaaC9
namespace Go.Proofs.Ytikdncgjaomlcaa
open Go.RowKit

theorem cellsErr_zero : ∀ (cs : List Cl), cellsErr cs = 0 → ∀ (j : Nat) (d : Cl), cs[j]? = some d → d.err = 0
  | [], _, j, d, h => by cases h
  | x :: cs, h0, j, d, h => by
    rw [cellsErr] at h0
    split at h0
    · rename_i h1; exact absurd h0 h1
    · rename_i h1
      cases j with
      | zero => obtain rfl : x = d := by simpa using h
                exact Decidable.not_not.1 h1
      | succ j => exact cellsErr_zero cs h0 j d (by simpa using h)
theorem Ch.err_zero {c : Ch} (h1 : 0 ≤ c.epoch ∧ c.epoch ≤ 99) (h2 : 0 ≤ c.cut ∧ c.cut ≤ 30) (h3 : (c.cells.length : Int) ≤ 30 - c.cut) (h4 : ∀ (j : Nat) (d : Cl), c.cells[j]? = some d → d.err = 0) (h5 : lastEmpty c.cells = false) : c.err = 0 := by
  have hi : inTo c.cut 30 = true := by simp [inTo, h2]
  have hc := cellsErr_ok _ h4
  unfold Ch.err
  rw [if_neg (by rw [hi]; rintro (h | h | h); omega; omega; cases h), if_neg (by omega), hc, if_neg (by simp), h5, if_neg (by simp)]
theorem text_err {s : ByteArray} (h : s.size ≤ 12) : (textCl s).err = 0 := by
  have : ¬ 12 < s.size := by omega
  simp [Cl.err, textCl, this]
theorem junk_err : junkCl.err = 0 := by kernel_rfl
theorem zero_err : zeroCl.err = 0 := by kernel_rfl
theorem lastEmpty_some {cs : List Cl} {x : Cl} (h : cs[cs.length - 1]? = some x) : lastEmpty cs = x.empty := by unfold lastEmpty; rw [h]
theorem putCells_get (cs : List Cl) (i : Nat) (x : Cl) (k : Nat) : (putCells cs i x)[k]? = if k = i then some x else if k < cs.length then cs[k]? else if k < i + 1 then some zeroCl else none := by
  unfold putCells
  rw [List.getElem?_set]
  by_cases h : i = k
  · subst h
    rw [if_pos rfl, if_pos (by simp; omega), if_pos rfl]
  · rw [if_neg h, if_neg (Ne.symm h), List.getElem?_append]
    split
    · rfl
    · rename_i h2
      rw [List.getElem?_replicate]
      by_cases h3 : k < i + 1
      · rw [if_pos h3, if_pos (by omega)]
      · rw [if_neg h3, if_neg (by omega)]
/-- A cell that comes to a place of a right chain leaves it right. -/
theorem put_err {c : Ch} {i : Nat} {x : Cl} (h : c.err = 0) (hi : c.cut + (i : Int) < 30) (hx : x.err = 0) (he : x.empty = false) : (⟨c.epoch, c.sealed, c.cut, putCells c.cells i x⟩ : Ch).err = 0 := by
  obtain ⟨h1, h2, h3, h4, h5⟩ := Ch.fine h
  have hz := cellsErr_zero _ h4
  refine Ch.err_zero h1 h2 ?_ ?_ ?_
  · show ((putCells c.cells i x).length : Int) ≤ 30 - c.cut
    rw [putCells_length]
    omega
  · intro j d hd
    rw [putCells_get] at hd
    split at hd
    · cases hd; exact hx
    · split at hd
      · exact hz j d hd
      · split at hd
        · cases hd; exact zero_err
        · cases hd
  · show lastEmpty (putCells c.cells i x) = false
    by_cases hl : c.cells.length ≤ i + 1
    · rw [lastEmpty_some (x := x) (by rw [putCells_length, putCells_get, if_pos (by omega)])]
      exact he
    · have hg : c.cells[c.cells.length - 1]? = some c.cells[c.cells.length - 1] := List.getElem?_eq_getElem (by omega)
      rw [lastEmpty_some (x := c.cells[c.cells.length - 1]) (by rw [putCells_length, putCells_get, if_neg (by omega), if_pos (by omega), show max c.cells.length (i + 1) - 1 = c.cells.length - 1 from by omega]; exact hg)]
      rw [← lastEmpty_some hg]
      exact h5
theorem put_at (c : Ch) (i : Nat) (x : Cl) (k : Nat) : (⟨c.epoch, c.sealed, c.cut, putCells c.cells i x⟩ : Ch).at k = if k = i then x else c.at k := by
  unfold Ch.at
  simp only
  rw [putCells_get]
  by_cases h : k = i
  · rw [if_pos h, if_pos h, Option.getD_some]
  · rw [if_neg h, if_neg h]
    split
    · rfl
    · rename_i h2
      rw [List.getElem?_eq_none (by omega)]
      split <;> rfl
/-- What a write that is let leaves. -/
theorem write_ok {c d : Ch} {kn p : Int} {x : Cl} {may : Cl → Bool} (h : c.write kn p x may = (d, 0)) :
    c.err = 0 ∧ (0 ≤ p ∧ p < 30) ∧ x.text.size ≤ 12 ∧ kn = c.epoch ∧ c.sealed = false ∧ ∃ i : Nat, p = c.cut + i ∧ may (c.at i) = true ∧ d = ⟨c.epoch, c.sealed, c.cut, putCells c.cells i x⟩ := by
  unfold Ch.write at h
  split at h
  · rename_i h1; injection h with _ h; exact absurd h h1
  · rename_i h1
    obtain ⟨e1, e2, e3, e4, e5⟩ := wErr_fine (Decidable.not_not.1 h1)
    split at h
    · injection h with _ h; cases h
    · rename_i h2
      have h3 : ¬ p < c.cut := fun h => h2 (.inl h)
      have h4 : may (c.at (p - c.cut).toNat) = true := by cases hm : may (c.at (p - c.cut).toNat); exact absurd (.inr hm) h2; rfl
      injection h with h _
      exact ⟨e1, e2, e3, e4, e5, (p - c.cut).toNat, by omega, h4, h.symm⟩
theorem write_bad {c d : Ch} {kn p er : Int} {x : Cl} {may : Cl → Bool} (h : c.write kn p x may = (d, er)) (he : er ≠ 0) : d = zeroCh := by
  unfold Ch.write at h
  split at h
  · injection h with h _; exact h.symm
  · split at h
    · injection h with h _; exact h.symm
    · injection h with _ h; exact absurd h.symm he
/-- What is read of a right chain, at a place that is not cut off. -/
theorem read_at {c : Ch} {i : Nat} (h : c.err = 0) (hi : c.cut + (i : Int) < 30) : c.read (c.cut + i) = if (c.at i).junk then (⟨#[]⟩, 7) else if (c.at i).there then ((c.at i).text, 0) else (⟨#[]⟩, 5) := by
  obtain ⟨_, h2, _⟩ := Ch.fine h
  unfold Ch.read
  rw [if_neg (by simp [h]), if_neg (by omega), if_neg (by omega), show (c.cut + (i : Int) - c.cut).toNat = i from by omega]
/-- What was written is read. -/
theorem write_read {c d : Ch} {kn p : Int} {s : ByteArray} {may : Cl → Bool} (h : c.write kn p (textCl s) may = (d, 0)) : d.err = 0 ∧ d.read p = (s, 0) := by
  obtain ⟨e1, e2, e3, _, _, i, rfl, _, rfl⟩ := write_ok h
  have he := put_err (x := textCl s) e1 e2.2 (text_err e3) rfl
  refine ⟨he, ?_⟩
  have := read_at (i := i) he e2.2
  rw [put_at, if_pos rfl] at this
  exact this
/-- No other place is changed. -/
theorem write_other {c d : Ch} {kn p q : Int} {x : Cl} {may : Cl → Bool} (h : c.write kn p x may = (d, 0)) (hd : d.err = 0) (hq : q ≠ p) : d.read q = c.read q := by
  obtain ⟨e1, e2, e3, _, _, i, rfl, _, rfl⟩ := write_ok h
  unfold Ch.read
  simp only [e1, hd]
  by_cases h1 : q < 0 ∨ 30 ≤ q
  · simp [h1]
  · by_cases h2 : q < c.cut
    · simp [h1, h2]
    · have : ¬ (q - c.cut).toNat = i := by omega
      rw [put_at, if_neg this]
theorem drop_at (c : Ch) (m k : Nat) : (⟨c.epoch, c.sealed, c.cut + m, c.cells.drop m⟩ : Ch).at k = c.at (m + k) := by
  unfold Ch.at
  simp only
  rw [List.getElem?_drop]
/-- What is cut off leaves a right chain. -/
theorem drop_err {c : Ch} (h : c.err = 0) {m : Nat} (hm : c.cut + (m : Int) ≤ 30) : (⟨c.epoch, c.sealed, c.cut + m, c.cells.drop m⟩ : Ch).err = 0 := by
  obtain ⟨h1, h2, h3, h4, h5⟩ := Ch.fine h
  have hz := cellsErr_zero _ h4
  refine Ch.err_zero h1 ⟨by show 0 ≤ c.cut + (m : Int); omega, hm⟩ ?_ ?_ ?_
  · show ((c.cells.drop m).length : Int) ≤ 30 - (c.cut + m)
    rw [List.length_drop]
    omega
  · intro j d hd
    have hd' : (c.cells.drop m)[j]? = some d := hd
    rw [List.getElem?_drop] at hd'
    exact hz _ d hd'
  · show lastEmpty (c.cells.drop m) = false
    by_cases hl : m < c.cells.length
    · have hg : c.cells[c.cells.length - 1]? = some c.cells[c.cells.length - 1] := List.getElem?_eq_getElem (by omega)
      rw [lastEmpty_some (x := c.cells[c.cells.length - 1]) (by rw [List.getElem?_drop, List.length_drop, show m + (c.cells.length - m - 1) = c.cells.length - 1 from by omega]; exact hg), ← lastEmpty_some hg]
      exact h5
    · rw [List.drop_eq_nil_of_le (by omega)]
      rfl
theorem trim_ok {c d : Ch} {to : Int} (h : c.trim to = (d, 0)) : c.err = 0 ∧ (0 ≤ to ∧ to ≤ 30) ∧ ∃ m : Nat, max c.cut to = c.cut + m ∧ d = ⟨c.epoch, c.sealed, c.cut + m, c.cells.drop m⟩ := by
  unfold Ch.trim at h
  split at h
  · rename_i h1; injection h with _ h; exact absurd h h1
  · rename_i h1
    split at h
    · injection h with _ h; cases h
    · rename_i h2
      injection h with h _
      have h3 : inTo to 30 = true := by cases hx : inTo to 30; exact absurd hx h2; rfl
      have hm : max c.cut to = c.cut + ((max c.cut to - c.cut).toNat : Nat) := by omega
      exact ⟨Decidable.not_not.1 h1, by simpa [inTo] using h3, (max c.cut to - c.cut).toNat, hm, by rw [← h, ← hm]⟩
/-- What stands is read behind a cut, if it is not cut off. -/
theorem trim_read {c d : Ch} {to : Int} {i : Nat} (h : c.trim to = (d, 0)) (hi : c.cut + (i : Int) < 30) : d.err = 0 ∧ d.read (c.cut + i) = if c.cut + (i : Int) < to then (⟨#[]⟩, 4) else c.read (c.cut + i) := by
  obtain ⟨h1, h2, m, hm, rfl⟩ := trim_ok h
  obtain ⟨_, h3, _⟩ := Ch.fine h1
  have he := drop_err h1 (m := m) (by omega)
  refine ⟨he, ?_⟩
  by_cases hlt : c.cut + (i : Int) < to
  · rw [if_pos hlt]
    unfold Ch.read
    rw [if_neg (by simp [he]), if_neg (by omega), if_pos (by show c.cut + (i : Int) < c.cut + (m : Int); omega)]
  · rw [if_neg hlt, read_at h1 hi]
    have hmi : m ≤ i := by omega
    have := read_at (c := ⟨c.epoch, c.sealed, c.cut + m, c.cells.drop m⟩) (i := i - m) he (by show c.cut + (m : Int) + ((i - m : Nat) : Int) < 30; omega)
    rw [drop_at, show m + (i - m) = i from by omega, show (c.cut + (m : Int) + ((i - m : Nat) : Int)) = c.cut + (i : Int) from by omega] at this
    exact this
/-- The epoch and the seal are of no matter to a read. -/
theorem turned_err {c : Ch} (h : c.err = 0) {ep : Int} (he : 0 ≤ ep ∧ ep ≤ 99) (s : Bool) : (⟨ep, s, c.cut, c.cells⟩ : Ch).err = 0 := by
  obtain ⟨h1, h2, h3, h4, h5⟩ := Ch.fine h
  exact Ch.err_zero he h2 h3 (cellsErr_zero _ h4) h5
theorem turned_read {c : Ch} (h : c.err = 0) {ep : Int} (he : 0 ≤ ep ∧ ep ≤ 99) (s : Bool) (p : Int) : (⟨ep, s, c.cut, c.cells⟩ : Ch).read p = c.read p := by
  unfold Ch.read
  rw [turned_err h he s, h]
  rfl
end Go.Proofs.Ytikdncgjaomlcaa
