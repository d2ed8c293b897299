/- Chains: what a written text undergoes: further writes, a seal, a new epoch, a cut. -/
import Derived.Test.YtikdncgjaomlcaaCB
namespace Go.Proofs.Ytikdncgjaomlcaa
open Go.RowKit

theorem write_keeps {d e : Ch} {ep p q : Int} {x : Cl} {s : ByteArray} {may : Cl → Bool} (h : d.write ep q x may = (e, 0)) (hd : d.read p = (s, 0)) (hx : x.text.size ≤ 12 → x.err = 0) (hxe : x.empty = false) (hm : ∀ c, may c = true → c.there = false) :
    e.err = 0 ∧ e.epoch = ep ∧ e.sealed = false ∧ e.read p = (s, 0) := by
  have h0 := h
  obtain ⟨e1, e2, e3, rfl, e5, i, rfl, e7, rfl⟩ := write_ok h
  have he := put_err (x := x) e1 e2.2 (hx e3) hxe
  refine ⟨he, rfl, e5, ?_⟩
  by_cases hq : p = d.cut + (i : Int)
  · subst hq
    rw [read_at e1 e2.2, hm _ e7] at hd
    split at hd
    · injection hd with _ hd; cases hd
    · injection hd with _ hd; cases hd
  · rw [write_other h0 he hq, hd]
theorem empty_there (c : Cl) (h : c.empty = true) : c.there = false := by
  unfold Cl.empty at h
  cases ht : c.there
  · rfl
  · simp [ht] at h
theorem notThere_there (c : Cl) (h : notThere c = true) : c.there = false := by
  unfold notThere at h
  cases ht : c.there
  · rfl
  · simp [ht] at h
theorem seal_fine {b : Ch} (h : b.err = 0) : b.seal b.epoch = (⟨b.epoch, true, b.cut, b.cells⟩, 0) := by
  unfold Ch.seal
  rw [if_neg (by simp [h]), if_neg (by simp)]
theorem open_many {b : Ch} (h : b.err = 0) (he : b.epoch = 99) : (⟨b.epoch, true, b.cut, b.cells⟩ : Ch).open = (zeroCh, 2) := by
  obtain ⟨h1, _⟩ := Ch.fine h
  have := turned_err h (ep := b.epoch) h1 true
  unfold Ch.open
  rw [if_neg (by simp [this]), if_neg (by simp), if_pos he]
theorem open_fine {b : Ch} (h : b.err = 0) (he : b.epoch ≠ 99) : (⟨b.epoch, true, b.cut, b.cells⟩ : Ch).open = (⟨b.epoch + 1, false, b.cut, b.cells⟩, 0) := by
  obtain ⟨h1, _⟩ := Ch.fine h
  have := turned_err h (ep := b.epoch) h1 true
  unfold Ch.open
  rw [if_neg (by simp [this]), if_neg (by simp), if_neg he]
theorem opened_err {b : Ch} (h : b.err = 0) (he : b.epoch ≠ 99) : (⟨b.epoch + 1, false, b.cut, b.cells⟩ : Ch).err = 0 := by
  obtain ⟨h1, _⟩ := Ch.fine h
  exact turned_err h (by omega) false
theorem trim_bad {o : Ch} (h : o.err = 0) {to : Int} (ht : to < 0 ∨ 30 < to) : o.trim to = (zeroCh, 3) := by
  unfold Ch.trim
  rw [if_neg (by simp [h]), if_pos (by simp [inTo]; omega)]
theorem trim_fine {o : Ch} (h : o.err = 0) {to : Int} (ht : ¬ (to < 0 ∨ 30 < to)) : o.trim to = (⟨o.epoch, o.sealed, max o.cut to, o.cells.drop (max o.cut to - o.cut).toNat⟩, 0) := by
  unfold Ch.trim
  rw [if_neg (by simp [h]), if_neg (by simp [inTo]; omega)]
/-- Where a text was read. -/
theorem read_ok {b : Ch} {p : Int} {s : ByteArray} (h : b.read p = (s, 0)) : b.err = 0 ∧ ∃ i : Nat, p = b.cut + i ∧ b.cut + (i : Int) < 30 := by
  unfold Ch.read at h
  split at h
  · rename_i h1; injection h with _ h; exact absurd h h1
  · rename_i h1
    split at h
    · injection h with _ h; cases h
    · split at h
      · injection h with _ h; cases h
      · exact ⟨Decidable.not_not.1 h1, (p - b.cut).toNat, by omega, by omega⟩
theorem keeps_cut {b d : Ch} {p to : Int} {s : ByteArray} (hr : b.read p = (s, 0)) (he : b.epoch ≠ 99) (ht : (⟨b.epoch + 1, false, b.cut, b.cells⟩ : Ch).trim to = (d, 0)) : d.read p = if p < to then (⟨#[]⟩, 4) else (s, 0) := by
  obtain ⟨h, i, rfl, hi⟩ := read_ok hr
  obtain ⟨h1, _⟩ := Ch.fine h
  have hb : (⟨b.epoch + 1, false, b.cut, b.cells⟩ : Ch).read (b.cut + i) = (s, 0) := by rw [turned_read h (by omega), hr]
  have := (trim_read (c := ⟨b.epoch + 1, false, b.cut, b.cells⟩) (i := i) ht hi).2
  rw [hb] at this
  exact this
end Go.Proofs.Ytikdncgjaomlcaa
