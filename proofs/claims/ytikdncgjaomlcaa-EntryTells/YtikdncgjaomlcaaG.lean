/- (*entry.reader).links: what it answers, or with what it gives up. -/
import Derived.Test.YtikdncgjaomlcaaF
namespace Go.Proofs.Ytikdncgjaomlcaa
open Go.RowKit

/-- With what the reader gives up at an id that begins at place p. -/
def idStop (s : ByteArray) (p : Nat) : Option Int := if s.size < p + 1 then some 5 else if isReg (bAt s p) = false then some 1 else if s.size < p + 2 then some 5 else none
theorem rid_stop (br : Nat) (s : ByteArray) (p : Nat) (x : Int) (w : World) (hr : Reader w br s p) (hs : s.size ≤ 1152921504606846976) (hp : p ≤ s.size) (h : idStop s p = some x) :
    Calls Try.prog 59 #[.pointer (some ⟨br, 0, none⟩)] w fun e w' => e = .panicked [{ v := brk x, recovered := false }] ∧ Turn br w w' := by
  unfold idStop at h
  by_cases h1 : s.size < p + 1
  · rw [if_pos h1] at h; cases h
    exact rid_none br s p w hr hp h1
  · rw [if_neg h1] at h
    cases h2 : isReg (bAt s p)
    · rw [if_pos h2] at h; cases h
      exact rid_form br s p w hr hs (by omega) h2
    · rw [if_neg (by simp [h2])] at h
      by_cases h3 : s.size < p + 2
      · rw [if_pos h3] at h; cases h
        exact rid_half br s p w hr hs (by omega) h2
      · rw [if_neg h3] at h; cases h
theorem idStop_none {s : ByteArray} {p : Nat} (h : idStop s p = none) : p + 2 ≤ s.size ∧ isReg (bAt s p) = true := by
  unfold idStop at h
  by_cases h1 : s.size < p + 1
  · rw [if_pos h1] at h; cases h
  · rw [if_neg h1] at h
    cases h2 : isReg (bAt s p)
    · rw [if_pos h2] at h; cases h
    · rw [if_neg (by simp [h2])] at h
      by_cases h3 : s.size < p + 2
      · rw [if_pos h3] at h; cases h
      · exact ⟨by omega, rfl⟩

/-- With what the reader gives up within k links from place p on. -/
def linksStop (s : ByteArray) (p : Nat) : Nat → Option Int
  | 0 => none
  | k + 1 => match linksStop s p k with
    | some x => some x
    | none => idStop s (p + k * 2)
theorem linksStop_stays (s : ByteArray) (p k : Nat) (x : Int) (h : linksStop s p k = some x) : ∀ m, k ≤ m → linksStop s p m = some x := by
  intro m hm
  induction m with
  | zero => obtain rfl : k = 0 := by omega
            exact h
  | succ m ih =>
    by_cases hk : k = m + 1
    · subst hk; exact h
    · rw [linksStop, ih (by omega)]
theorem linksStop_step (s : ByteArray) (p k : Nat) (h : linksStop s p k = none) : linksStop s p (k + 1) = idStop s (p + k * 2) := by rw [linksStop, h]
theorem linksStop_lt (s : ByteArray) (p : Nat) : ∀ k, linksStop s p k = none → p ≤ s.size → p + k * 2 ≤ s.size
  | 0, _, hp => by omega
  | k + 1, h, hp => by
    cases h0 : linksStop s p k with
    | some x => rw [linksStop, h0] at h; cases h
    | none =>
      rw [linksStop_step s p k h0] at h
      have := (idStop_none h).1
      omega

theorem ownsRow_turn {br : Nat} {w w' : World} {base : Nat} {e : TypeId} {size : Nat} {v : Value} {n : Nat} {xs : List Value} (h : w.ownsRow base e size v n xs) (t : Turn br w w') (hb : br < base) : w'.ownsRow base e size v n xs := by
  obtain ⟨h1, h2⟩ := h
  refine ⟨h1, ?_⟩
  rcases h2 with h2 | ⟨g, cap, cur, hv, hg, hh, r⟩
  · exact .inl h2
  · exact .inr ⟨g, cap, cur, hv, hg, t.heap (by omega) hh, r⟩

def linkVals (s : ByteArray) (p k : Nat) : List Value := (List.range k).flatMap fun j => [.int .i64 (bAt s (p + j * 2)), .int .i64 (bAt s (p + j * 2 + 1))]
theorem linkVals_succ (s : ByteArray) (p k : Nat) : linkVals s p (k + 1) = linkVals s p k ++ [.int .i64 (bAt s (p + k * 2)), .int .i64 (bAt s (p + k * 2 + 1))] := by simp [linkVals, List.range_succ]
theorem linkVals_length (s : ByteArray) (p : Nat) : ∀ k, (linkVals s p k).length = k * 2
  | 0 => rfl
  | k + 1 => by rw [linkVals_succ, List.length_append, linkVals_length s p k]; simp; omega
theorem linkVals_at (s : ByteArray) (p : Nat) : ∀ k j, j < k → (linkVals s p k)[j * 2]? = some (.int .i64 (bAt s (p + j * 2))) ∧ (linkVals s p k)[j * 2 + 1]? = some (.int .i64 (bAt s (p + j * 2 + 1)))
  | 0, j, h => by omega
  | k + 1, j, h => by
    have hl := linkVals_length s p k
    rw [linkVals_succ]
    by_cases hj : j < k
    · have := linkVals_at s p k j hj
      rw [List.getElem?_append_left (by omega), List.getElem?_append_left (by omega)]
      exact this
    · obtain rfl : j = k := by omega
      rw [List.getElem?_append_right (by omega), List.getElem?_append_right (by omega), hl]
      simp
/-- The links that were read, as a slice of ids. -/
theorem idsAt_row {w : World} {base : Nat} {v : Value} {s : ByteArray} {p k : Nat} (hk : k ≤ 1000) (h : w.ownsRow base 23 2 v k (linkVals s p k)) :
    ∃ a cap, v = .slice a k cap ∧ (∀ x, a = some x → base ≤ x.block) ∧ IdsAt w a k (fun j => bAt s (p + j * 2)) (fun j => bAt s (p + j * 2 + 1)) := by
  rcases h.2 with ⟨rfl, rfl⟩ | ⟨g, cap, cur, rfl, hb, hg, _⟩
  · exact ⟨none, 0, rfl, fun x hx => by (cases hx), by omega, .inl rfl⟩
  · have hc := h.cells (g := g) rfl
    have add : ∀ i, (⟨g, 0, none⟩ : Addr).add i = ⟨g, 0 + i, none⟩ := fun i => by unfold Addr.add; split <;> simp_all
    exact ⟨_, _, rfl, fun x hx => by (cases hx; exact hb), by omega, .inr ⟨g, 0, rfl, fun j hj => by have := hc _ _ (linkVals_at s p k j hj).1; rwa [add] at this, fun j hj => by have := hc _ _ (linkVals_at s p k j hj).2; rwa [add] at this⟩⟩

theorem turn_grown {br : Nat} {w w2 w3 : World} {o : Obj} {e : TypeId} {size : Nat} {v : Value} {n : Nat} {xs : List Value} (h : Turn br w w2) (hown : w2.ownsRow w.heap.size e size v n xs) (hg : (w2.alloc o).grownBy w3 v.ownBlock) : Turn br w w3 :=
  ⟨hg.os.trans h.os, hg.tape.trans h.tape, hg.output.trans h.output, by have := hg.size; have := h.size; simp at *; omega, fun k hk hn => by
    have := h.size
    rw [hg.block k (by simp; omega) (own_ne hown hk), Below.heap_alloc _ _ _ (by omega)]
    exact h.block k hk hn⟩

theorem Try.info23 : (Try.prog.info? 23).map (fun i => (i.zero, i.size, i.bytes)) = some (some (.agg #[.int .i64 0, .int .i64 0]), 2, 16) := by kernel_rfl

set_option maxHeartbeats 2000000 in
theorem links_any (br : Nat) (s : ByteArray) (p : Nat) (w : World) (hr : Reader w br s p) (hs : s.size ≤ 1152921504606846976) (h : p + 1 ≤ s.size) :
    Calls Try.prog 61 #[.pointer (some ⟨br, 0, none⟩)] w fun e w' => Turn br w w' ∧ ((∃ x, linksStop s (p + 1) (bAt s p) = some x ∧ e = .panicked [{ v := brk x, recovered := false }]) ∨
      (linksStop s (p + 1) (bAt s p) = none ∧ ∃ a cap, e = .returned (.slice a (bAt s p) cap) ∧ (∀ x, a = some x → w.heap.size ≤ x.block) ∧ IdsAt w' a (bAt s p) (fun j => bAt s (p + 1 + j * 2)) (fun j => bAt s (p + 1 + j * 2 + 1)) ∧ Reader w' br s (p + 1 + bAt s p * 2))) := by
  obtain ⟨i0, hi, hz0, hz1, hz2⟩ := info_parts Try.info23
  have hlt := hr.lt
  have hbl := bAt_lt s p
  have HS : ∀ m, m = bAt s p → Hid (m = bAt s p) := fun _ h => h
  obtain ⟨m, hm⟩ : ∃ m, m = bAt s p := ⟨_, rfl⟩
  have HM := HS m hm
  rw [← hm] at hbl ⊢
  clear hm HS
  go_enter Try.func61, Try.ntmps61
  go_wp2_with fail
  refine (number_some br s p _ hr hs h).mono ?_
  rw [← HM.out]
  rintro e w1 ⟨rfl, hr1, ht1⟩
  go_wp2_with fail
  go_loopw [3, 6] (fun v i wr => ∃ k : Nat, k ≤ m ∧ i = .int .i64 k ∧ linksStop s (p + 1) k = none ∧ Turn br w wr ∧ Reader wr br s (p + 1 + k * 2) ∧ wr.ownsRow w.heap.size 23 2 v k (linkVals s (p + 1) k)) (fun _ i _ => m - (intOf i).toNat)
  case atStart => exact ⟨0, Nat.zero_le _, rfl, rfl, ht1, hr1, World.ownsRow_nil _ _ _ _⟩
  case round =>
    obtain ⟨k, hk, rfl, hno, hT, hR, hown⟩ := hrel
    have HN : Hid (linksStop s (p + 1) k = none) := hno
    have hpos := linksStop_lt s (p + 1) k hno h
    clear hno hr1 ht1
    by_cases hkm : k < m
    · have hkm' : (k : Int) < (m : Int) := by omega
      cases hstop : idStop s (p + 1 + k * 2) with
      | some x =>
        have HX : Hid (idStop s (p + 1 + k * 2) = some x) := hstop
        clear hstop
        go_wp2_with fail
        refine (rid_stop br s (p + 1 + k * 2) x _ hR hs hpos HX.out).mono ?_
        rintro e w2 ⟨rfl, ht2⟩
        refine ⟨rfl, hT.trans ht2, .inl ⟨x, ?_, rfl⟩⟩
        exact linksStop_stays s (p + 1) (k + 1) x (by rw [linksStop_step _ _ _ HN.out]; exact HX.out) m (by omega)
      | none =>
        have HX : Hid (idStop s (p + 1 + k * 2) = none) := hstop
        have hin := idStop_none hstop
        clear hstop
        have hgw := hT.size
        go_wp2_with fail
        refine (rid_some br s (p + 1 + k * 2) _ hR hs hin.1 hin.2).mono ?_
        rintro e w2 ⟨rfl, hr2, ht2⟩
        have hown2 := ownsRow_turn hown ht2 hlt
        have hg2 := ht2.size
        clear hown hR
        go_wp2_with (at_builtin; go_must (refine wpList_append_lies _ (by rfl) _ _ 24 (by rfl) w.heap.size 23 i0 (.agg #[.int .i64 0, .int .i64 0]) 2 16 Try.underlying24 hi hz0 hz1 hz2 (by rfl) (by decide) _ _ _ (by rfl) (hown2.alloc _) ⟨w2.heap.size, 0, none⟩ 1 1 [.int .i64 (bAt s (p + 1 + k * 2)), .int .i64 (bAt s (p + 1 + k * 2 + 1))] (by rfl) (by rfl) (World.news_of_block (heap_alloc_new w2 _)) (by intro u hu; simp at hu; rcases hu with rfl | rfl <;> rfl) (by decide) (by unfold maxLen; omega) (by omega) (by simp; omega) (w2.heap.size + 1) (by simp) ?_; intro g cap' w3 hown3 hgrow hat hltg))
        go_roundw
        case rel =>
          rw [← linkVals_succ] at hown3
          exact ⟨k + 1, by omega, by go_num, by rw [linksStop_step _ _ _ HN.out]; exact HX.out, turn_grown (hT.trans ht2) hown2 hgrow, by rw [show p + 1 + (k + 1) * 2 = p + 1 + k * 2 + 2 from by omega]; exact block_grown hgrow (own_ne hown2 hlt) hr2, hown3⟩
        case measure => simp [intOf]; omega
    · obtain rfl : k = m := by omega
      obtain ⟨a, cap, rfl, hnew, hids⟩ := idsAt_row (by omega) hown
      go_wp2_with fail
      go_ret
      exact ⟨hT, .inr ⟨HN.out, a, cap, rfl, hnew, hids, hR⟩⟩
end Go.Proofs.Ytikdncgjaomlcaa
