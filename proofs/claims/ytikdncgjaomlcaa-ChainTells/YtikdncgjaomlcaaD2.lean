/- The document's check of a chain: cutwaterref.CheckChain. -/
import Derived.Test.YtikdncgjaomlcaaD1
namespace Go.Proofs.Ytikdncgjaomlcaa
open Go.RowKit

set_option maxHeartbeats 8000000 in
theorem refCheck_any (c : Ch) (a : Option Addr) (cap : Nat) (w : World) (hc : CellsAt w a cap c.cells) (hlen : c.cells.length ≤ 9223372036854775777) :
    Calls Try.prog 26 #[c.val a cap] w fun e w' => e = .returned (.int .i64 c.err) ∧ Grow w w' := by
  obtain ⟨ep, se, cu, cs⟩ := c
  unfold Ch.val
  have HE : ∀ x, Ch.err ⟨ep, se, cu, cs⟩ = x → Hid (Ch.err ⟨ep, se, cu, cs⟩ = x) := fun _ h => h
  simp only at hc hlen ⊢
  have HC : Hid (CellsAt w a cap cs) := hc
  clear hc
  cases h1 : betw ep 0 99
  · have hep : ep < 0 ∨ 99 < ep := by simp [betw] at h1; omega
    have E := HE 3 (by rw [Ch.err, if_pos (hep.elim .inl fun h => .inr (.inl h))])
    clear HE hep
    go_enter Try.func26, Try.ntmps26
    go_wp2_with (go_at_call 36; refine (between_any _ _ _ _).mono ?_; rw [h1]; rintro e w1 ⟨rfl, rfl⟩)
    go_ret
    exact ⟨by rw [E.out]; rfl, (Grow.refl _).alloc _⟩
  have hep : ¬ ep < 0 ∧ ¬ 99 < ep := by simp [betw] at h1; omega
  cases h2 : betw cu 0 30
  · have hi : inTo cu 30 = false := by unfold inTo; exact h2
    have E := HE 3 (by rw [Ch.err, if_pos (.inr (.inr hi))])
    clear HE hep hi
    go_enter Try.func26, Try.ntmps26
    go_wp2_with (go_at_call 36; refine (between_any _ _ _ _).mono ?_; (first | rw [h1] | rw [h2]); rintro e w1 ⟨rfl, rfl⟩)
    go_ret
    exact ⟨by rw [E.out]; rfl, (Grow.refl _).alloc _⟩
  have hcu : 0 ≤ cu ∧ cu ≤ 30 := by simp [betw] at h2; omega
  have hi : inTo cu 30 = true := by unfold inTo; exact h2
  have n1 : ¬ (ep < 0 ∨ 99 < ep ∨ inTo cu 30 = false) := by simp [hep, hi]
  have hadd : IntKind.i64.wrap (cu + (cs.length : Int)) = cu + (cs.length : Int) := by rw [IntKind.wrap_i64]; omega
  have hadd' : wrap64 (cu + (cs.length : Int)) = cu + (cs.length : Int) := by unfold wrap64; omega
  clear hi hep
  by_cases h4 : 30 - cu < (cs.length : Int)
  · have h4' : decide (30 < cu + (cs.length : Int)) = true := by simp; omega
    have E := HE 2 (by rw [Ch.err, if_neg n1, if_pos h4])
    clear HE n1 h4
    go_enter Try.func26, Try.ntmps26
    go_wp2_with (go_at_call 36; refine (between_any _ _ _ _).mono ?_; (first | rw [h1] | rw [h2]); rintro e w1 ⟨rfl, rfl⟩)
    go_ret
    exact ⟨by rw [E.out]; rfl, (Grow.refl _).alloc _⟩
  have h4' : decide (30 < cu + (cs.length : Int)) = false := by simp; omega
  have hle : cs.length ≤ 30 := by omega
  have HN : Hid (Ch.err ⟨ep, se, cu, cs⟩ = if cellsErr cs ≠ 0 then cellsErr cs else if lastEmpty cs then 4 else 0) := by
    show Ch.err ⟨ep, se, cu, cs⟩ = _
    rw [Ch.err, if_neg n1, if_neg h4]
  clear HE n1 h4
  go_enter Try.func26, Try.ntmps26
  go_wp2_with (go_at_call 36; refine (between_any _ _ _ _).mono ?_; (first | rw [h1] | rw [h2]); rintro e w1 ⟨rfl, rfl⟩)
  clear h1 h2 h4' hadd hadd'
  go_loopw [3] (fun i wr => ∃ k : Nat, k ≤ cs.length ∧ i = .int .i64 k ∧ (∀ j, j < k → ∀ d, cs[j]? = some d → d.err = 0) ∧ Grow (w.alloc (Obj.cells #[.int .i64 ep, .bool se, .int .i64 cu, .slice a cs.length cap] 42)) wr) (fun i _ => cs.length - (intOf i).toNat)
  case atStart => exact ⟨0, Nat.zero_le _, rfl, fun j hj => by omega, Grow.refl _⟩
  case round =>
    obtain ⟨k, hk, rfl, hz, hg⟩ := hrel
    have HZ : Hid (∀ j, j < k → ∀ d, cs[j]? = some d → d.err = 0) := hz
    have hG : Grow w wr := ((Grow.refl w).alloc _).trans hg
    have e3 := cell_grow hg (a := ⟨w.heap.size, 3, none⟩) (v := .slice a cs.length cap) (by simp)
    clear hz
    by_cases hlt : k < cs.length
    · have hck : cs[k]? = some cs[k] := List.getElem?_eq_getElem hlt
      generalize cs[k] = c at hck
      have HK : Hid (cs[k]? = some c) := hck
      obtain ⟨b, off, rfl, d0, d1, d2, hs⟩ := (HC.out.grow hG).at hck
      have hlt' : (k : Int) < (cs.length : Int) := by omega
      clear hck
      have HX : ∀ x, c.err = x → x ≠ 0 → Hid (Ch.err ⟨ep, se, cu, cs⟩ = x) := fun x hx hn => by
        show Ch.err ⟨ep, se, cu, cs⟩ = _
        have h5 := cellsErr_at cs k c HK.out HZ.out (by rw [hx]; exact hn)
        rw [HN.out, h5, hx, if_pos hn]
      have HY : c.err = 0 → Hid (∀ j, j < k + 1 → ∀ d, cs[j]? = some d → d.err = 0) := fun he j hj d hd => by
        by_cases hjk : j = k
        · subst hjk
          rw [HK.out] at hd
          cases hd
          exact he
        · exact HZ.out j (by omega) d hd
      obtain ⟨t, u, s⟩ := c
      unfold Cl.err at HX HY
      simp only at HX HY d0 d1 d2 hs
      clear HK HZ
      by_cases hl : 12 < s.size
      all_goals
        cases hn : noText s
        all_goals
          have hn' := hn
          unfold noText at hn'
          cases t
          all_goals
            cases u
            all_goals
              simp only [hl, hn] at HX HY
              first
              | (have H := HX _ rfl (by decide)
                 clear HX HY
                 go_wp2
                 go_ret
                 exact ⟨by rw [H.out]; rfl, hG.alloc _⟩)
              | (have H := HY rfl
                 clear HX HY
                 go_wp2
                 go_roundw
                 case rel => exact ⟨k + 1, by omega, by go_num, H.out, hg.alloc _⟩
                 case measure => simp [intOf]; omega)
    · have hkl : k = cs.length := by omega
      have h0 : cellsErr cs = 0 := cellsErr_ok cs fun j d hd => HZ.out j (by have := (List.getElem?_eq_some_iff.1 hd).1; omega) d hd
      have HN' : Hid (Ch.err ⟨ep, se, cu, cs⟩ = if lastEmpty cs then 4 else 0) := by
        show Ch.err ⟨ep, se, cu, cs⟩ = _
        rw [HN.out, h0, if_neg (by simp)]
      clear h0 HN HZ hk
      subst hkl
      by_cases hn : cs = []
      · subst hn
        go_wp2
        go_ret
        exact ⟨by rw [HN'.out]; rfl, hG⟩
      · obtain ⟨m, hm⟩ : ∃ m, cs.length = m + 1 := ⟨cs.length - 1, by have := List.length_pos_iff.2 hn; omega⟩
        have hck : cs[m]? = some cs[m] := List.getElem?_eq_getElem (by omega)
        generalize cs[m] = c at hck
        obtain ⟨b, off, rfl, d0, d1, d2, hs⟩ := (HC.out.grow hG).at hck
        have hle' : Hid (lastEmpty cs = c.empty) := by
          show lastEmpty cs = _
          unfold lastEmpty
          rw [hm, Nat.add_sub_cancel, hck]
        clear hck hn
        have hw6 : IntKind.i64.wrap (m : Int) = m := by simp [IntKind.wrap_i64]; omega
        have hm1 : (m : Int) < (m : Int) + 1 := by omega
        obtain ⟨t, u, s⟩ := c
        unfold Cl.empty at hle'
        simp only at hle' d0 d1 d2 hs
        cases t
        all_goals
          cases u
          all_goals
            go_wp2
            go_ret
            exact ⟨by rw [HN'.out, hle'.out]; rfl, hG⟩
end Go.Proofs.Ytikdncgjaomlcaa
