/- Several servers: each. -/
import Derived.Test.YtlpdoloolagcbabSH
namespace Go.Proofs.Ytlpdoloolagcbab
open Go.RowKit

/-- Is a server of some colors? -/
def bitOf (colors : Int) (i : Nat) : Bool := decide (colors / 2 ^ i % 2 = 1)
/-- What every server of some colors does, up to the first error. -/
def eachGo (f : Sv → Int → Sv × Int × Int) (colors : Int) : Nat → Nat → List Sv → Int → List Sv × Int × Int
  | 0, _, ss, g => (ss, g, 0)
  | m + 1, i, ss, g => match ss[i]? with
    | none => (ss, g, 0)
    | some s => if bitOf colors i then (if (f s g).2.2 = 0 then eachGo f colors m (i + 1) (ss.set i (f s g).1) (f s g).2.1 else (ss, (f s g).2.1, (f s g).2.2)) else eachGo f colors m (i + 1) ss g
theorem flat_setR : ∀ (rs : List Rs) (i : Nat) (r : Rs), (((flat Rs.enc rs).set (i * 3) (.int .i64 r.clock)).set (i * 3 + 1) (.slice r.aW r.nW r.cW)).set (i * 3 + 2) (.slice r.aD r.nD r.cD) = flat Rs.enc (rs.set i r)
  | [], i, r => by simp [flat]
  | c :: cs, 0, r => rfl
  | c :: cs, i + 1, r => by
    have e : ∀ (d : Rs) ds, flat Rs.enc (d :: ds) = .int .i64 d.clock :: .slice d.aW d.nW d.cW :: .slice d.aD d.nD d.cD :: flat Rs.enc ds := fun _ _ => rfl
    rw [List.set_cons_succ, e, e, ← flat_setR cs i r, show (i + 1) * 3 = i * 3 + 1 + 1 + 1 from by omega]
    rfl
theorem Row.set {base g cap : Nat} {w : World} {rs : List Rs} {ss : List Sv} (h : Row base w g cap rs ss) {i : Nat} {r : Rs} {s : Sv} (hi : i < rs.length) (hr : SvAt w s r.val) (ho : r.off g) :
    Row base (((w.setCell ⟨g, i * 3, none⟩ (.int .i64 r.clock)).setCell ⟨g, i * 3 + 1, none⟩ (.slice r.aW r.nW r.cW)).setCell ⟨g, i * 3 + 2, none⟩ (.slice r.aD r.nD r.cD)) g cap (rs.set i r) (ss.set i s) := by
  obtain ⟨o1, _⟩ := h.own.stored (i * 3) (.int .i64 r.clock)
  obtain ⟨o2, _⟩ := o1.stored (i * 3 + 1) (.slice r.aW r.nW r.cW)
  obtain ⟨o3, _⟩ := o2.stored (i * 3 + 2) (.slice r.aD r.nD r.cD)
  rw [flat_setR] at o3
  have keep : ∀ {s' : Sv} {r' : Rs}, SvAt w s' r'.val → r'.off g → SvAt (((w.setCell ⟨g, i * 3, none⟩ (.int .i64 r.clock)).setCell ⟨g, i * 3 + 1, none⟩ (.slice r.aW r.nW r.cW)).setCell ⟨g, i * 3 + 2, none⟩ (.slice r.aD r.nD r.cD)) s' r'.val := fun h1 h2 =>
    SvAt.set (SvAt.set (SvAt.set h1 (p := ⟨g, i * 3, none⟩) h2 _) (p := ⟨g, i * 3 + 1, none⟩) h2 _) (p := ⟨g, i * 3 + 2, none⟩) h2 _
  refine ⟨by rw [List.length_set]; exact o3, ⟨by simp [h.lies.1], fun j r' s' h1 h2 => ?_⟩, fun r' hr' => ?_⟩
  · rw [List.getElem?_set] at h1 h2
    by_cases hij : i = j
    · subst hij
      rw [if_pos rfl, if_pos hi] at h1
      rw [if_pos rfl, if_pos (by rw [← h.lies.1]; exact hi)] at h2
      cases h1
      cases h2
      exact keep hr ho
    · rw [if_neg hij] at h1 h2
      exact keep (h.lies.2 j r' s' h1 h2) (h.apart r' (List.mem_of_getElem? h1))
  · rcases List.mem_or_eq_of_mem_set hr' with h' | rfl
    · exact h.apart r' h'
    · exact ho
/-- The lists lie elsewhere than the greatest time. -/
theorem Row.but {base g cap bG : Nat} {w w' : World} {rs : List Rs} {ss : List Sv} (h : Row base w g cap rs ss) (hg : w.grownBy w' (some bG)) (hne : g ≠ bG) (ho : ∀ r ∈ rs, r.off bG) : Row base w' g cap rs ss :=
  ⟨own_grown h.own hg (fun x hx e => hne ((Option.some.inj hx).trans (Option.some.inj e).symm)), ⟨h.lies.1, fun i r s h1 h2 => (h.lies.2 i r s h1 h2).grown hg (fun b hb => by (have hb' : bG = b := Option.some.inj hb); subst hb'; exact ho r (List.mem_of_getElem? h1))⟩, h.apart⟩
theorem bit_is (colors : Int) (hc : 1 ≤ colors ∧ colors ≤ 7) (k : Nat) (hk : k < 3) : (bits BinOp.and IntKind.i64 (colors / 2 ^ k) 1 == 0) = (!bitOf colors k) := by
  have h1 : colors = 1 ∨ colors = 2 ∨ colors = 3 ∨ colors = 4 ∨ colors = 5 ∨ colors = 6 ∨ colors = 7 := by omega
  have h2 : k = 0 ∨ k = 1 ∨ k = 2 := by omega
  rcases h1 with rfl | rfl | rfl | rfl | rfl | rfl | rfl <;> rcases h2 with rfl | rfl | rfl <;> first | rfl | decide
end Go.Proofs.Ytlpdoloolagcbab
