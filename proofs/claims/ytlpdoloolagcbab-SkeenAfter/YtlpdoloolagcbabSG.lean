/- Several servers. -/
import Derived.Test.YtlpdoloolagcbabSF
import Derived.Test.YtlpdoloolagcbabSQ
namespace Go.Proofs.Ytlpdoloolagcbab
open Go.RowKit

/-- A server, as it lies in a row. -/
structure Rs where
  clock : Int
  aW : Option Addr
  nW : Nat
  cW : Nat
  aD : Option Addr
  nD : Nat
  cD : Nat
def Rs.enc (r : Rs) : List Value := [.int .i64 r.clock, .slice r.aW r.nW r.cW, .slice r.aD r.nD r.cD]
def Rs.val (r : Rs) : Value := .agg #[.int .i64 r.clock, .slice r.aW r.nW r.cW, .slice r.aD r.nD r.cD]
theorem Rs.enc3 (r : Rs) : r.enc.length = 3 := rfl
theorem Rs.one (r : Rs) : ∀ v ∈ r.enc, v.oneCell' = true := by
  intro v hv
  simp [Rs.enc] at hv
  rcases hv with rfl | rfl | rfl <;> rfl
theorem SvAt.raw {w : World} {s : Sv} {v : Value} (h : SvAt w s v) : ∃ r : Rs, v = r.val ∧ SvAt w s r.val := by
  have h' := h
  obtain ⟨aW, cW, aD, cD, rfl, _⟩ := h
  exact ⟨⟨s.clock, aW, s.waits.length, cW, aD, s.done.length, cD⟩, rfl, h'⟩
/-- Servers that are in a row. -/
def Lies (w : World) (rs : List Rs) (ss : List Sv) : Prop := rs.length = ss.length ∧ ∀ (i : Nat) (r : Rs) (s : Sv), rs[i]? = some r → ss[i]? = some s → SvAt w s r.val
def SvsAt (w : World) (a : Option Addr) (cap : Nat) (ss : List Sv) : Prop := ∃ rs, RowAt Rs.enc 3 w a cap rs ∧ Lies w rs ss
theorem Lies.grow {w w' : World} {rs : List Rs} {ss : List Sv} (h : Lies w rs ss) (hg : Grow w w') : Lies w' rs ss := ⟨h.1, fun i r s hr hs => (h.2 i r s hr hs).grow hg⟩
theorem SvsAt.grow {w w' : World} {a : Option Addr} {cap : Nat} {ss : List Sv} (h : SvsAt w a cap ss) (hg : Grow w w') : SvsAt w' a cap ss := by
  obtain ⟨rs, h1, h2⟩ := h
  exact ⟨rs, h1.grow hg, h2.grow hg⟩
theorem RowAt.at3r {w : World} {a : Option Addr} {cap : Nat} {rs : List Rs} (h : RowAt Rs.enc 3 w a cap rs) {i : Nat} {r : Rs} (hi : rs[i]? = some r) :
    ∃ b off, a = some ⟨b, off, none⟩ ∧ w.cell? ⟨b, off + i * 3, none⟩ = some (.int .i64 r.clock) ∧ w.cell? ⟨b, off + i * 3 + 1, none⟩ = some (.slice r.aW r.nW r.cW) ∧ w.cell? ⟨b, off + i * 3 + 2, none⟩ = some (.slice r.aD r.nD r.cD) := by
  obtain ⟨b, off, ha, hc⟩ := RowAt.at h hi
  exact ⟨b, off, ha, hc 0 _ rfl, hc 1 _ rfl, hc 2 _ rfl⟩

/-- skeen.checkAll -/
def allErr (ss : List Sv) (colors : Int) : Int := if ss.length ≠ 3 then 1 else if firstErr (fun i => match ss[i]? with | some s => s.err | none => 0) 3 ≠ 0 then firstErr (fun i => match ss[i]? with | some s => s.err | none => 0) 3 else if colors < 1 ∨ 7 < colors then 3 else 0
set_option maxHeartbeats 4000000 in
theorem checkAll_any (ss : List Sv) (colors : Int) (a : Option Addr) (cap : Nat) (w : World) (hs : SvsAt w a cap ss) :
    Calls Try.prog 52 #[.slice a ss.length cap, .int .i64 colors] w fun e w' => e = .returned (.int .i64 (allErr ss colors)) ∧ Grow w w' := by
  obtain ⟨rs, hrow, hlies⟩ := hs
  have HR := hid hrow
  have HL := hid hlies
  have hll := hlies.1
  have hl := hrow.1
  clear hrow hlies
  have HE : Hid (allErr ss colors = if ss.length ≠ 3 then 1 else if firstErr (fun i => match ss[i]? with | some s => s.err | none => 0) 3 ≠ 0 then firstErr (fun i => match ss[i]? with | some s => s.err | none => 0) 3 else if colors < 1 ∨ 7 < colors then 3 else 0) := rfl
  generalize allErr ss colors = er at *
  have HLL := hid hll
  by_cases h3 : ss.length = 3
  case neg =>
    have E : Hid (er = 1) := by show er = 1; rw [HE.out, if_pos h3]
    have h3' : ((ss.length : Int) == 3) = false := by simp; omega
    have h3'' : ((ss.length : Int) != 3) = true := by simp; omega
    clear h3 hll
    go_enter Try.func52, Try.ntmps52
    go_wp2
    go_ret
    exact ⟨by rw [E.out]; rfl, Grow.refl _⟩
  case pos =>
    have HE1 : Hid (er = if firstErr (fun i => match ss[i]? with | some s => s.err | none => 0) 3 ≠ 0 then firstErr (fun i => match ss[i]? with | some s => s.err | none => 0) 3 else if colors < 1 ∨ 7 < colors then 3 else 0) := by show er = _; rw [HE.out, if_neg (by simp [h3])]
    have H3 := hid h3
    rw [h3]
    clear HE h3 hll hl
    go_enter Try.func52, Try.ntmps52
    go_wp2_with fail
    go_loopw [13] (fun i wr => ∃ k : Nat, k ≤ 3 ∧ i = .int .i64 k ∧ (∀ j, j < k → (match ss[j]? with | some s => s.err | none => 0) = 0) ∧ Grow w wr) (fun i _ => 3 - (intOf i).toNat)
    case atStart => exact ⟨0, Nat.zero_le _, rfl, fun j hj => by omega, Grow.refl _⟩
    case round =>
      obtain ⟨k, hk, rfl, hz, hG⟩ := hrel
      have HZ := hid hz
      clear hz
      by_cases hlt : k < 3
      · have hks : k < ss.length := by have := H3.out; omega
        have hx : ss[k]? = some ss[k] := List.getElem?_eq_getElem hks
        have hr : rs[k]? = some (rs[k]'(by have := HLL.out; omega)) := List.getElem?_eq_getElem _
        generalize ss[k] = s at hx
        generalize rs[k]'(by have := HLL.out; omega) = r at hr
        have HX := hid hx
        have SA := hid ((HL.out.grow hG).2 k r s hr hx)
        obtain ⟨b, off, rfl, d0, d1, d2⟩ := (HR.out.grow hG).at3r hr
        clear hx hr hks
        have hlt' : (k : Int) < 3 := by omega
        go_wp2_with fail
        refine (scheck_any s _ _ (SA.out.grow ((Grow.refl _).alloc _))).mono ?_
        rintro e w2 ⟨rfl, g2⟩
        have G2 : Hid (Grow w w2) := hG.trans (((Grow.refl _).alloc _).trans g2)
        clear d0 d1 d2 g2 SA
        have hse : Hid (s.err = s.err) := rfl
        generalize hs : s.err = se at *
        have HS := hid hs
        clear hs hse
        by_cases h0 : se = 0
        case pos =>
          subst h0
          go_wp2
          go_roundw
          case rel =>
            refine ⟨k + 1, by omega, by go_num, fun j hj => ?_, G2.out⟩
            by_cases hjk : j = k
            · rw [hjk, HX.out]; exact HS.out
            · exact HZ.out j (by omega)
          case measure => simp [intOf]; omega
        case neg =>
          have hx0 : (se == 0) = false := by simpa using h0
          have hx1 : (se != 0) = true := by simpa using h0
          have E : Hid (er = se) := by
            have h4 : firstErr (fun i => match ss[i]? with | some s => s.err | none => 0) 3 = se := by
              rw [firstErr_at _ k HZ.out (by simp only [HX.out]; rw [HS.out]; exact h0) 3 hlt]
              simp only [HX.out]
              exact HS.out
            show er = se
            rw [HE1.out, h4, if_pos h0]
          clear h0
          go_wp2
          go_ret
          exact ⟨by rw [E.out]; rfl, G2.out⟩
      · obtain rfl : k = 3 := by omega
        have HE2 : Hid (er = if colors < 1 ∨ 7 < colors then 3 else 0) := by
          have h4 : firstErr (fun i => match ss[i]? with | some s => s.err | none => 0) 3 = 0 := firstErr_zero _ _ HZ.out
          show er = _
          rw [HE1.out, h4, if_neg (by simp)]
        clear HE1
        by_cases h1 : colors < 1
        · have h1' : decide (colors < 1) = true := by simpa using h1
          have E : Hid (er = 3) := by show er = 3; rw [HE2.out, if_pos (.inl h1)]
          go_wp2
          go_ret
          exact ⟨by rw [E.out]; rfl, hG⟩
        have h1' : decide (colors < 1) = false := by simpa using h1
        by_cases h2 : 7 < colors
        · have h2' : decide (7 < colors) = true := by simpa using h2
          have E : Hid (er = 3) := by show er = 3; rw [HE2.out, if_pos (.inr h2)]
          go_wp2
          go_ret
          exact ⟨by rw [E.out]; rfl, hG⟩
        have h2' : decide (7 < colors) = false := by simpa using h2
        have E : Hid (er = 0) := by show er = 0; rw [HE2.out, if_neg (by omega)]
        go_wp2
        go_ret
        exact ⟨by rw [E.out]; rfl, hG⟩
end Go.Proofs.Ytlpdoloolagcbab
