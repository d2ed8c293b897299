/- Package vector: the check of vectors: what it answers, whatever it is handed. -/
import Derived.Test.YtoimoehdnmcmkabP
namespace Go.Proofs.Ytoimoehdnmcmkab
open Go.RowKit

/-- A vector. -/
structure Vc where
  a : Int
  b : Int
def Vc.val (v : Vc) : Value := .agg #[.int .i64 v.a, .int .i64 v.b]
def ok20 (x : Int) : Bool := decide (0 ≤ x) && decide (x ≤ 20)
def Vc.ok (v : Vc) : Bool := ok20 v.a && ok20 v.b
def vecsErr (vs : List Vc) : Int := if vs.all Vc.ok then 0 else 3
/-- Vectors that lie in memory. -/
def VecsAt (w : World) (b : Nat) (vs : List Vc) : Prop := ∀ k v, vs[k]? = some v → w.cell? ⟨b, k * 2, none⟩ = some (.int .i64 v.a) ∧ w.cell? ⟨b, k * 2 + 1, none⟩ = some (.int .i64 v.b)
theorem VecsAt.grow {w w' : World} {b : Nat} {vs : List Vc} (h : VecsAt w b vs) (hg : Grow w w') : VecsAt w' b vs := fun k v hk => ⟨cell_grow hg (h k v hk).1, cell_grow hg (h k v hk).2⟩
theorem vecsErr_bad {vs : List Vc} {k : Nat} {v : Vc} (hk : vs[k]? = some v) (h : v.ok = false) : vecsErr vs = 3 := by
  unfold vecsErr
  rw [if_neg]
  intro hall
  have := List.all_eq_true.1 hall v (List.mem_of_getElem? hk)
  rw [h] at this
  cases this
theorem vecsErr_ok {vs : List Vc} (h : ∀ (k : Nat) (v : Vc), vs[k]? = some v → v.ok = true) : vecsErr vs = 0 := by
  unfold vecsErr
  rw [if_pos]
  refine List.all_eq_true.2 fun v hv => ?_
  obtain ⟨k, hk⟩ := List.mem_iff_getElem?.1 hv
  exact h k v hk

set_option maxHeartbeats 2000000 in
theorem vcheck_any (vs : List Vc) (b cap : Nat) (w : World) (hv : VecsAt w b vs) (hl : vs.length ≤ 2) :
    Calls Try.prog 65 #[.slice (some ⟨b, 0, none⟩) vs.length cap] w fun e w' => e = .returned (.int .i64 (vecsErr vs)) ∧ Grow w w' := by
  have HV : Hid (VecsAt w b vs) := hv
  clear hv
  go_enter Try.func65, Try.ntmps65
  go_wp2
  go_loopw [9] (fun i wr => ∃ k : Nat, k ≤ vs.length ∧ i = .int .i64 k ∧ (∀ j, j < k → ∀ d, vs[j]? = some d → d.ok = true) ∧ Grow w wr) (fun i _ => vs.length - (intOf i).toNat)
  case atStart => exact ⟨0, Nat.zero_le _, rfl, fun j hj => by omega, Grow.refl _⟩
  case round =>
    obtain ⟨k, hk, rfl, hz, hg⟩ := hrel
    have HZ : Hid (∀ j, j < k → ∀ d, vs[j]? = some d → d.ok = true) := hz
    clear hz
    by_cases hlt : k < vs.length
    · have hck : vs[k]? = some vs[k] := List.getElem?_eq_getElem hlt
      generalize vs[k] = v at hck
      have HK : Hid (vs[k]? = some v) := hck
      obtain ⟨d0, d1⟩ := (HV.out.grow hg) k v hck
      have hlt' : (k : Int) < (vs.length : Int) := by omega
      clear hck
      go_wp2
      go_loop [14] (fun i => ∃ j : Nat, j ≤ 2 ∧ i = .int .i64 j ∧ (1 ≤ j → ok20 v.a = true) ∧ (2 ≤ j → ok20 v.b = true)) (fun i => 2 - (intOf i).toNat)
      case atStart => exact ⟨0, by omega, rfl, fun h => by omega, fun h => by omega⟩
      case round =>
        obtain ⟨j, hj, rfl, ha, hb⟩ := hrel
        have G := hg.alloc (Obj.cells #[.int .i64 v.a, .int .i64 v.b] 67)
        have hA : Hid (1 ≤ j → ok20 v.a = true) := ha
        have hB : Hid (2 ≤ j → ok20 v.b = true) := hb
        clear ha hb
        have hX : ∀ x : Int, (x < 0 ∨ 20 < x) → ok20 x = false := fun x h => by simp [ok20]; omega
        have HX : Hid (∀ x : Int, (x < 0 ∨ 20 < x) → ok20 x = false) := hX
        have hY : Hid (∀ x : Int, ¬ x < 0 → ¬ 20 < x → ok20 x = true) := show ∀ x : Int, ¬ x < 0 → ¬ 20 < x → ok20 x = true from fun x h1 h2 => by simp [ok20]; omega
        clear hX
        have i0 : ∀ w, (Instr.index 67 (.agg #[.int .i64 v.a, .int .i64 v.b]) (.int .i64 0)).run Try.prog w = .ok (.int .i64 v.a) w := fun _ => by kernel_rfl
        have i1 : ∀ w, (Instr.index 67 (.agg #[.int .i64 v.a, .int .i64 v.b]) (.int .i64 1)).run Try.prog w = .ok (.int .i64 v.b) w := fun _ => by kernel_rfl
        match j, hj with
        | 0, _ =>
          by_cases h1 : v.a < 0
          · have h1' : decide (v.a < 0) = true := by simpa using h1
            go_wp2
            go_ret
            exact ⟨by rw [vecsErr_bad HK.out (by rw [Vc.ok, HX.out _ (.inl h1)]; rfl)]; rfl, G⟩
          · have h1' : decide (v.a < 0) = false := by simpa using h1
            by_cases h2 : 20 < v.a
            · have h2' : decide (20 < v.a) = true := by simpa using h2
              go_wp2
              go_ret
              exact ⟨by rw [vecsErr_bad HK.out (by rw [Vc.ok, HX.out _ (.inr h2)]; rfl)]; rfl, G⟩
            · have h2' : decide (20 < v.a) = false := by simpa using h2
              go_wp2
              go_round
              case rel => exact ⟨1, by omega, rfl, fun _ => hY.out _ h1 h2, fun h => by omega⟩
              case measure => simp [intOf]
        | 1, _ =>
          by_cases h1 : v.b < 0
          · have h1' : decide (v.b < 0) = true := by simpa using h1
            go_wp2
            go_ret
            exact ⟨by rw [vecsErr_bad HK.out (by rw [Vc.ok, HX.out _ (.inl h1), Bool.and_false])]; rfl, G⟩
          · have h1' : decide (v.b < 0) = false := by simpa using h1
            by_cases h2 : 20 < v.b
            · have h2' : decide (20 < v.b) = true := by simpa using h2
              go_wp2
              go_ret
              exact ⟨by rw [vecsErr_bad HK.out (by rw [Vc.ok, HX.out _ (.inr h2), Bool.and_false])]; rfl, G⟩
            · have h2' : decide (20 < v.b) = false := by simpa using h2
              go_wp2
              go_round
              case rel => exact ⟨2, by omega, rfl, fun _ => hA.out (by omega), fun _ => hY.out _ h1 h2⟩
              case measure => simp [intOf]
        | 2, _ =>
          go_wp2
          go_roundw
          case rel =>
            refine ⟨k + 1, by omega, by go_num, fun j hj d hd => ?_, G⟩
            by_cases hjk : j = k
            · subst hjk
              rw [HK.out] at hd
              cases hd
              rw [Vc.ok, hA.out (by omega), hB.out (by omega)]
              rfl
            · exact HZ.out j (by omega) d hd
          case measure => simp [intOf]; omega
    · have hkl : k = vs.length := by omega
      subst hkl
      go_wp2
      go_ret
      exact ⟨by rw [vecsErr_ok fun j d hd => HZ.out j (List.getElem?_eq_some_iff.1 hd).1 d hd]; rfl, hg⟩
end Go.Proofs.Ytoimoehdnmcmkab
