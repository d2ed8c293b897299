/- Who keeps a server: propose; skeen.Propose. -/
import Derived.Test.YtlpdoloolagcbabS9
namespace Go.Proofs.Ytlpdoloolagcbab
open Go.RowKit

theorem RowAt.far {α : Type} {enc : α → List Value} {k : Nat} {w : World} {a : Option Addr} {cap : Nat} {xs : List α} (h : RowAt enc k w a cap xs) {p : Addr} (hp : ∀ x, a = some x → p.block ≠ x.block) (v : Value) : RowAt enc k (w.setCell p v) a cap xs := by
  refine ⟨h.1, h.2.1, h.2.2.imp id ?_⟩
  rintro ⟨b, off, rfl, hc⟩
  have hn : b ≠ p.block := fun e => hp _ rfl e.symm
  exact ⟨b, off, rfl, fun i x hi r u hu => (World.cell?_of_block (w := w) (Below.heap_setCell _ _ _ _ hn)).trans (hc i x hi r u hu)⟩
theorem KeepAt.lt {base bk : Nat} {w : World} {s : Sv} (h : KeepAt base bk w s) : bk < w.heap.size := by
  obtain ⟨_, _, _, _, h1, _⟩ := h
  exact lt_of_block h1
theorem KeepAt.tick {base bk : Nat} {w : World} {s : Sv} (h : KeepAt base bk w s) (c : Int) : KeepAt base bk (w.setCell ⟨bk, 0, none⟩ (.int .i64 c)) ⟨c, s.waits, s.done⟩ := by
  obtain ⟨aW, cW, aD, cD, h1, h2, ⟨h3, h4, h5⟩, h6, h7⟩ := h
  refine ⟨aW, cW, aD, cD, ?_, h2, ⟨ownsRow_set h3 (p := ⟨bk, 0, none⟩) (fun e => ?_) _, ownsRow_set h4 (p := ⟨bk, 0, none⟩) (fun e => ?_) _, h5⟩, h6, h7⟩
  · have := block_set (o := 0) (v := Value.int .i64 c) h1
    rw [this]
    rfl
  · cases aW with
    | none => cases e
    | some y => exact h6 y rfl (Option.some.inj e)
  · cases aD with
    | none => cases e
    | some y => exact h7 y rfl (Option.some.inj e)
/-- What is wrong with an entry that is proposed to a server that is right. -/
def propErr (s : Sv) (n : Int) : Int := if isNum n = false then 3 else if (findAt s.waits n).isSome = true ∨ n ∈ s.done then 6 else if s.waits.length = 8 ∨ s.clock = 999 then 2 else 0
def propSv (s : Sv) (n : Int) : Sv := ⟨s.clock + 1, insertW s.waits ⟨n, s.clock + 1, false⟩, s.done⟩
set_option maxHeartbeats 4000000 in
theorem kpropose_any (base bk : Nat) (s : Sv) (n : Int) (w : World) (hK : KeepAt base bk w s) (hl : s.waits.length ≤ 8) (hl2 : s.done.length ≤ 30) (hc : 0 ≤ s.clock ∧ s.clock ≤ 999) :
    Calls Try.prog 50 #[.pointer (some ⟨bk, 0, none⟩), .int .i64 n] w fun e w' => e = .returned (.int .i64 (propErr s n)) ∧ Below base w w' ∧ (propErr s n = 0 → KeepAt base bk w' (propSv s n)) := by
  have HK := hid hK
  have hlt := hK.lt
  obtain ⟨aW, cW, aD, cD, k0, hbase, own, _, _⟩ := hK
  obtain ⟨hw, hd⟩ := own.at (by omega) (by omega)
  obtain ⟨clock, ws, ds⟩ := s
  simp only at k0 hl hl2 hc hw hd ⊢
  have HW := hid hw
  have HD := hid hd
  have K0 := hid k0
  clear hw hd own k0
  have HE : Hid (propErr ⟨clock, ws, ds⟩ n = if isNum n = false then 3 else if (findAt ws n).isSome = true ∨ n ∈ ds then 6 else if ws.length = 8 ∨ clock = 999 then 2 else 0) := rfl
  have HS : Hid (propSv ⟨clock, ws, ds⟩ n = ⟨clock + 1, insertW ws ⟨n, clock + 1, false⟩, ds⟩) := rfl
  generalize propErr ⟨clock, ws, ds⟩ n = er at *
  generalize propSv ⟨clock, ws, ds⟩ n = sv at *
  have e0 := cell_of_block (o := 0) K0.out rfl; simp at e0
  have e1 := cell_of_block (o := 1) K0.out rfl; simp at e1
  have e2 := cell_of_block (o := 2) K0.out rfl; simp at e2
  cases hn : isNum n
  · have E : Hid (er = 3) := by show er = 3; rw [HE.out, if_pos hn]
    go_enter Try.func50, Try.ntmps50
    go_wp2_with (go_at_call 70; refine (isNumber_any _ _).mono ?_; rw [hn]; rintro e w1 ⟨rfl, rfl⟩)
    go_ret
    exact ⟨by rw [E.out]; rfl, Below.refl _ _, fun h => by rw [E.out] at h; cases h⟩
  have HE1 : Hid (er = if (findAt ws n).isSome = true ∨ n ∈ ds then 6 else if ws.length = 8 ∨ clock = 999 then 2 else 0) := by show er = _; rw [HE.out, if_neg (by rw [hn]; decide)]
  clear HE
  go_enter Try.func50, Try.ntmps50
  go_wp2_with (first | (go_at_call 70; refine (isNumber_any _ _).mono ?_; rw [hn]; rintro e w ⟨rfl, rfl⟩) | fail)
  refine (find_any ws n aW cW _ HW.out).mono ?_
  rintro e w1 ⟨rfl, g1⟩
  have HO := hid (optInt_nonneg (findAt ws n))
  have k1 := grow_block g1 K0.out
  have hB1 : Hid (Below base w w1) := Below.mono g1 (by omega)
  clear e0 e1 e2
  have e0 := cell_of_block (o := 0) k1 rfl; simp at e0
  have e1 := cell_of_block (o := 1) k1 rfl; simp at e1
  have e2 := cell_of_block (o := 2) k1 rfl; simp at e2
  have f0 := free_of_block k1 0
  have HK1 := hid (HK.out.grow g1)
  have HD1 := hid (HD.out.grow g1)
  have hlt1 : bk < w1.heap.size := HK1.out.lt
  clear k1 HK
  generalize optInt (findAt ws n) = o at *
  cases hf : (findAt ws n).isSome
  case true =>
    have ho : decide (0 ≤ o) = true := by rw [HO.out, hf]
    have E : Hid (er = 6) := by show er = 6; rw [HE1.out, if_pos (.inl hf)]
    clear hf HO
    go_wp2
    go_ret
    exact ⟨by rw [E.out]; rfl, hB1.out, fun h => by rw [E.out] at h; cases h⟩
  case false =>
    have ho : decide (0 ≤ o) = false := by rw [HO.out, hf]
    have HF := hid hf
    clear hf HO
    go_wp2_with fail
    refine (contains_any ds n aD cD _ HD1.out).mono ?_
    rintro e w2 ⟨rfl, rfl⟩
    by_cases hm : n ∈ ds
    · have hm' : decide (n ∈ ds) = true := by simpa using hm
      rw [hm']
      have E : Hid (er = 6) := by show er = 6; rw [HE1.out, if_pos (.inr hm)]
      clear hm hm'
      go_wp2
      go_ret
      exact ⟨by rw [E.out]; rfl, hB1.out, fun h => by rw [E.out] at h; cases h⟩
    have hm' : decide (n ∈ ds) = false := by simpa using hm
    rw [hm']
    have HE2 : Hid (er = if ws.length = 8 ∨ clock = 999 then 2 else 0) := by
      show er = _
      rw [HE1.out, if_neg]
      rintro (h | h)
      · rw [HF.out] at h; cases h
      · exact hm h
    clear hm hm' HE1
    by_cases h8 : ws.length = 8
    · have E : Hid (er = 2) := by show er = 2; rw [HE2.out, if_pos (.inl h8)]
      have h8' : ((ws.length : Int) == 8) = true := by simp [h8]
      have h8n : (ws.length : Int) = 8 := by omega
      clear h8
      go_wp2
      go_ret
      exact ⟨by rw [E.out]; rfl, hB1.out, fun h => by rw [E.out] at h; cases h⟩
    have h8' : ((ws.length : Int) == 8) = false := by simp; omega
    by_cases h9 : clock = 999
    · have E : Hid (er = 2) := by show er = 2; rw [HE2.out, if_pos (.inr h9)]
      subst h9
      go_wp2
      go_ret
      exact ⟨by rw [E.out]; rfl, hB1.out, fun h => by rw [E.out] at h; cases h⟩
    have h9' : (clock == 999) = false := by simpa using h9
    have E : Hid (er = 0) := by show er = 0; rw [HE2.out, if_neg (by omega)]
    clear h8 h9 HE2
    have hw6 : IntKind.i64.wrap (clock + 1) = clock + 1 := by rw [IntKind.wrap_i64]; omega
    have hw7 : wrap64 (clock + 1) = clock + 1 := by unfold wrap64; omega
    go_wp2_with fail
    refine (await_any base bk ⟨clock + 1, ws, ds⟩ ⟨n, clock + 1, false⟩ _ (HK1.out.tick (clock + 1)) hl).mono ?_
    rintro e w3 ⟨rfl, K3, B3⟩
    go_wp2
    go_ret
    exact ⟨by rw [E.out]; rfl, ((hB1.out.setCell (p := ⟨bk, 0, none⟩) (by simpa using hbase) _).trans B3), fun _ => by rw [HS.out]; exact K3⟩
end Go.Proofs.Ytlpdoloolagcbab
