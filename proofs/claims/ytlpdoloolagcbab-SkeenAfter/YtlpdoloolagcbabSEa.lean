/- Who keeps a server: commit. -/
import Derived.Test.YtlpdoloolagcbabSC
namespace Go.Proofs.Ytlpdoloolagcbab
open Go.RowKit

theorem flat_set3 : ∀ (ws : List Wt) (i : Nat) (x : Wt), (((flat Wt.enc ws).set (i * 3) (.int .i64 x.number)).set (i * 3 + 1) (.int .i64 x.time)).set (i * 3 + 2) (.bool x.final) = flat Wt.enc (ws.set i x)
  | [], i, x => by simp [flat]
  | c :: cs, 0, x => rfl
  | c :: cs, i + 1, x => by
    have e : ∀ (d : Wt) ds, flat Wt.enc (d :: ds) = .int .i64 d.number :: .int .i64 d.time :: .bool d.final :: flat Wt.enc ds := fun _ _ => rfl
    rw [List.set_cons_succ, e, e, ← flat_set3 cs i x, show (i + 1) * 3 = i * 3 + 1 + 1 + 1 from by omega]
    rfl
/-- A wait is another one. -/
theorem KeepAt.write {base bk : Nat} {w : World} {c : Int} {ws : List Wt} {ds : List Int} {aD : Option Addr} {g cap cD : Nat} (hk : w.heap[bk]? = some (Obj.cells #[.int .i64 c, .slice (some ⟨g, 0, none⟩) ws.length cap, .slice aD ds.length cD] 90 (0, 0))) (hb : base ≤ bk)
    (hW : w.ownsRow base 64 3 (.slice (some ⟨g, 0, none⟩) ws.length cap) ws.length (flat Wt.enc ws)) (hD : w.ownsRow base 3 1 (.slice aD ds.length cD) ds.length (flat encZ ds)) (h1 : g ≠ bk) (h2 : ∀ x, aD = some x → x.block ≠ bk) (h3 : ∀ y, aD = some y → g ≠ y.block) (i : Nat) (x : Wt) :
    KeepAt base bk (((w.setCell ⟨g, i * 3, none⟩ (.int .i64 x.number)).setCell ⟨g, i * 3 + 1, none⟩ (.int .i64 x.time)).setCell ⟨g, i * 3 + 2, none⟩ (.bool x.final)) ⟨c, ws.set i x, ds⟩ := by
  obtain ⟨o1, _⟩ := hW.stored (i * 3) (.int .i64 x.number)
  obtain ⟨o2, _⟩ := o1.stored (i * 3 + 1) (.int .i64 x.time)
  obtain ⟨o3, _⟩ := o2.stored (i * 3 + 2) (.bool x.final)
  rw [flat_set3] at o3
  have hdn : (Value.slice aD ds.length cD).ownBlock ≠ some g := by
    cases aD with
    | none => intro e; cases e
    | some y => intro e; exact h3 y rfl (Option.some.inj e).symm
  refine ⟨some ⟨g, 0, none⟩, cap, aD, cD, ?_, hb, ⟨?_, ?_, ?_⟩, fun y hy => by cases hy; exact h1, h2⟩
  · simp only [List.length_set]
    exact block_far (a := ⟨g, i * 3 + 2, none⟩) (Ne.symm h1) (block_far (a := ⟨g, i * 3 + 1, none⟩) (Ne.symm h1) (block_far (a := ⟨g, i * 3, none⟩) (Ne.symm h1) hk))
  · simp only [List.length_set]
    exact o3
  · exact ownsRow_set (ownsRow_set (ownsRow_set hD (p := ⟨g, i * 3, none⟩) hdn _) (p := ⟨g, i * 3 + 1, none⟩) hdn _) (p := ⟨g, i * 3 + 2, none⟩) hdn _
  · intro y z hy hz
    cases hy
    exact h3 z hz
/-- What a server is behind Commit, and what is wrong. -/
def commSv (s : Sv) (n t : Int) (i : Nat) : Sv := ⟨max s.clock t, (settle s.waits.length (s.waits.set i ⟨n, t, true⟩) s.done).1, (settle s.waits.length (s.waits.set i ⟨n, t, true⟩) s.done).2⟩
def commErr (s : Sv) (n t : Int) : Int := if isNum n = false ∨ t < 1 ∨ 999 < t then 3 else match findAt s.waits n with
  | none => 5
  | some i => match s.waits[i]? with
    | none => 5
    | some x => if x.final = true ∨ t < x.time then 4 else if 30 < (commSv s n t i).done.length then 2 else 0
theorem commErr_zero {s : Sv} {n t : Int} (h : commErr s n t = 0) : isNum n = true ∧ 1 ≤ t ∧ t ≤ 999 ∧ ∃ i x, findAt s.waits n = some i ∧ s.waits[i]? = some x ∧ x.number = n ∧ x.final = false ∧ x.time ≤ t ∧ (commSv s n t i).done.length ≤ 30 := by
  unfold commErr at h
  split at h
  · cases h
  rename_i h1
  have h2 : isNum n = true := by
    cases hn : isNum n
    · exact absurd (.inl hn) h1
    · rfl
  refine ⟨h2, by omega, by omega, ?_⟩
  cases hf : findAt s.waits n with
  | none => rw [hf] at h; cases h
  | some i =>
    rw [hf] at h
    simp only at h
    obtain ⟨x, hx, hxn⟩ := findAt_is hf
    rw [hx] at h
    simp only at h
    split at h
    · cases h
    rename_i h3
    split at h
    · cases h
    rename_i h4
    exact ⟨i, x, rfl, hx, hxn, by cases hxf : x.final; rfl; exact absurd (.inl hxf) h3, by omega, by omega⟩
end Go.Proofs.Ytlpdoloolagcbab
