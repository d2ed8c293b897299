/- Who keeps a server: settle. -/
import Derived.Test.YtlpdoloolagcbabSB
namespace Go.Proofs.Ytlpdoloolagcbab
open Go.RowKit

/-- One more is done. -/
theorem KeepAt.add {base bk : Nat} {W w3 : World} {s : Sv} {x : Int} {o : Obj} {aW aD : Option Addr} {cW cD g' cap' : Nat} (hk : W.heap[bk]? = some (Obj.cells #[.int .i64 s.clock, .slice aW s.waits.length cW, .slice aD s.done.length cD] 90 (0, 0)))
    (hW : W.ownsRow base 64 3 (.slice aW s.waits.length cW) s.waits.length (flat Wt.enc s.waits)) (h1 : ∀ x, aW = some x → x.block ≠ bk) (h2 : ∀ x, aD = some x → x.block ≠ bk) (h3 : ∀ x y, aW = some x → aD = some y → x.block ≠ y.block)
    (gr : (W.alloc o).grownBy w3 (Value.slice aD s.done.length cD).ownBlock) (own : w3.ownsRow base 3 1 (.slice (some ⟨g', 0, none⟩) (s.done.length + 1) cap') (s.done.length + 1) (flat encZ s.done ++ [.int .i64 x])) (hat : (Value.slice aD s.done.length cD).ownBlock = some g' ∨ g' = (W.alloc o).heap.size) :
    (w3.setCell ⟨bk, 2, none⟩ (.slice (some ⟨g', 0, none⟩) (s.done.length + 1) cap')).heap[bk]? = some (Obj.cells #[.int .i64 s.clock, .slice aW s.waits.length cW, .slice (some ⟨g', 0, none⟩) (s.done.length + 1) cap'] 90 (0, 0)) ∧
    (w3.setCell ⟨bk, 2, none⟩ (.slice (some ⟨g', 0, none⟩) (s.done.length + 1) cap')).ownsRow base 64 3 (.slice aW s.waits.length cW) s.waits.length (flat Wt.enc s.waits) ∧
    (w3.setCell ⟨bk, 2, none⟩ (.slice (some ⟨g', 0, none⟩) (s.done.length + 1) cap')).ownsRow base 3 1 (.slice (some ⟨g', 0, none⟩) (s.done ++ [x]).length cap') (s.done ++ [x]).length (flat encZ (s.done ++ [x])) ∧ g' ≠ bk ∧ (∀ y, aW = some y → y.block ≠ g') := by
  have hlt := lt_of_block hk
  have hbk : some bk ≠ (Value.slice aD s.done.length cD).ownBlock := by
    cases aD with
    | none => intro e; cases e
    | some y => intro e; exact h2 y rfl (Option.some.inj e).symm
  have kz := (gr.block bk (by simp; omega) hbk).trans ((Below.heap_alloc _ _ _ hlt).trans hk)
  have gbk : g' ≠ bk := by
    rcases hat with e | e
    · intro h; rw [h] at e; exact hbk e.symm
    · simp at e; omega
  have oW : w3.ownsRow base 64 3 (.slice aW s.waits.length cW) s.waits.length (flat Wt.enc s.waits) := own_grown (hW.alloc o) gr (fun g hg e => by
    cases aD with
    | none => cases e
    | some y =>
      cases aW with
      | none => cases hg
      | some z => exact h3 z y rfl rfl ((Option.some.inj hg).trans (Option.some.inj e).symm))
  refine ⟨?_, ?_, ?_, gbk, ?_⟩
  · have := block_set (o := 2) (v := Value.slice (some ⟨g', 0, none⟩) (s.done.length + 1) cap') kz
    rw [this]
    rfl
  · exact ownsRow_set oW (p := ⟨bk, 2, none⟩) (fun e => by
      cases aW with
      | none => cases e
      | some z => exact h1 z rfl (Option.some.inj e)) _
  · rw [flat_append, show (s.done ++ [x]).length = s.done.length + 1 from by simp]
    exact ownsRow_set own (p := ⟨bk, 2, none⟩) (fun e => gbk (Option.some.inj e)) _
  · intro y hy e
    rcases hat with h | h
    · cases aD with
      | none => cases h
      | some u => exact h3 y u hy rfl (e.trans (Option.some.inj h).symm)
    · have := hW.lt y.block (by rw [hy]; rfl)
      simp at h
      omega
theorem flat_erase (ws : List Wt) (i : Nat) : (flat Wt.enc ws).take (i * 3) ++ (flat Wt.enc ws).drop (i * 3 + 3) = flat Wt.enc (ws.eraseIdx i) := by
  rw [show i * 3 + 3 = (i + 1) * 3 from by omega, flat_take Wt.enc3, flat_drop Wt.enc3, List.eraseIdx_eq_take_drop_succ, flat_append]
/-- One waits no more. -/
theorem KeepAt.cut {base bk : Nat} {W w2 : World} {c : Int} {ws : List Wt} {ds : List Int} {aD : Option Addr} {m g cap cD i : Nat} (hm : ws.length = m + 1) (hi : i ≤ m) (hk : W.heap[bk]? = some (Obj.cells #[.int .i64 c, .slice (some ⟨g, 0, none⟩) (m + 1) cap, .slice aD ds.length cD] 90 (0, 0))) (hb : base ≤ bk)
    (hD : W.ownsRow base 3 1 (.slice aD ds.length cD) ds.length (flat encZ ds)) (h1 : g ≠ bk) (h2 : ∀ x, aD = some x → x.block ≠ bk) (h3 : ∀ y, aD = some y → g ≠ y.block)
    (gr : W.grownBy w2 (some g)) (own : w2.ownsRow base 64 3 (.slice (some ⟨g, 0, none⟩) m cap) m ((flat Wt.enc ws).take (i * 3) ++ (flat Wt.enc ws).drop (i * 3 + 3))) :
    KeepAt base bk (w2.setCell ⟨bk, 1, none⟩ (.slice (some ⟨g, 0, none⟩) m cap)) ⟨c, ws.eraseIdx i, ds⟩ := by
  have hlt := lt_of_block hk
  have kz := (gr.block bk hlt (fun e => h1 (Option.some.inj e).symm)).trans hk
  have hl : (ws.eraseIdx i).length = m := by rw [List.length_eraseIdx]; split <;> omega
  have oD : w2.ownsRow base 3 1 (.slice aD ds.length cD) ds.length (flat encZ ds) := own_grown hD gr (fun g' hg e => by
    cases aD with
    | none => cases hg
    | some y => exact h3 y rfl ((Option.some.inj e).trans (Option.some.inj hg).symm))
  rw [flat_erase] at own
  refine ⟨some ⟨g, 0, none⟩, cap, aD, cD, ?_, hb, ⟨?_, ?_, ?_⟩, fun y hy => by cases hy; exact h1, h2⟩
  · have := block_set (o := 1) (v := Value.slice (some ⟨g, 0, none⟩) m cap) kz
    rw [this]
    simp only
    rw [hl]
    rfl
  · simp only
    rw [hl]
    exact ownsRow_set own (p := ⟨bk, 1, none⟩) (fun e => h1 (Option.some.inj e)) _
  · exact ownsRow_set oD (p := ⟨bk, 1, none⟩) (fun e => by
      cases aD with
      | none => cases e
      | some z => exact h2 z rfl (Option.some.inj e)) _
  · intro y z hy hz
    cases hy
    exact h3 z hz
/-- Those that are final are done, in order, till one is not. -/
def settle : Nat → List Wt → List Int → List Wt × List Int
  | 0, ws, ds => (ws, ds)
  | f + 1, ws, ds => match ws[firstAt ws]? with
    | some x => if x.final then settle f (ws.eraseIdx (firstAt ws)) (ds ++ [x.number]) else (ws, ds)
    | none => (ws, ds)
theorem settle_stop {ws : List Wt} (h : finalFirst ws = false) (ds : List Int) : ∀ f, settle f ws ds = (ws, ds)
  | 0 => rfl
  | f + 1 => by
    unfold finalFirst at h
    rw [settle]
    cases hx : ws[firstAt ws]? with
    | none => rfl
    | some x => rw [hx] at h; simp only at h; simp [h]
theorem settle_step {ws : List Wt} {x : Wt} (hx : ws[firstAt ws]? = some x) (hf : x.final = true) (ds : List Int) (f : Nat) : settle (f + 1) ws ds = settle f (ws.eraseIdx (firstAt ws)) (ds ++ [x.number]) := by
  rw [settle, hx]
  simp [hf]
theorem finalFirst_some {ws : List Wt} (h : finalFirst ws = true) : ∃ x, ws[firstAt ws]? = some x ∧ x.final = true := by
  unfold finalFirst at h
  cases hx : ws[firstAt ws]? with
  | none => rw [hx] at h; cases h
  | some x => rw [hx] at h; exact ⟨x, rfl, h⟩
end Go.Proofs.Ytlpdoloolagcbab
