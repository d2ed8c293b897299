/- Who keeps a server: await, propose. -/
import Derived.Test.YtlpdoloolagcbabS7
namespace Go.Proofs.Ytlpdoloolagcbab
open Go.RowKit

/-- Who keeps a server, in memory: its lists are its own. -/
def KeepAt (base bk : Nat) (w : World) (s : Sv) : Prop :=
  ∃ aW cW aD cD, w.heap[bk]? = some (Obj.cells #[.int .i64 s.clock, .slice aW s.waits.length cW, .slice aD s.done.length cD] 90 (0, 0)) ∧ base ≤ bk ∧ OwnSv base w s aW cW aD cD ∧ (∀ x, aW = some x → x.block ≠ bk) ∧ (∀ x, aD = some x → x.block ≠ bk)
theorem own_grown {w w' : World} {base : Nat} {e : TypeId} {size : Nat} {v : Value} {n : Nat} {xs : List Value} {row : Option Nat} (h : w.ownsRow base e size v n xs) (hg : w.grownBy w' row) (hn : ∀ g, v.ownBlock = some g → row ≠ some g) : w'.ownsRow base e size v n xs :=
  h.kept hg (by
    cases hv : v.ownBlock with
    | none => exact .inl rfl
    | some g => exact .inr fun e => hn g hv e.symm)
theorem KeepAt.grow {base bk : Nat} {w w' : World} {s : Sv} (h : KeepAt base bk w s) (hg : Grow w w') : KeepAt base bk w' s := by
  obtain ⟨aW, cW, aD, cD, h1, h2, h3, h4, h5⟩ := h
  exact ⟨aW, cW, aD, cD, grow_block hg h1, h2, ⟨ownsRow_grow h3.1 hg, ownsRow_grow h3.2.1 hg, h3.2.2⟩, h4, h5⟩
/-- Where a wait is put in. -/
def insAt : List Wt → Int → Nat
  | [], _ => 0
  | d :: ds, n => if d.number < n then insAt ds n + 1 else 0
theorem insAt_is : ∀ (ws : List Wt) (n : Int) (k : Nat), (∀ j, j < k → ∀ d, ws[j]? = some d → d.number < n) → k ≤ ws.length → (∀ d, ws[k]? = some d → ¬ d.number < n) → insAt ws n = k
  | [], n, k, _, hk, _ => by simp at hk; simp [insAt, hk]
  | d :: ds, n, 0, _, _, h => by rw [insAt, if_neg (h d rfl)]
  | d :: ds, n, k + 1, h1, hk, h2 => by
    rw [insAt, if_pos (h1 0 (by omega) d rfl), insAt_is ds n k (fun j hj e he => h1 (j + 1) (by omega) e (by simpa using he)) (by simpa using hk) (fun e he => h2 e (by simpa using he))]
theorem insAt_le : ∀ (ws : List Wt) (n : Int), insAt ws n ≤ ws.length
  | [], _ => Nat.le_refl _
  | d :: ds, n => by
    have := insAt_le ds n
    rw [insAt]
    split <;> simp <;> omega
def insertW (ws : List Wt) (x : Wt) : List Wt := ws.take (insAt ws x.number) ++ x :: ws.drop (insAt ws x.number)
theorem insertW_length (ws : List Wt) (x : Wt) : (insertW ws x).length = ws.length + 1 := by
  have := insAt_le ws x.number
  simp [insertW]
  omega
theorem flat_insert (ws : List Wt) (x : Wt) {k : Nat} (h : insAt ws x.number = k) : (flat Wt.enc ws).take (k * 3) ++ x.enc ++ (flat Wt.enc ws).drop (k * 3) = flat Wt.enc (insertW ws x) := by
  rw [flat_take Wt.enc3, flat_drop Wt.enc3, insertW, h, flat_append, flat_cons, List.append_assoc]
/-- The list of who waits is another one. -/
theorem KeepAt.put {base bk : Nat} {W w2 : World} {s : Sv} {x : Wt} {o : Obj} {aW aD : Option Addr} {cW cD k g' cap' : Nat} (hk : W.heap[bk]? = some (Obj.cells #[.int .i64 s.clock, .slice aW s.waits.length cW, .slice aD s.done.length cD] 90 (0, 0))) (hb : base ≤ bk)
    (hD : W.ownsRow base 3 1 (.slice aD s.done.length cD) s.done.length (flat encZ s.done)) (h1 : ∀ x, aW = some x → x.block ≠ bk) (h2 : ∀ x, aD = some x → x.block ≠ bk) (h3 : ∀ x y, aW = some x → aD = some y → x.block ≠ y.block) (hi : insAt s.waits x.number = k)
    (gr : (W.alloc o).grownBy w2 (Value.slice aW s.waits.length cW).ownBlock) (own : w2.ownsRow base 64 3 (.slice (some ⟨g', 0, none⟩) (s.waits.length + 1) cap') (s.waits.length + 1) ((flat Wt.enc s.waits).take (k * 3) ++ x.enc ++ (flat Wt.enc s.waits).drop (k * 3))) (hat : (Value.slice aW s.waits.length cW).ownBlock = some g' ∨ (W.alloc o).heap.size ≤ g') :
    KeepAt base bk (w2.setCell ⟨bk, 1, none⟩ (.slice (some ⟨g', 0, none⟩) (s.waits.length + 1) cap')) ⟨s.clock, insertW s.waits x, s.done⟩ := by
  have hlt := lt_of_block hk
  have hbk : some bk ≠ (Value.slice aW s.waits.length cW).ownBlock := by
    cases aW with
    | none => intro e; cases e
    | some y => intro e; exact h1 y rfl (Option.some.inj e).symm
  have kz := (gr.block bk (by simp; omega) hbk).trans ((Below.heap_alloc _ _ _ hlt).trans hk)
  have gbk : g' ≠ bk := by
    rcases hat with e | e
    · intro h; rw [h] at e; exact hbk e.symm
    · simp at e; omega
  have oD : w2.ownsRow base 3 1 (.slice aD s.done.length cD) s.done.length (flat encZ s.done) := own_grown (hD.alloc o) gr (fun g hg e => by
    cases aW with
    | none => cases e
    | some y =>
      cases aD with
      | none => cases hg
      | some z => exact h3 y z rfl rfl ((Option.some.inj e).trans (Option.some.inj hg).symm))
  rw [flat_insert s.waits x hi, ← insertW_length s.waits x] at own
  refine ⟨some ⟨g', 0, none⟩, cap', aD, cD, ?_, hb, ⟨?_, ?_, ?_⟩, fun y hy => by cases hy; exact gbk, h2⟩
  · have := block_set (o := 1) (v := Value.slice (some ⟨g', 0, none⟩) (s.waits.length + 1) cap') kz
    rw [this, insertW_length]
    rfl
  · exact ownsRow_set own (p := ⟨bk, 1, none⟩) (fun e => gbk (Option.some.inj e)) _
  · exact ownsRow_set oD (p := ⟨bk, 1, none⟩) (fun e => by
      cases aD with
      | none => cases e
      | some z => exact h2 z rfl (Option.some.inj e)) _
  · intro y z hy hz e
    cases hy
    subst hz
    simp only at e
    rcases hat with h | h
    · cases aW with
      | none => cases h
      | some u => exact h3 u z rfl rfl ((Option.some.inj h).trans e)
    · have := hD.lt z.block rfl
      simp at h
      omega
end Go.Proofs.Ytlpdoloolagcbab
