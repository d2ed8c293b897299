/- chain.cellAt, copyOf, Read and Tail: what each answers. -/
import Derived.Test.YtikdncgjaomlcaaC2
namespace Go.Proofs.Ytikdncgjaomlcaa
open Go.RowKit

theorem Ch.fine {c : Ch} (h : c.err = 0) : (0 ≤ c.epoch ∧ c.epoch ≤ 99) ∧ (0 ≤ c.cut ∧ c.cut ≤ 30) ∧ (c.cells.length : Int) ≤ 30 - c.cut ∧ cellsErr c.cells = 0 ∧ lastEmpty c.cells = false := by
  unfold Ch.err at h
  split at h
  · cases h
  · rename_i h1
    split at h
    · cases h
    · rename_i h2
      split at h
      · rename_i h3; exact absurd h h3
      · rename_i h3
        split at h
        · cases h
        · rename_i h4
          have h5 : inTo c.cut 30 = true := by cases hx : inTo c.cut 30; exact absurd (.inr (.inr hx)) h1; rfl
          have h6 : 0 ≤ c.cut ∧ c.cut ≤ 30 := by simpa [inTo] using h5
          refine ⟨⟨?_, ?_⟩, h6, by omega, Decidable.not_not.1 h3, by simpa using h4⟩
          · exact Int.not_lt.1 fun h => h1 (.inl h)
          · exact Int.not_lt.1 fun h => h1 (.inr (.inl h))

/-- What stands at a place that is not cut off. -/
def Ch.at (c : Ch) (i : Nat) : Cl := (c.cells[i]?).getD zeroCl
theorem CellsAt.size {w : World} {a : Option Addr} {cap : Nat} {c : Ch} (h : CellsAt w a cap c.cells) (i : Nat) : (c.at i).text.size ≤ 9223372036854775807 := by
  unfold Ch.at
  cases hk : c.cells[i]? with
  | none => decide
  | some x =>
    obtain ⟨_, _, _, _, _, _, hs⟩ := h.at hk
    exact hs
set_option maxHeartbeats 2000000 in
theorem cellAt_any (c : Ch) (a : Option Addr) (cap : Nat) (i : Nat) (w : World) (hc : CellsAt w a cap c.cells) (hi : i ≤ 30) (hl : c.cells.length ≤ 30) (h0 : 0 ≤ c.cut ∧ c.cut ≤ 30) :
    Calls Try.prog 47 #[c.val a cap, .int .i64 (c.cut + i)] w fun e w' => e = .returned (c.at i).val ∧ Grow w w' := by
  obtain ⟨ep, se, cu, cs⟩ := c
  unfold Ch.val Ch.at
  simp only at hc hl h0 ⊢
  have HC : Hid (CellsAt w a cap cs) := hc
  clear hc
  have hsub : IntKind.i64.wrap (cu + (i : Int) - cu) = (i : Int) := by rw [IntKind.wrap_i64]; omega
  have hsub' : wrap64 (cu + (i : Int) - cu) = (i : Int) := by unfold wrap64; omega
  by_cases hlt : i < cs.length
  · have hck : cs[i]? = some cs[i] := List.getElem?_eq_getElem hlt
    generalize cs[i] = x at hck
    rw [hck, Option.getD_some]
    unfold Cl.val
    obtain ⟨b, off, rfl, d0, d1, d2, hs⟩ := (HC.out.grow (((Grow.refl w).alloc (Obj.cells #[.int .i64 ep, .bool se, .int .i64 cu, .slice a cs.length cap] 42)).alloc (Obj.cells #[.bool false, .bool false, .string ⟨#[]⟩] 54))).at hck
    have hlt' : (i : Int) < (cs.length : Int) := by omega
    clear hck
    go_enter Try.func47, Try.ntmps47
    go_wp2
    exact bodyPost_ret (v := .agg #[.bool x.there, .bool x.junk, .string x.text]) (by simp [results, Try.results47, go_sem]) rfl ⟨rfl, ((Grow.refl w).alloc _).alloc _⟩
  · have hck : cs[i]? = none := List.getElem?_eq_none (by omega)
    rw [hck, Option.getD_none]
    unfold Cl.val zeroCl
    have hlt' : (cs.length : Int) ≤ (i : Int) := by omega
    clear hck
    go_enter Try.func47, Try.ntmps47
    go_wp2
    exact bodyPost_ret (v := .agg #[.bool false, .bool false, .string ⟨#[]⟩]) (by simp [results, Try.results47, go_sem]) rfl ⟨rfl, ((Grow.refl w).alloc _).alloc _⟩

/-- Cells, one value behind another. -/
def vals (cs : List Cl) : List Value := cs.flatMap fun c => [.bool c.there, .bool c.junk, .string c.text]
theorem vals_length : ∀ cs : List Cl, (vals cs).length = cs.length * 3
  | [] => rfl
  | c :: cs => by
    have e : vals (c :: cs) = .bool c.there :: .bool c.junk :: .string c.text :: vals cs := rfl
    rw [e]
    simp [vals_length cs]
    omega
theorem vals_get : ∀ (cs : List Cl) (j : Nat), (vals cs)[j]? = match cs[j / 3]? with
    | some c => [Value.bool c.there, .bool c.junk, .string c.text][j % 3]?
    | none => none
  | [], j => by simp [vals]
  | c :: cs, 0 => rfl
  | c :: cs, 1 => rfl
  | c :: cs, 2 => rfl
  | c :: cs, j + 3 => by
    have e : vals (c :: cs) = .bool c.there :: .bool c.junk :: .string c.text :: vals cs := rfl
    have h1 : (j + 3) / 3 = j / 3 + 1 := by omega
    have h2 : (j + 3) % 3 = j % 3 := by omega
    rw [e, h1, h2, List.getElem?_cons_succ, List.getElem?_cons_succ, List.getElem?_cons_succ, List.getElem?_cons_succ]
    exact vals_get cs j
theorem vals_one (cs : List Cl) : ∀ u ∈ vals cs, u.oneCell' = true := by
  intro u hu
  unfold vals at hu
  rw [List.mem_flatMap] at hu
  obtain ⟨c, _, hu⟩ := hu
  simp at hu
  rcases hu with rfl | rfl | rfl <;> rfl
theorem add_at {b off : Nat} (i : Nat) : (⟨b, off, none⟩ : Addr).add i = ⟨b, off + i, none⟩ := by unfold Addr.add; split <;> simp_all
/-- The cells that lie in memory, one value behind another. -/
theorem CellsAt.news {w : World} {b off cap : Nat} {cs : List Cl} (h : CellsAt w (some ⟨b, off, none⟩) cap cs) : ∀ j u, (vals cs)[j]? = some u → w.cell? ((⟨b, off, none⟩ : Addr).add j) = some u := by
  intro j u hu
  rw [vals_get] at hu
  rw [add_at]
  cases hk : cs[j / 3]? with
  | none => rw [hk] at hu; cases hu
  | some c =>
    rw [hk] at hu
    simp only at hu
    obtain ⟨b', off', e, d0, d1, d2, _⟩ := h.at hk
    cases e
    have hj : j = j / 3 * 3 + j % 3 := by omega
    have h3 : j % 3 = 0 ∨ j % 3 = 1 ∨ j % 3 = 2 := by omega
    rcases h3 with h3 | h3 | h3
    · rw [h3] at hu; cases hu; rw [hj, h3]; exact d0
    · rw [h3] at hu; cases hu; rw [hj, h3]; exact d1
    · rw [h3] at hu; cases hu; rw [hj, h3]; exact d2
/-- A row of cells of its own. -/
theorem cellsAt_row {w : World} {base g cap : Nat} {cs : List Cl} {e : TypeId} (hl : cs.length ≤ 9223372036854775807) (hs : ∀ (k : Nat) (c : Cl), cs[k]? = some c → c.text.size ≤ 9223372036854775807)
    (h : w.ownsRow base e 3 (.slice (some ⟨g, 0, none⟩) cs.length cap) cs.length (vals cs)) : CellsAt w (some ⟨g, 0, none⟩) cap cs := by
  have hcap : cs.length ≤ cap := by
    rcases h.2 with ⟨h0, _⟩ | ⟨g', cap', cur, hv, _, _, hle, _⟩
    · cases h0
    · cases hv; exact hle
  refine ⟨hl, hcap, .inr ⟨g, 0, rfl, fun k c hk => ?_⟩⟩
  have hc := h.cells (g := g) rfl
  have key : ∀ r u, r < 3 → [Value.bool c.there, .bool c.junk, .string c.text][r]? = some u → w.cell? ⟨g, 0 + (k * 3 + r), none⟩ = some u := fun r u hr hu => by
    have := hc (k * 3 + r) u (by
      rw [vals_get, show (k * 3 + r) / 3 = k from by omega, show (k * 3 + r) % 3 = r from by omega, hk]
      exact hu)
    rwa [add_at] at this
  exact ⟨key 0 _ (by omega) rfl, key 1 _ (by omega) rfl, key 2 _ (by omega) rfl, hs k c hk⟩
theorem CellsAt.sizes {w : World} {a : Option Addr} {cap : Nat} {cs : List Cl} (h : CellsAt w a cap cs) : ∀ (k : Nat) (c : Cl), cs[k]? = some c → c.text.size ≤ 9223372036854775807 := fun k c hk => by
  obtain ⟨_, _, _, _, _, _, hs⟩ := h.at hk
  exact hs
theorem CellsAt.far {w : World} {a : Option Addr} {cap : Nat} {cs : List Cl} (h : CellsAt w a cap cs) {p : Addr} (hp : ∀ x, a = some x → p.block ≠ x.block) (v : Value) : CellsAt (w.setCell p v) a cap cs := by
  refine ⟨h.1, h.2.1, h.2.2.imp id ?_⟩
  rintro ⟨b, off, rfl, hc⟩
  have hn : b ≠ p.block := fun e => hp _ rfl e.symm
  have key : ∀ o u, w.cell? ⟨b, o, none⟩ = some u → (w.setCell p v).cell? ⟨b, o, none⟩ = some u := fun o u hu =>
    (World.cell?_of_block (w := w) (Below.heap_setCell _ _ _ _ hn)).trans hu
  exact ⟨b, off, rfl, fun k c hk => ⟨key _ _ (hc k c hk).1, key _ _ (hc k c hk).2.1, key _ _ (hc k c hk).2.2.1, (hc k c hk).2.2.2⟩⟩
theorem grow_of_grown {w w3 : World} (hg : w.grownBy w3 none) : Grow w w3 :=
  ⟨hg.os, hg.tape, hg.output, hg.size, fun k hk => hg.block k hk (by simp)⟩
theorem Try.infoCell : (Try.prog.info? 54).map (fun i => (i.zero, i.size, i.bytes)) = some (some (.agg #[.bool false, .bool false, .string ⟨#[]⟩]), 3, 24) := by kernel_rfl

/-- Nothing is appended to nothing. -/
theorem wpList_append_nothing {P : Program} {w : World} {ops : Array Oper} {rest : List Oper} {o : Oper} {a : Act} {Q : Exit → Act → World → Prop} (hgd : o.guard = none) (s x : Operand) (t : TypeId)
    (ho : o.op = .call { callee := .builtin .append, args := #[s, x], argTypes := #[t, t] }) (e : TypeId) (i : TypeInfo) (ht : P.underlying t = some (.slice e)) (hi : P.info? e = some i)
    (hs : a.eval s = .slice none 0 0) (a0 : Option Addr) (cap : Nat) (hx : a.eval x = .slice a0 0 cap) (h : wpList P ops Q rest (a.put o.dst (.slice none 0 0)) w) : wpList P ops Q (o :: rest) a w := by
  refine wpList_plain hgd fun K hK => ?_
  have hrun : (Builtin.append_ #[t, t] o.type #[.slice none 0 0, .slice a0 0 cap]).run P w = .ok (.slice none 0 0) w := by
    cases a0 <;> simp [Builtin.append_, run_underlying ht, sizeOf, typeInfo, hi, loadCells, loadCellsFrom, Builtin.lenOf, Builtin.firstCells]
  unfold Oper.wp
  simp [execOp, ho, resolve, invoke, builtin, hs, hx, hrun, Result.andThen]
  exact hK _ _ h

set_option maxHeartbeats 2000000 in
theorem copyOf_any (cs : List Cl) (a : Option Addr) (cap : Nat) (w : World) (hc : CellsAt w a cap cs) (hl : cs.length ≤ 30) :
    Calls Try.prog 48 #[.slice a cs.length cap] w fun e w' => ∃ a' cap', e = .returned (.slice a' cs.length cap') ∧ Grow w w' ∧ CellsAt w' a' cap' cs ∧ ∀ x, a' = some x → w.heap.size ≤ x.block := by
  obtain ⟨i0, hi, hz0, hz1, hz2⟩ := info_parts Try.infoCell
  have HC : Hid (CellsAt w a cap cs) := hc
  clear hc
  by_cases hn : cs = []
  · subst hn
    go_enter Try.func48, Try.ntmps48
    go_wp2_with (at_builtin; go_must (refine wpList_append_nothing (by rfl) _ _ 40 (by rfl) 54 i0 Try.underlying40 hi (by rfl) a cap (by rfl) ?_))
    go_ret
    exact ⟨_, _, rfl, Grow.refl _, by simp [CellsAt], fun x hx => by cases hx⟩
  · have hpos := List.length_pos_iff.2 hn
    have h0 : cs[0]? = some cs[0] := List.getElem?_eq_getElem hpos
    obtain ⟨b, off, rfl, _⟩ := HC.out.at h0
    clear h0
    go_enter Try.func48, Try.ntmps48
    go_wp2_with (at_builtin; go_must (refine wpList_append_lies _ (by rfl) _ _ 40 (by rfl) w.heap.size 54 i0 (.agg #[.bool false, .bool false, .string ⟨#[]⟩]) 3 24 Try.underlying40 hi hz0 hz1 hz2 (by rfl) (by decide) (.slice none 0 0) 0 [] (by rfl) (World.ownsRow_nil _ _ _ _) ⟨b, off, none⟩ cs.length cap (vals cs) (by rfl) (vals_length cs) HC.out.news (vals_one cs) hpos (by unfold maxLen; omega) (by omega) (by omega) w.heap.size rfl ?_; intro g cap' w3 hown3 hgrow hat hltg))
    go_ret
    rw [List.nil_append] at hown3
    simp only [Nat.zero_add] at hown3
    exact ⟨_, _, rfl, grow_of_grown hgrow, cellsAt_row (by omega) HC.out.sizes hown3, fun x hx => by (cases hx; exact hat.elim (fun h => by cases h) fun h => Nat.le_of_eq h.symm)⟩
end Go.Proofs.Ytikdncgjaomlcaa
