/- Laws of rows of structs: copy, clear, and what slices.Insert and slices.Delete make of a row. -/
import Derived.Test.YtlpdoloolagcbabG
import Derived.Lib.AppendZerosOnto
import Derived.Lib.Overlaps
import Derived.Laws.Externs
import Derived.Deep.DeepAppendWide
namespace Go.Proofs.Ytlpdoloolagcbab
open Go.RowKit

section
variable {P : Program}
/-- copy into a row that is known whole. -/
theorem run_copy_row (w : World) (dT sT ty elem : TypeId) (size g o dLen dCap : Nat) (a : Addr) (sLen sCap : Nat) (cs : List Value) (cur : Array Value) (t : TypeId)
    (hu : P.underlying dT = some (.slice elem)) (i : TypeInfo) (hi : P.info? elem = some i) (hs : i.size = size) (hn : cs.length = Nat.min sLen dLen * size)
    (hsrc : ∀ j v, cs[j]? = some v → w.cell? (a.add j) = some v) (hg : w.heap[g]? = some (.cells cur t (0, 0))) (hfit : o + cs.length ≤ cur.size) (h1 : ∀ v ∈ cs, v.oneCell' = true) :
    (Builtin.copy_ #[dT, sT] ty #[.slice (some ⟨g, o, none⟩) dLen dCap, .slice (some a) sLen sCap]).run P w = .ok (goInt (Nat.min sLen dLen)) (w.setRow g (cur.toList.take o ++ cs ++ cur.toList.drop (o + cs.length)).toArray) := by
  have hl := run_loadCells_list (P := P) w a cs hsrc
  have hst := run_storeCells_at P g o t cs 0 cur w hg (by simpa using hfit) h1
  simp only [Nat.add_zero] at hst
  rw [hn] at hl
  simp [Builtin.copy_, run_underlying hu, Builtin.lenOf, Builtin.firstCells, sizeOf, typeInfo, hi, hs, hl, hst]
/-- clear, of a row that is known whole. -/
theorem run_clear_row (w : World) (t e ty : TypeId) (z : Value) (ht : P.underlying t = some (.slice e)) (hv : ∀ w, (zeroValue e).run P w = .ok z w) (h1 : ∀ v ∈ z.cells.toList, v.oneCell' = true) (g o n c : Nat) (cur : Array Value) (et : TypeId)
    (hg : w.heap[g]? = some (.cells cur et (0, 0))) (hfit : o + (n + 1) * z.cells.size ≤ cur.size) :
    (Builtin.clear_ #[t] ty #[.slice (some ⟨g, o, none⟩) (n + 1) c]).run P w = .ok (.tuple #[]) (w.setRow g (cur.toList.take o ++ (Builtin.zeroCells z.cells (n + 1)).toList ++ cur.toList.drop (o + (n + 1) * z.cells.size)).toArray) := by
  have hl : (Builtin.zeroCells z.cells (n + 1)).toList.length = (n + 1) * z.cells.size := by simp [size_zeroCells]
  have hst := run_storeCells_at P g o et (Builtin.zeroCells z.cells (n + 1)).toList 0 cur w hg (by rw [hl]; simpa using hfit) (by
    intro v hv'
    simp only [Builtin.zeroCells, Array.toList_map, List.mem_map, Array.toList_range, List.mem_range] at hv'
    obtain ⟨j, hj, rfl⟩ := hv'
    have hz : 0 < z.cells.size := by
      rcases Nat.eq_zero_or_pos z.cells.size with h | h
      · rw [h] at hj; simp at hj
      · exact h
    have hlt : j % z.cells.size < z.cells.size := Nat.mod_lt _ hz
    rw [getElem!_pos z.cells (j % z.cells.size) hlt]
    exact h1 _ (by simp))
  simp only [Nat.add_zero] at hst
  rw [hl] at hst
  simp [Builtin.clear_, run_underlying ht, hv, hst]
theorem wpList_copy_run (w : World) {ops : Array Oper} {rest : List Oper} {o : Oper} {a : Act} {Q : Exit → Act → World → Prop} (hgd : o.guard = none) (d s : Operand) (t t' : TypeId)
    (ho : o.op = .call { callee := .builtin .copy, args := #[d, s], argTypes := #[t, t'] }) (v u : Value) (hd : a.eval d = v) (hs : a.eval s = u) {v' : Value} {w' : World}
    (hr : (Builtin.copy_ #[t, t'] o.type #[v, u]).run P w = .ok v' w') (h : wpList P ops Q rest (a.put o.dst v') w') : wpList P ops Q (o :: rest) a w :=
  wpList_plain hgd fun _ hK => by
    unfold Oper.wp execOp
    simp only [ho, resolve, invoke, builtin, Sem.run_bind, Sem.run_pure, Result.andThen_ok, List.map_toArray, List.map_cons, List.map_nil, hd, hs, hr]
    exact hK _ _ h
theorem wpList_clear_run (w : World) {ops : Array Oper} {rest : List Oper} {o : Oper} {a : Act} {Q : Exit → Act → World → Prop} (hgd : o.guard = none) (s : Operand) (t : TypeId)
    (ho : o.op = .call { callee := .builtin .clear, args := #[s], argTypes := #[t] }) (u : Value) (hs : a.eval s = u) {v' : Value} {w' : World}
    (hr : (Builtin.clear_ #[t] o.type #[u]).run P w = .ok v' w') (h : wpList P ops Q rest (a.put o.dst v') w') : wpList P ops Q (o :: rest) a w :=
  wpList_plain hgd fun _ hK => by
    unfold Oper.wp execOp
    simp only [ho, resolve, invoke, builtin, Sem.run_bind, Sem.run_pure, Result.andThen_ok, List.map_toArray, List.map_cons, List.map_nil, hs, hr]
    exact hK _ _ h
theorem wpList_append_ran (w : World) {ops : Array Oper} {rest : List Oper} {o : Oper} {a : Act} {Q : Exit → Act → World → Prop} (hgd : o.guard = none) (s x : Operand) (t tn : TypeId)
    (ho : o.op = .call { callee := .builtin .append, args := #[s, x], argTypes := #[t, tn] }) (vs vx : Value) (hs : a.eval s = vs) (hx : a.eval x = vx)
    {v' : Value} {w' : World} (hr : (Builtin.append_ #[t, tn] o.type #[vs, vx]).run P w = .ok v' w') (h : wpList P ops Q rest (a.put o.dst v') w') : wpList P ops Q (o :: rest) a w :=
  Lib.wpList_append_run w hgd s x t tn ho vs vx hs hx v' w' hr h
end

theorem grownBy_setRow {w : World} {g : Nat} {cur cur' : Array Value} {t : TypeId} (_h : w.heap[g]? = some (.cells cur t (0, 0))) : w.grownBy (w.setRow g cur') (some g) :=
  ⟨rfl, rfl, rfl, by simp [World.setRow], fun k hk hn => setRow_other _ _ _ _ (fun e => hn (by rw [e]))⟩
theorem grownBy_trans {a b c : World} {row : Option Nat} (h : a.grownBy b row) (k : b.grownBy c row) : a.grownBy c row :=
  ⟨k.os.trans h.os, k.tape.trans h.tape, k.output.trans h.output, Nat.le_trans h.size k.size, fun j hj hn => (k.block j (Nat.lt_of_lt_of_le hj h.size) hn).trans (h.block j hj hn)⟩
theorem grownBy_drew (w : World) (row : Option Nat) : w.grownBy w.drew row := ⟨rfl, rfl, rfl, Nat.le_refl _, fun _ _ _ => rfl⟩
theorem grownBy_refl (w : World) (row : Option Nat) : w.grownBy w row := ⟨rfl, rfl, rfl, Nat.le_refl _, fun _ _ _ => rfl⟩
theorem grownBy_of_grow {w w' : World} (h : Grow w w') (row : Option Nat) : w.grownBy w' row := ⟨Below.os h, Below.tape h, Below.output h, Below.size h, fun k hk _ => Below.block h k hk⟩

/-- What a row is behind a shift. -/
theorem row_shift {cur cs xs : List Value} {I N k : Nat} (hI : I ≤ N) (hx : xs.length = k) (hc : N + k ≤ cur.length) (ht : cur.take N = cs) :
    ((cur.take (I + k) ++ cs.drop I ++ cur.drop (I + k + (N - I))).take I ++ xs ++ (cur.take (I + k) ++ cs.drop I ++ cur.drop (I + k + (N - I))).drop (I + k)).take (N + k) = cs.take I ++ xs ++ cs.drop I := by
  have hl : cs.length = N := by rw [← ht, List.length_take]; omega
  have e1 : (cur.take (I + k) ++ cs.drop I ++ cur.drop (I + k + (N - I))).take I = cs.take I := by
    rw [List.append_assoc, List.take_append_of_le_length (by rw [List.length_take]; omega), List.take_take, Nat.min_eq_left (by omega), ← ht, List.take_take, Nat.min_eq_left hI]
  have e2 : (cur.take (I + k) ++ cs.drop I ++ cur.drop (I + k + (N - I))).drop (I + k) = cs.drop I ++ cur.drop (I + k + (N - I)) := by
    rw [List.append_assoc]
    exact List.drop_left' (by rw [List.length_take]; omega)
  rw [e1, e2, ← List.append_assoc]
  exact List.take_left' (by simp; omega)
theorem row_shift_size {cur cs xs : List Value} {I N k : Nat} (hI : I ≤ N) (hx : xs.length = k) (hc : N + k ≤ cur.length) (hl : cs.length = N) :
    ((cur.take (I + k) ++ cs.drop I ++ cur.drop (I + k + (N - I))).take I ++ xs ++ (cur.take (I + k) ++ cs.drop I ++ cur.drop (I + k + (N - I))).drop (I + k)).length = cur.length := by
  simp
  omega
/-- What a new row is. -/
theorem row_new {cur cs xs : List Value} {I N k : Nat} (hI : I ≤ N) (hx : xs.length = k) (ht : cur.take I = cs.take I) (hl : cs.length = N) :
    ((cur.take I ++ xs ++ cur.drop (I + k)).take (I + k) ++ cs.drop I ++ (cur.take I ++ xs ++ cur.drop (I + k)).drop (I + k + (N - I))).take (N + k) = cs.take I ++ xs ++ cs.drop I := by
  have e1 : (cur.take I ++ xs ++ cur.drop (I + k)).take (I + k) = cs.take I ++ xs := by
    rw [ht]
    exact List.take_left' (by simp; omega)
  rw [e1]
  exact List.take_left' (by simp; omega)
theorem row_new_size {cur cs xs : List Value} {I N k : Nat} (hI : I ≤ N) (hx : xs.length = k) (hc : N + k ≤ cur.length) (hl : cs.length = N) :
    ((cur.take I ++ xs ++ cur.drop (I + k)).take (I + k) ++ cs.drop I ++ (cur.take I ++ xs ++ cur.drop (I + k)).drop (I + k + (N - I))).length = cur.length := by
  simp
  omega
/-- What a row is where one is taken out, and its end cleared. -/
theorem row_cut {cur cs zs : List Value} {I N k : Nat} (hI : I + k ≤ N) (hz : zs.length = k) (hc : N ≤ cur.length) (ht : cur.take N = cs) :
    ((cur.take I ++ cs.drop (I + k) ++ cur.drop (I + (N - (I + k)))).take (N - k) ++ zs ++ (cur.take I ++ cs.drop (I + k) ++ cur.drop (I + (N - (I + k)))).drop (N - k + k)).take (N - k) = cs.take I ++ cs.drop (I + k) := by
  have hl : cs.length = N := by rw [← ht, List.length_take]; omega
  have e0 : cur.take I = cs.take I := by rw [← ht, List.take_take, Nat.min_eq_left (by omega)]
  have e1 : (cur.take I ++ cs.drop (I + k) ++ cur.drop (I + (N - (I + k)))).take (N - k) = cs.take I ++ cs.drop (I + k) := by
    rw [e0]
    exact List.take_left' (by simp; omega)
  rw [e1, List.append_assoc]
  exact List.take_left' (by simp; omega)
theorem row_cut_size {cur cs zs : List Value} {I N k : Nat} (hI : I + k ≤ N) (hz : zs.length = k) (hc : N ≤ cur.length) (hl : cs.length = N) :
    ((cur.take I ++ cs.drop (I + k) ++ cur.drop (I + (N - (I + k)))).take (N - k) ++ zs ++ (cur.take I ++ cs.drop (I + k) ++ cur.drop (I + (N - (I + k)))).drop (N - k + k)).length = cur.length := by
  simp
  omega
theorem ownsRow_grow {w w' : World} {base : Nat} {e : TypeId} {size : Nat} {v : Value} {n : Nat} {xs : List Value} (h : w.ownsRow base e size v n xs) (hg : Grow w w') : w'.ownsRow base e size v n xs :=
  h.kept (grownBy_of_grow hg none) (by cases hv : v.ownBlock <;> simp)
theorem ownsRow_set {w : World} {base : Nat} {e : TypeId} {size : Nat} {v : Value} {n : Nat} {xs : List Value} (h : w.ownsRow base e size v n xs) {p : Addr} (hp : v.ownBlock ≠ some p.block) (u : Value) : (w.setCell p u).ownsRow base e size v n xs := by
  obtain ⟨h1, h2⟩ := h
  refine ⟨h1, ?_⟩
  rcases h2 with h2 | ⟨g, cap, cur, hv, hg, hh, r⟩
  · exact .inl h2
  · subst hv
    exact .inr ⟨g, cap, cur, rfl, hg, block_far (fun e => hp (by rw [← e]; rfl)) hh, r⟩
section
variable {P : Program} {α : Type} {enc : α → List Value}
/-- A row is appended to nothing: a row of one's own. -/
theorem wpList_append_copy {w : World} {ops : Array Oper} {rest : List Oper} {o : Oper} {a : Act} {Q : Exit → Act → World → Prop} (hgd : o.guard = none) (s x : Operand) (t : TypeId)
    (ho : o.op = .call { callee := .builtin .append, args := #[s, x], argTypes := #[t, t] }) (base : Nat) (e : TypeId) (i : TypeInfo) (z : Value) (size bytes : Nat) (ht : P.underlying t = some (.slice e)) (hi : P.info? e = some i) (hz : i.zero = some z)
    (hsize : i.size = size) (hby : i.bytes = bytes) (hzs : z.cells.size = size) (hsz : 0 < size) (hs : a.eval s = .slice none 0 0) (a0 : Option Addr) (cap : Nat) (xs : List α) (hx : a.eval x = .slice a0 xs.length cap)
    (hrow : RowAt enc size w a0 cap xs) (hk : ∀ x, (enc x).length = size) (h1 : ∀ x, ∀ v ∈ enc x, v.oneCell' = true) (hn : xs.length * bytes ≤ 140737488355328) (h63 : xs.length ≤ maxLen) (hb : base ≤ w.heap.size) (H : Nat) (hH : w.heap.size = H)
    (h : ∀ a' cap' w', w'.ownsRow base e size (.slice a' xs.length cap') xs.length (flat enc xs) → Grow w w' → (∀ y, a' = some y → y.block = H) → wpList P ops Q rest (a.put o.dst (.slice a' xs.length cap')) w') : wpList P ops Q (o :: rest) a w := by
  by_cases hn0 : xs = []
  · subst hn0
    exact wpList_append_none hgd s x t ho e i ht hi hs a0 cap hx (h none 0 w ⟨by simp [flat], .inl ⟨rfl, rfl⟩⟩ (Grow.refl _) (fun y hy => by cases hy))
  · have hpos := List.length_pos_iff.2 hn0
    obtain ⟨b, off, rfl, _⟩ := hrow.at (List.getElem?_eq_getElem hpos)
    refine wpList_append_lies w hgd s x t ho base e i z size bytes ht hi hz hsize hby hzs hsz (.slice none 0 0) 0 [] hs (World.ownsRow_nil _ _ _ _) ⟨b, off, none⟩ xs.length cap (flat enc xs) hx (flat_length hk xs) (hrow.news hk) (flat_one h1 xs) hpos (by omega) (by rw [Nat.zero_add]; exact hn) hb H hH ?_
    intro g cap' w' hown hgrow hat _
    simp only [List.nil_append, Nat.zero_add] at hown
    rw [Nat.zero_add]
    exact h (some ⟨g, 0, none⟩) cap' w' hown (grow_of_grown' hgrow) (fun y hy => by
      cases hy
      rcases hat with h | h
      · cases h
      · exact h)
end
end Go.Proofs.Ytlpdoloolagcbab
