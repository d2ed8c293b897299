/- A region whose order is left open, walked once: what only looks, what only reckons, what comes up alone, and what comes up alone and changes what was there. -/
import Derived.Test.YtikdncgjaomlcaaU
namespace Go.Proofs.Ytikdncgjaomlcaa
open Go.RowKit

section
variable {P : Program} {ops : Array Oper} {Q : Exit → Act → World → Prop}

theorem looks_run {s : Sem Next} {v : Value} (h : ∀ w, s.run P w = .ok (.value v) w) : Looks P s := fun w x w1 hr => by
  rw [h w] at hr
  cases hr
  exact ⟨v, rfl, rfl, fun w' _ => h w'⟩

/-- Whatever order is picked, S holds behind every operation, till number c has come up. -/
def wpAnyC (P : Program) (md : Region.Mode) (ops : Array Oper) (Q : Exit → Act → World → Prop) (S : World → Prop) (c : Nat) : Nat → Array Bool → Act → World → Prop
  | 0, listed, a, w => Region.ready md ops listed = [] ∧ Q .normal a w
  | fuel + 1, listed, a, w => (Region.ready md ops listed = [] → Q .normal a w) ∧
      ∀ i ∈ Region.ready md ops listed, wpOp P ops Q i (fun a' w' => (i = c ∧ wpAny P md ops Q fuel (listed.setIfInBounds i true) a' w') ∨ (i ≠ c ∧ S w' ∧ wpAnyC P md ops Q S c fuel (listed.setIfInBounds i true) a' w')) a w
theorem wpAny_of_C {md : Region.Mode} {S : World → Prop} {c : Nat} : ∀ (fuel : Nat) (listed : Array Bool) (a : Act) (w : World), wpAnyC P md ops Q S c fuel listed a w → wpAny P md ops Q fuel listed a w
  | 0, _, _, _, h => h
  | fuel + 1, _, _, _, h => ⟨h.1, fun i hi => wpOp_mono (fun a' w' h' => h'.elim (fun h => h.2) (fun h => wpAny_of_C fuel _ a' w' h.2.2)) (h.2 i hi)⟩
theorem wpAnyC_weaken {md : Region.Mode} {S S' : World → Prop} {c : Nat} (hS : ∀ w, S w → S' w) : ∀ (fuel : Nat) (listed : Array Bool) (a : Act) (w : World), wpAnyC P md ops Q S c fuel listed a w → wpAnyC P md ops Q S' c fuel listed a w
  | 0, _, _, _, h => h
  | fuel + 1, _, _, _, h => ⟨h.1, fun i hi => wpOp_mono (fun a' w' h' => h'.imp id (fun h => ⟨h.1, hS _ h.2.1, wpAnyC_weaken hS fuel _ a' w' h.2.2⟩)) (h.2 i hi)⟩
theorem wpAnyC_done {md : Region.Mode} {S : World → Prop} {c : Nat} {listed : Array Bool} {a : Act} {w : World} (hr : Region.ready md ops listed = []) (h : Q .normal a w) : ∀ fuel, wpAnyC P md ops Q S c fuel listed a w
  | 0 => ⟨hr, h⟩
  | _ + 1 => ⟨fun _ => h, by rw [hr]; simp⟩

/-- All of W wait for number i. -/
def Blocks (md : Region.Mode) (ops : Array Oper) (i : Nat) (W : List Nat) : Prop := ∀ x ∈ W, ∃ o, ops[x]? = some o ∧ ∃ e ∈ o.after, Region.binds md e = true ∧ (e.on = i ∨ e.on ∈ W)
def waiters (md : Region.Mode) (ops : Array Oper) (i : Nat) : List Nat → List Nat
  | [] => []
  | j :: js => if ((ops[j]?).map fun o => o.after.any fun e => Region.binds md e && (e.on == i || (waiters md ops i js).contains e.on)).getD false then j :: waiters md ops i js else waiters md ops i js
theorem waiters_blocks (md : Region.Mode) (ops : Array Oper) (i : Nat) : ∀ js, Blocks md ops i (waiters md ops i js)
  | [] => fun x hx => by cases hx
  | j :: js => by
    have ih := waiters_blocks md ops i js
    unfold waiters
    split
    · rename_i h
      intro x hx
      rcases List.mem_cons.1 hx with rfl | hx
      · cases ho : ops[x]? with
        | none => rw [ho] at h; cases h
        | some o =>
          rw [ho] at h
          simp only [Option.map_some, Option.getD_some, Array.any_eq_true'] at h
          obtain ⟨e, he, h⟩ := h
          simp only [Bool.and_eq_true, Bool.or_eq_true, beq_iff_eq, List.contains_iff_mem] at h
          exact ⟨o, rfl, e, he, h.1, h.2.imp id fun h => List.mem_cons_of_mem _ h⟩
      · obtain ⟨o, ho, e, he, hb, h⟩ := ih x hx
        exact ⟨o, ho, e, he, hb, h.imp id fun h => List.mem_cons_of_mem _ h⟩
    · exact ih
/-- Number c can't come up while i has not. -/
def barred (md : Region.Mode) (ops : Array Oper) (listed : Array Bool) (i c : Nat) : Bool :=
  decide (ops.size ≤ c) || ((waiters md ops i (List.range ops.size).reverse).contains c && (waiters md ops i (List.range ops.size).reverse).all fun x => listed.getD x true == false)
theorem not_ready {md : Region.Mode} {i : Nat} {W : List Nat} {listed : Array Bool} (hb : Blocks md ops i W) (hi : listed.getD i true = false) (hW : ∀ x ∈ W, listed.getD x true = false) {x : Nat} (hx : x ∈ W) : x ∉ Region.ready md ops listed := by
  intro hr
  obtain ⟨_, o, ho, hall⟩ := mem_ready.1 hr
  obtain ⟨o', ho', e, he, hbi, h⟩ := hb x hx
  rw [ho] at ho'
  cases ho'
  have h1 := hall e he hbi
  have h0 : listed.getD e.on true = false := by
    rcases h with h | h
    · rw [h]; exact hi
    · exact hW _ h
  rcases Nat.lt_or_ge e.on listed.size with h' | h'
  · simp [h'] at h0 h1; rw [h0] at h1; cases h1
  · simp [Array.getElem?_eq_none h'] at h1
theorem wpAnyC_first {md : Region.Mode} {S : World → Prop} {c i : Nat} {oi : Oper} {v : Value} {W : List Nat} (hi : ops[i]? = some oi) (hsel : ∀ (j : Nat) (o : Oper) cs b, ops[j]? = some o → o.op ≠ .select cs b)
    (hQ : ∀ c a w, Q (.panic c) (a.put oi.dst v) w → Q (.panic c) a w) (hb : Blocks md ops i W) (hic : i ≠ c) (hc : ops.size ≤ c ∨ c ∈ W) :
    ∀ (fuel : Nat) (listed : Array Bool) (a : Act) (w : World),
      (∀ j oj, ops[j]? = some oj → j ≠ i → listed.getD j true = false → (∀ e ∈ oj.after, Region.binds md e = true → e.on ≠ i) → oi.apart ops oj = true) → (∀ x ∈ W, listed.getD x true = false) →
      i ∈ Region.ready md ops listed → YieldsIf P ops S oi v a → S w →
      wpAnyC P md ops Q S c fuel (listed.setIfInBounds i true) (a.put oi.dst v) w → wpAnyC P md ops Q S c (fuel + 1) listed a w := by
  intro fuel
  induction fuel with
  | zero =>
    intro listed a w _ _ hr hy hS H
    refine ⟨fun h => (by rw [h] at hr; cases hr), fun j hj => ?_⟩
    by_cases hji : j = i
    · subst hji; exact hy.wpOp hi hS (.inr ⟨hic, hS, H⟩)
    · have := ready_mono hj hji
      rw [H.1] at this
      cases this
  | succ fuel ih =>
    intro listed a w hfree hW hr hy hS H
    refine ⟨fun h => (by rw [h] at hr; cases hr), fun j hj => ?_⟩
    by_cases hji : j = i
    · subst hji; exact hy.wpOp hi hS (.inr ⟨hic, hS, H⟩)
    · have h1 := H.2 j (ready_mono hj hji)
      have hiun := (mem_ready.1 hr).1
      have hjW : j ∉ W := fun h => not_ready hb hiun hW h hj
      obtain ⟨hjun, oj, hoj, hall⟩ := mem_ready.1 hj
      have hjc : j ≠ c := by
        rcases hc with hc | hc
        · have : j < ops.size := (Array.getElem?_eq_some_iff.1 hoj).1
          omega
        · intro h; exact hjW (h ▸ hc)
      have hnot : ∀ e ∈ oj.after, Region.binds md e = true → e.on ≠ i := fun e he hb heq => by
        have h1 := hall e he hb
        have h0 := hiun
        rw [heq] at h1
        rcases Nat.lt_or_ge i listed.size with h' | h'
        · simp [h'] at h0 h1; rw [h0] at h1; cases h1
        · simp [Array.getElem?_eq_none h'] at h1
      have h2 := wpOp_putIf hoj (hfree j oj hoj hji hjun hnot) (fun cs b => hsel i oi cs b hi) (fun cs b => hsel j oj cs b hoj) hQ hy h1
      have hfree' : ∀ k ok, ops[k]? = some ok → k ≠ i → (listed.setIfInBounds j true).getD k true = false →
          (∀ e ∈ ok.after, Region.binds md e = true → e.on ≠ i) → oi.apart ops ok = true := fun k ok hk hki hun hno => by
        refine hfree k ok hk hki ?_ hno
        by_cases hjk : j = k
        · subst hjk; exact hjun
        · rw [getD_set_ne true hjk] at hun; exact hun
      have hW' : ∀ x ∈ W, (listed.setIfInBounds j true).getD x true = false := fun x hx => by
        have hjx : j ≠ x := by intro h; subst h; exact hjW hx
        rw [getD_set_ne true hjx]
        exact hW x hx
      refine wpOp_mono (fun a' w' h3 => ?_) h2
      rcases h3.2 with h4 | h4
      · exact absurd h4.1 hjc
      · refine .inr ⟨hjc, h4.2.1, ih (listed.setIfInBounds j true) a' w' hfree' hW' (ready_mono hr (Ne.symm hji)) h3.1 h4.2.1 ?_⟩
        rw [Array.setIfInBounds_comm _ _ hji]
        exact h4.2.2
theorem wpAnyC_take {md : Region.Mode} {S : World → Prop} {c i : Nat} {oi : Oper} {v : Value} {fuel : Nat} {listed : Array Bool} {a : Act} {w : World} (hi : ops[i]? = some oi)
    (hs : Region.noSelect ops = true) (hf : Region.free md ops listed i = true) (hr : (Region.ready md ops listed).contains i = true) (hic : i ≠ c) (hb : barred md ops listed i c = true)
    (hQ : ∀ c a w, Q (.panic c) (a.put oi.dst v) w → Q (.panic c) a w) (hy : YieldsIf P ops S oi v a) (hS : S w)
    (h : wpAnyC P md ops Q S c fuel (listed.setIfInBounds i true) (a.put oi.dst v) w) : wpAnyC P md ops Q S c (fuel + 1) listed a w := by
  unfold barred at hb
  simp only [Bool.or_eq_true, decide_eq_true_eq, Bool.and_eq_true, List.contains_iff_mem, List.all_eq_true, beq_iff_eq] at hb
  have hB := waiters_blocks md ops i (List.range ops.size).reverse
  generalize waiters md ops i (List.range ops.size).reverse = W at *
  rcases hb with hb | hb
  · exact wpAnyC_first (W := []) hi (Region.noSelect_spec hs) hQ (fun x hx => by cases hx) hic (.inl hb) fuel listed a w (Region.free_spec hi hf) (fun x hx => by cases hx) (by simpa using hr) hy hS h
  · exact wpAnyC_first (W := W) hi (Region.noSelect_spec hs) hQ hB hic (.inr hb.1) fuel listed a w (Region.free_spec hi hf) hb.2 (by simpa using hr) hy hS h

/-- The order: 0: it only looks; 1: it comes up alone, and the world grows; 2: it only reckons; 3: it comes up alone, and may change what was there. -/
def nextCut (n : Nat) : List (Nat × Nat) → Nat
  | [] => n
  | (i, 3) :: _ => i
  | _ :: rest => nextCut n rest
def pathOk (P : Program) (md : Region.Mode) (ops : Array Oper) : List (Nat × Nat) → Array Bool → Bool
  | [], listed => (Region.ready md ops listed).isEmpty
  | (i, 0) :: rest, listed => ((ops[i]?).map (isReader P)).getD false && Region.free md ops listed i && (Region.ready md ops listed).contains i && (i != nextCut ops.size rest) && barred md ops listed i (nextCut ops.size rest) && pathOk P md ops rest (listed.setIfInBounds i true)
  | (i, 1) :: rest, listed => (Region.ready md ops listed == [i]) && (i != nextCut ops.size rest) && pathOk P md ops rest (listed.setIfInBounds i true)
  | (i, 3) :: rest, listed => (Region.ready md ops listed == [i]) && pathOk P md ops rest (listed.setIfInBounds i true)
  | (i, _) :: rest, listed => (ops[i]?).isSome && Region.free md ops listed i && (Region.ready md ops listed).contains i && (i != nextCut ops.size rest) && barred md ops listed i (nextCut ops.size rest) && pathOk P md ops rest (listed.setIfInBounds i true)
def wpPath (P : Program) (ops : Array Oper) (Q : Exit → Act → World → Prop) : List (Nat × Nat) → World → Act → World → Prop
  | [], _, a, w => Q .normal a w
  | (i, 0) :: rest, w0, a, w => wpOp P ops Q i (wpPath P ops Q rest w0) a w
  | (i, 1) :: rest, w0, a, w => wpOp P ops Q i (fun a' w' => Grow w0 w' ∧ wpPath P ops Q rest w' a' w') a w
  | (i, 3) :: rest, _, a, w => wpOp P ops Q i (fun a' w' => wpPath P ops Q rest w' a' w') a w
  | (i, _) :: rest, w0, a, w => (∀ o, ops[i]? = some o → Region.wanted o (yielded ops a.tmps) = true → Looks P (execOp a.eval o)) ∧ wpOp P ops Q i (wpPath P ops Q rest w0) a w
theorem path_take {md : Region.Mode} (hs : Region.noSelect ops = true) (hp : ∀ c a w, ¬ Q (.panic c) a w) (ho : ¬ LetsOut Q) {i c n : Nat} {o : Oper} {listed : Array Bool} {a : Act} {w : World} {K : Act → World → Prop} (hi : ops[i]? = some o)
    (hlk : Region.wanted o (yielded ops a.tmps) = true → Looks P (execOp a.eval o)) (h2 : Region.free md ops listed i = true) (h3 : (Region.ready md ops listed).contains i = true) (hic : i ≠ c) (hb : barred md ops listed i c = true)
    (hK : ∀ a', K a' w → wpAnyC P md ops Q (Grow w) c n (listed.setIfInBounds i true) a' w) (h : wpOp P ops Q i K a w) : wpAnyC P md ops Q (Grow w) c (n + 1) listed a w := by
  have hQ : ∀ v c a w, Q (.panic c) (a.put o.dst v) w → Q (.panic c) a w := fun v c a w h => (hp _ _ _ h).elim
  simp only [wpOp, hi] at h
  split at h
  · rename_i hw
    rcases h with h | ⟨_, hl⟩
    · unfold Oper.wp at h
      have hlook := hlk hw w
      cases hr : (execOp a.eval o).run P w with
      | halt e w1 =>
        rw [hr] at h
        cases e <;> first | exact h.elim | exact (hp _ _ _ h).elim
      | ok x w1 =>
        obtain ⟨v, rfl, rfl, hv⟩ := hlook x w1 hr
        rw [hr] at h
        exact wpAnyC_take hi hs h2 h3 hic hb (hQ v) (Or.inl ⟨hw, hv⟩) (Grow.refl _) (hK _ h)
    · exact (ho hl).elim
  · rename_i hw
    exact wpAnyC_take hi hs h2 h3 hic hb (hQ undef) (Or.inr ⟨by simpa using hw, rfl⟩) (Grow.refl _) (hK _ h)
theorem held_path (hs : Region.noSelect ops = true) (hp : ∀ c a w, ¬ Q (.panic c) a w) (ho : ¬ LetsOut Q) {md : Region.Mode} : ∀ (path : List (Nat × Nat)) (listed : Array Bool) (a : Act) (w : World),
    pathOk P md ops path listed = true → wpPath P ops Q path w a w → wpAnyC P md ops Q (Grow w) (nextCut ops.size path) path.length listed a w
  | [], listed, a, w, hk, h => wpAnyC_done (by simpa [pathOk] using hk) h _
  | (i, 0) :: rest, listed, a, w, hk, h => by
    simp only [pathOk, Bool.and_eq_true, bne_iff_ne] at hk
    obtain ⟨⟨⟨⟨⟨h1, h2⟩, h3⟩, hic⟩, hb⟩, h4⟩ := hk
    cases hi : ops[i]? with
    | none => rw [hi] at h1; cases h1
    | some o =>
      rw [hi] at h1
      simp only [Option.map_some, Option.getD_some] at h1
      exact path_take hs hp ho hi (fun _ => isReader_looks h1 a.eval) h2 h3 hic hb (fun a' h' => held_path hs hp ho rest _ a' w h4 h') h
  | (i, 1) :: rest, listed, a, w, hk, h => by
    simp only [pathOk, Bool.and_eq_true, beq_iff_eq, bne_iff_ne] at hk
    refine ⟨fun h0 => (by rw [hk.1.1] at h0; cases h0), fun j hj => ?_⟩
    rw [hk.1.1] at hj
    obtain rfl : j = i := by simpa using hj
    exact wpOp_mono (fun a' w' h' => .inr ⟨hk.1.2, h'.1, wpAnyC_weaken (fun x hx => h'.1.trans hx) _ _ _ _ (held_path hs hp ho rest _ a' w' hk.2 h'.2)⟩) h
  | (i, 2) :: rest, listed, a, w, hk, h => by
    simp only [pathOk, Bool.and_eq_true, bne_iff_ne] at hk
    obtain ⟨⟨⟨⟨⟨h1, h2⟩, h3⟩, hic⟩, hb⟩, h4⟩ := hk
    cases hi : ops[i]? with
    | none => rw [hi] at h1; cases h1
    | some o => exact path_take hs hp ho hi (h.1 o hi) h2 h3 hic hb (fun a' h' => held_path hs hp ho rest _ a' w h4 h') h.2
  | (i, 3) :: rest, listed, a, w, hk, h => by
    simp only [pathOk, Bool.and_eq_true, beq_iff_eq] at hk
    refine ⟨fun h0 => (by rw [hk.1] at h0; cases h0), fun j hj => ?_⟩
    rw [hk.1] at hj
    obtain rfl : j = i := by simpa using hj
    exact wpOp_mono (fun a' w' h' => .inl ⟨rfl, wpAny_of_C _ _ _ _ (held_path hs hp ho rest _ a' w' hk.2 h')⟩) h
  | (i, k + 4) :: rest, listed, a, w, hk, h => by
    simp only [pathOk, Bool.and_eq_true, bne_iff_ne] at hk
    obtain ⟨⟨⟨⟨⟨h1, h2⟩, h3⟩, hic⟩, hb⟩, h4⟩ := hk
    cases hi : ops[i]? with
    | none => rw [hi] at h1; cases h1
    | some o => exact path_take hs hp ho hi (h.1 o hi) h2 h3 hic hb (fun a' h' => held_path hs hp ho rest _ a' w h4 h') h.2
theorem path_from {w0 w1 : World} (hg : Grow w0 w1) : ∀ (path : List (Nat × Nat)) (a : Act) (w : World), wpPath P ops Q path w1 a w → wpPath P ops Q path w0 a w
  | [], _, _, h => h
  | (_, 0) :: rest, _, _, h => wpOp_mono (fun a' w' h' => path_from hg rest a' w' h') h
  | (_, 1) :: _, _, _, h => wpOp_mono (fun _ _ h' => ⟨hg.trans h'.1, h'.2⟩) h
  | (_, 2) :: rest, _, _, h => ⟨h.1, wpOp_mono (fun a' w' h' => path_from hg rest a' w' h') h.2⟩
  | (_, 3) :: _, _, _, h => h
  | (_, _ + 4) :: rest, _, _, h => ⟨h.1, wpOp_mono (fun a' w' h' => path_from hg rest a' w' h') h.2⟩

/-- The parts of a path: each begins with what only reckons, or ends with what comes up alone. -/
abbrev Part := Option Oper × Bool × List Oper
def headed (o : Oper) : List Part → List Part
  | (none, b, s) :: t => (none, b, o :: s) :: t
  | t => (none, false, [o]) :: t
def headed2 (o : Oper) : List Part → List Part
  | (none, b, s) :: t => (some o, b, o :: s) :: t
  | t => (some o, false, [o]) :: t
def parts (ops : Array Oper) : List (Nat × Nat) → List Part
  | [] => [(none, false, [])]
  | (i, k) :: rest =>
    match ops[i]?, k with
    | none, _ => parts ops rest
    | some o, 0 => headed o (parts ops rest)
    | some o, 1 => (none, false, [o]) :: parts ops rest
    | some o, 3 => (none, true, [o]) :: parts ops rest
    | some o, _ => headed2 o (parts ops rest)
/-- The walk, part by part. -/
def wpParts (P : Program) (ops : Array Oper) (Q : Exit → Act → World → Prop) : List Part → Act → World → Prop
  | [], a, w => Q .normal a w
  | (p, b, s) :: t, a, w => (∀ o, p = some o → Region.wanted o (yielded ops a.tmps) = true → Looks P (execOp a.eval o)) ∧ wpList P ops (Exit.then (fun a' w' => (b = false → Grow w w') ∧ wpParts P ops Q t a' w') Q) s a w
/-- One part, in a world that has grown since its beginning. -/
theorem parts_list {o : Oper} {a : Act} {w : World} {X K : Act → World → Prop} {rest : List Oper} (hX : ∀ a' w', wpList P ops (Exit.then K Q) rest a' w' → X a' w') (h : wpList P ops (Exit.then K Q) (o :: rest) a w) {i : Nat} (hi : ops[i]? = some o) : wpOp P ops Q i X a w := by
  simp only [wpList] at h
  unfold wpOp
  simp only [hi]
  split at h
  · rename_i hw
    rw [if_pos hw]
    exact h.imp (fun h => wp_then (Oper.wp_mono hX h)) id
  · rename_i hw
    rw [if_neg hw]
    exact hX _ _ h
theorem parts_ne : ∀ (path : List (Nat × Nat)), ∃ p b s t, parts ops path = (p, b, s) :: t
  | [] => ⟨none, false, [], [], rfl⟩
  | (i, k) :: rest => by
    obtain ⟨p, b, s, t, h⟩ := parts_ne rest
    unfold parts
    split
    · exact ⟨p, b, s, t, h⟩
    · rw [h]; cases p <;> exact ⟨_, _, _, _, rfl⟩
    · exact ⟨_, _, _, _, rfl⟩
    · exact ⟨_, _, _, _, rfl⟩
    · rw [h]; cases p <;> exact ⟨_, _, _, _, rfl⟩
theorem path_parts : ∀ (path : List (Nat × Nat)), (∀ x ∈ path, ∃ o, ops[x.1]? = some o) → ∀ (w0 : World) (a : Act) (w : World) (p : Option Oper) (b : Bool) (s : List Oper) (t : List Part), parts ops path = (p, b, s) :: t →
    (∀ o, p = some o → Region.wanted o (yielded ops a.tmps) = true → Looks P (execOp a.eval o)) → wpList P ops (Exit.then (fun a' w' => (b = false → Grow w0 w') ∧ wpParts P ops Q t a' w') Q) s a w → wpPath P ops Q path w0 a w
  | [], _, w0, a, w, p, b, s, t, hs, _, h => by
    cases hs
    exact h.2
  | (i, k) :: rest, hb, w0, a, w, p, b, s, t, hs, hl, h => by
    have hb' : ∀ x ∈ rest, ∃ o, ops[x.1]? = some o := fun x hx => hb x (List.mem_cons_of_mem _ hx)
    obtain ⟨o, hi⟩ := hb (i, k) (List.mem_cons_self ..)
    simp only at hi
    obtain ⟨p', b', s', t', hr⟩ := parts_ne (ops := ops) rest
    have at' : ∀ a' w', wpParts P ops Q (parts ops rest) a' w' → wpPath P ops Q rest w' a' w' := fun a' w' h2 => by
      rw [hr] at h2
      exact path_parts rest hb' w' a' w' p' b' s' t' hr h2.1 h2.2
    have next : ∀ a' w', ((false = false → Grow w0 w') ∧ wpParts P ops Q (parts ops rest) a' w') → wpPath P ops Q rest w0 a' w' := fun a' w' h' => path_from (h'.1 rfl) rest a' w' (at' a' w' h'.2)
    have reckon : headed2 o (parts ops rest) = (p, b, s) :: t → (∀ o', ops[i]? = some o' → Region.wanted o' (yielded ops a.tmps) = true → Looks P (execOp a.eval o')) ∧ wpOp P ops Q i (wpPath P ops Q rest w0) a w := fun hs => by
      rw [hr] at hs
      cases p' with
      | none =>
        simp only [headed2] at hs
        cases hs
        refine ⟨fun o' ho' hw' => ?_, parts_list (fun a' w' h' => path_parts rest hb' w0 a' w' none _ s' _ hr (fun o e => by cases e) h') h hi⟩
        rw [hi] at ho'
        cases ho'
        exact hl o rfl hw'
      | some q =>
        simp only [headed2] at hs
        rw [← hr] at hs
        cases hs
        refine ⟨fun o' ho' hw' => ?_, parts_list ?_ h hi⟩
        rotate_left
        · intro a' w' h'
          exact next a' w' h'
        rw [hi] at ho'
        cases ho'
        exact hl o rfl hw'
    unfold parts at hs
    rw [hi] at hs
    match k with
    | 0 =>
      simp only at hs
      rw [hr] at hs
      cases p' with
      | none =>
        simp only [headed] at hs
        cases hs
        exact parts_list (fun a' w' h' => path_parts rest hb' w0 a' w' none _ s' _ hr (fun o e => by cases e) h') h hi
      | some q =>
        simp only [headed] at hs
        rw [← hr] at hs
        cases hs
        refine parts_list ?_ h hi
        intro a' w' h'
        exact next a' w' h'
    | 1 =>
      simp only at hs
      cases hs
      exact parts_list (fun a' w' h' => ⟨h'.1 rfl, at' a' w' h'.2⟩) h hi
    | 2 => exact reckon hs
    | 3 =>
      simp only at hs
      cases hs
      refine parts_list ?_ h hi
      intro a' w' h'
      exact at' a' w' (show (true = false → Grow w0 w') ∧ _ from h').2
    | k + 4 => exact reckon hs
theorem path_in {md : Region.Mode} : ∀ (path : List (Nat × Nat)) (listed : Array Bool), pathOk P md ops path listed = true → ∀ x ∈ path, ∃ o, ops[x.1]? = some o
  | [], _, _, x, hx => by cases hx
  | (i, k) :: rest, listed, hk, x, hx => by
    have alone : Region.ready md ops listed = [i] → ∃ o, ops[i]? = some o := fun h => by
      have hm : i ∈ Region.ready md ops listed := by rw [h]; simp
      obtain ⟨_, o, ho, _⟩ := mem_ready.1 hm
      exact ⟨o, ho⟩
    have both : (∃ o, ops[i]? = some o) ∧ pathOk P md ops rest (listed.setIfInBounds i true) = true := by
      match k with
      | 0 =>
        simp only [pathOk, Bool.and_eq_true] at hk
        refine ⟨?_, hk.2⟩
        cases hi : ops[i]? with
        | none => rw [hi] at hk; cases hk.1.1.1.1.1
        | some o => exact ⟨o, rfl⟩
      | 1 =>
        simp only [pathOk, Bool.and_eq_true, beq_iff_eq] at hk
        exact ⟨alone hk.1.1, hk.2⟩
      | 2 =>
        simp only [pathOk, Bool.and_eq_true] at hk
        exact ⟨Option.isSome_iff_exists.1 hk.1.1.1.1.1, hk.2⟩
      | 3 =>
        simp only [pathOk, Bool.and_eq_true, beq_iff_eq] at hk
        exact ⟨alone hk.1, hk.2⟩
      | k + 4 =>
        simp only [pathOk, Bool.and_eq_true] at hk
        exact ⟨Option.isSome_iff_exists.1 hk.1.1.1.1.1, hk.2⟩
    rcases List.mem_cons.1 hx with rfl | hx
    · exact both.1
    · exact path_in rest _ both.2 x hx

/-- A region that leaves its order open, walked once, by a path. -/
theorem wp_region_path {id : Nat} {a : Act} {w : World} (path : List (Nat × Nat)) (hm : P.follows .mixedOrders = true) (hs : Region.noSelect ops = true) (hl : path.length = ops.size)
    (hk : pathOk P .any ops path (Array.replicate ops.size false) = true) (h : wpParts P ops (Sure Q) (parts ops path) a w.drew) : (Code.region id ops true).wp P Q a w := by
  refine Code.wp_mono Sure.imp (wp_region_any hm (wpAny_of_C (S := Grow w.drew) (c := nextCut ops.size path) _ _ _ _ ?_))
  rw [← hl]
  obtain ⟨p, b, s, t, e⟩ := parts_ne (ops := ops) path
  have hin := path_in path _ hk
  rw [e] at h
  have := held_path hs (fun _ _ _ h => h) (fun ⟨_, _, h⟩ => h) path _ a w.drew hk (path_parts path hin _ a _ p b s t e h.1 h.2)
  rw [← hl] at this
  exact this
theorem parts_step {s : List Oper} {t : List Part} {a : Act} {w : World}
    (h : ∀ K : Act → World → Prop, Hid (∀ a' w', Grow w w' → wpParts P ops Q t a' w' → K a' w') → wpList P ops (Exit.then K Q) s a w) : wpParts P ops Q ((none, false, s) :: t) a w :=
  ⟨fun _ e => by (cases e), h _ fun _ _ hg h' => ⟨fun _ => hg, h'⟩⟩
theorem parts_step2 {o : Oper} {s : List Oper} {t : List Part} {a : Act} {w : World} (hl : Region.wanted o (yielded ops a.tmps) = true → Looks P (execOp a.eval o))
    (h : ∀ K : Act → World → Prop, Hid (∀ a' w', Grow w w' → wpParts P ops Q t a' w' → K a' w') → wpList P ops (Exit.then K Q) s a w) : wpParts P ops Q ((some o, false, s) :: t) a w :=
  ⟨fun _ e hw => by (cases e; exact hl hw), h _ fun _ _ hg h' => ⟨fun _ => hg, h'⟩⟩
/-- A part that ends with what may change what was there. -/
theorem parts_cut {s : List Oper} {t : List Part} {a : Act} {w : World}
    (h : ∀ K : Act → World → Prop, Hid (∀ a' w', wpParts P ops Q t a' w' → K a' w') → wpList P ops (Exit.then K Q) s a w) : wpParts P ops Q ((none, true, s) :: t) a w :=
  ⟨fun _ e => by (cases e), h _ fun _ _ h' => ⟨fun e => by (cases e), h'⟩⟩
theorem parts_cut2 {o : Oper} {s : List Oper} {t : List Part} {a : Act} {w : World} (hl : Region.wanted o (yielded ops a.tmps) = true → Looks P (execOp a.eval o))
    (h : ∀ K : Act → World → Prop, Hid (∀ a' w', wpParts P ops Q t a' w' → K a' w') → wpList P ops (Exit.then K Q) s a w) : wpParts P ops Q ((some o, true, s) :: t) a w :=
  ⟨fun _ e hw => by (cases e; exact hl hw), h _ fun _ _ h' => ⟨fun e => by (cases e), h'⟩⟩
theorem parts_done {a : Act} {w : World} (h : Q .normal a w) : wpParts P ops (Sure Q) [] a w := h
end
end Go.Proofs.Ytikdncgjaomlcaa
