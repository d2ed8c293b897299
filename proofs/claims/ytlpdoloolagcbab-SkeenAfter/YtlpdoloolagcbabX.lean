/- Regions that leave their order open: what only moves a slot may also come up behind what changes memory. -/
import Derived.Test.YtlpdoloolagcbabP
namespace Go.Proofs.Ytlpdoloolagcbab
open Go.RowKit

section
variable {P : Program} {ops : Array Oper} {Q : Exit → Act → World → Prop}
theorem C_of_any {md : Region.Mode} : ∀ (fuel : Nat) (listed : Array Bool) (a : Act) (w : World), wpAny P md ops Q fuel listed a w → wpAnyC P md ops Q (fun _ => True) ops.size fuel listed a w
  | 0, _, _, _, h => h
  | fuel + 1, listed, _, _, h => ⟨h.1, fun j hj => wpOp_mono (fun a' w' h' => .inr ⟨fun e => by
      obtain ⟨_, o, ho, _⟩ := mem_ready.1 hj
      have := (Array.getElem?_eq_some_iff.1 ho).1
      omega, trivial, C_of_any fuel _ a' w' h'⟩) (h.2 j hj)⟩
theorem any_first {md : Region.Mode} {i : Nat} {oi : Oper} {v : Value} (hi : ops[i]? = some oi) (hsel : ∀ (j : Nat) (o : Oper) cs b, ops[j]? = some o → o.op ≠ .select cs b)
    (hQ : ∀ c a w, Q (.panic c) (a.put oi.dst v) w → Q (.panic c) a w) (fuel : Nat) (listed : Array Bool) (a : Act) (w : World)
    (hf : ∀ j oj, ops[j]? = some oj → j ≠ i → listed.getD j true = false → (∀ e ∈ oj.after, Region.binds md e = true → e.on ≠ i) → oi.apart ops oj = true)
    (hr : i ∈ Region.ready md ops listed) (hy : YieldsIf P ops (fun _ => True) oi v a) (h : wpAny P md ops Q fuel (listed.setIfInBounds i true) (a.put oi.dst v) w) : wpAny P md ops Q (fuel + 1) listed a w :=
  wpAny_of_C _ _ _ _ (wpAnyC_first (W := []) (c := ops.size) hi hsel hQ (fun x hx => by cases hx) (fun e => by have := (Array.getElem?_eq_some_iff.1 hi).1; omega) (.inl (Nat.le_refl _)) fuel listed a w hf (fun x hx => by cases hx) hr hy trivial (C_of_any _ _ _ _ h))
/-- What yields the same in every world may be taken first, though what cuts may come up ahead of it. -/
theorem C_first_all {md : Region.Mode} {S : World → Prop} {c i : Nat} {oi : Oper} {v : Value} (hi : ops[i]? = some oi) (hsel : ∀ (j : Nat) (o : Oper) cs b, ops[j]? = some o → o.op ≠ .select cs b)
    (hQ : ∀ c a w, Q (.panic c) (a.put oi.dst v) w → Q (.panic c) a w) (hic : i ≠ c) :
    ∀ (fuel : Nat) (listed : Array Bool) (a : Act) (w : World),
      (∀ j oj, ops[j]? = some oj → j ≠ i → listed.getD j true = false → (∀ e ∈ oj.after, Region.binds md e = true → e.on ≠ i) → oi.apart ops oj = true) →
      i ∈ Region.ready md ops listed → YieldsIf P ops (fun _ => True) oi v a → S w →
      wpAnyC P md ops Q S c fuel (listed.setIfInBounds i true) (a.put oi.dst v) w → wpAnyC P md ops Q S c (fuel + 1) listed a w := by
  intro fuel
  induction fuel with
  | zero =>
    intro listed a w _ hr hy hS H
    refine ⟨fun h => (by rw [h] at hr; cases hr), fun j hj => ?_⟩
    by_cases hji : j = i
    · subst hji; exact hy.wpOp hi trivial (.inr ⟨hic, hS, H⟩)
    · have := ready_mono hj hji
      rw [H.1] at this
      cases this
  | succ fuel ih =>
    intro listed a w hfree hr hy hS H
    refine ⟨fun h => (by rw [h] at hr; cases hr), fun j hj => ?_⟩
    by_cases hji : j = i
    · subst hji; exact hy.wpOp hi trivial (.inr ⟨hic, hS, H⟩)
    · have h1 := H.2 j (ready_mono hj hji)
      have hiun := (mem_ready.1 hr).1
      obtain ⟨hjun, oj, hoj, hall⟩ := mem_ready.1 hj
      have hnot : ∀ e ∈ oj.after, Region.binds md e = true → e.on ≠ i := fun e he hb heq => by
        have h1 := hall e he hb
        have h0 := hiun
        rw [heq] at h1
        rcases Nat.lt_or_ge i listed.size with h' | h'
        · simp [h'] at h0 h1; rw [h0] at h1; cases h1
        · simp [Array.getElem?_eq_none h'] at h1
      have h2 := wpOp_putIf hoj (hfree j oj hoj hji hjun hnot) (fun cs b => hsel i oi cs b hi) (fun cs b => hsel j oj cs b hoj) hQ hy h1
      have hfree' : ∀ k ok, ops[k]? = some ok → k ≠ i → (listed.setIfInBounds j true).getD k true = false →
          (∀ e ∈ ok.after, Region.binds md e = true → e.on ≠ i) → oi.apart ops ok = true := fun k ok hk hki hun hno => by
        refine hfree k ok hk hki ?_ hno
        by_cases hjk : j = k
        · subst hjk; exact hjun
        · rw [getD_set_ne true hjk] at hun; exact hun
      refine wpOp_mono (fun a' w' h3 => ?_) h2
      have hr' := ready_mono hr (Ne.symm hji)
      rcases h3.2 with h4 | h4
      · refine .inl ⟨h4.1, any_first hi hsel hQ fuel _ a' w' hfree' hr' h3.1 ?_⟩
        rw [Array.setIfInBounds_comm _ _ hji]
        exact h4.2
      · refine .inr ⟨h4.1, h4.2.1, ih (listed.setIfInBounds j true) a' w' hfree' hr' h3.1 h4.2.1 ?_⟩
        rw [Array.setIfInBounds_comm _ _ hji]
        exact h4.2.2
def isMove (o : Oper) : Bool := match o.op with
  | .move _ => true
  | _ => false
theorem isMove_run {o : Oper} (h : isMove o = true) (f : Operand → Value) : ∃ v, ∀ w, (execOp f o).run P w = .ok (.value v) w := by
  unfold isMove at h
  cases ho : o.op with
  | move x => exact ⟨f x, fun w => by simp [execOp, ho]⟩
  | _ => rw [ho] at h; cases h
theorem path_take_move {md : Region.Mode} (hs : Region.noSelect ops = true) (hp : ∀ c a w, ¬ Q (.panic c) a w) (ho : ¬ LetsOut Q) {i c n : Nat} {o : Oper} {listed : Array Bool} {a : Act} {w : World} {K : Act → World → Prop} (hi : ops[i]? = some o)
    (hm : isMove o = true) (h2 : Region.free md ops listed i = true) (h3 : (Region.ready md ops listed).contains i = true) (hic : i ≠ c)
    (hK : ∀ a', K a' w → wpAnyC P md ops Q (Grow w) c n (listed.setIfInBounds i true) a' w) (h : wpOp P ops Q i K a w) : wpAnyC P md ops Q (Grow w) c (n + 1) listed a w := by
  have hQ : ∀ v c a w, Q (.panic c) (a.put o.dst v) w → Q (.panic c) a w := fun v c a w h => (hp _ _ _ h).elim
  obtain ⟨v, hv⟩ := isMove_run (P := P) hm a.eval
  simp only [wpOp, hi] at h
  split at h
  · rename_i hw
    rcases h with h | ⟨_, hl⟩
    · unfold Oper.wp at h
      rw [hv w] at h
      exact C_first_all hi (Region.noSelect_spec hs) (hQ v) hic n listed a w (Region.free_spec hi h2) (by simpa using h3) (Or.inl ⟨hw, fun w _ => hv w⟩) (Grow.refl _) (hK _ h)
    · exact (ho hl).elim
  · rename_i hw
    exact C_first_all hi (Region.noSelect_spec hs) (hQ undef) hic n listed a w (Region.free_spec hi h2) (by simpa using h3) (Or.inr ⟨by simpa using hw, rfl⟩) (Grow.refl _) (hK _ h)
def pathOk2 (P : Program) (md : Region.Mode) (ops : Array Oper) : List (Nat × Nat) → Array Bool → Bool
  | [], listed => (Region.ready md ops listed).isEmpty
  | (i, 0) :: rest, listed => ((ops[i]?).map (isReader P)).getD false && Region.free md ops listed i && (Region.ready md ops listed).contains i && (i != nextCut ops.size rest) && (((ops[i]?).map isMove).getD false || barred md ops listed i (nextCut ops.size rest)) && pathOk2 P md ops rest (listed.setIfInBounds i true)
  | (i, 1) :: rest, listed => (Region.ready md ops listed == [i]) && (i != nextCut ops.size rest) && pathOk2 P md ops rest (listed.setIfInBounds i true)
  | (i, 3) :: rest, listed => (Region.ready md ops listed == [i]) && pathOk2 P md ops rest (listed.setIfInBounds i true)
  | (i, _) :: rest, listed => (ops[i]?).isSome && Region.free md ops listed i && (Region.ready md ops listed).contains i && (i != nextCut ops.size rest) && barred md ops listed i (nextCut ops.size rest) && pathOk2 P md ops rest (listed.setIfInBounds i true)
theorem held_path2 (hs : Region.noSelect ops = true) (hp : ∀ c a w, ¬ Q (.panic c) a w) (ho : ¬ LetsOut Q) {md : Region.Mode} : ∀ (path : List (Nat × Nat)) (listed : Array Bool) (a : Act) (w : World),
    pathOk2 P md ops path listed = true → wpPath P ops Q path w a w → wpAnyC P md ops Q (Grow w) (nextCut ops.size path) path.length listed a w
  | [], listed, a, w, hk, h => wpAnyC_done (by simpa [pathOk2] using hk) h _
  | (i, 0) :: rest, listed, a, w, hk, h => by
    simp only [pathOk2, Bool.and_eq_true, bne_iff_ne, Bool.or_eq_true] at hk
    obtain ⟨⟨⟨⟨⟨h1, h2⟩, h3⟩, hic⟩, hb⟩, h4⟩ := hk
    cases hi : ops[i]? with
    | none => rw [hi] at h1; cases h1
    | some o =>
      rw [hi] at h1 hb
      simp only [Option.map_some, Option.getD_some] at h1 hb
      rcases hb with hm | hb
      · exact path_take_move hs hp ho hi hm h2 h3 hic (fun a' h' => held_path2 hs hp ho rest _ a' w h4 h') h
      · exact path_take hs hp ho hi (fun _ => isReader_looks h1 a.eval) h2 h3 hic hb (fun a' h' => held_path2 hs hp ho rest _ a' w h4 h') h
  | (i, 1) :: rest, listed, a, w, hk, h => by
    simp only [pathOk2, Bool.and_eq_true, beq_iff_eq, bne_iff_ne] at hk
    refine ⟨fun h0 => (by rw [hk.1.1] at h0; cases h0), fun j hj => ?_⟩
    rw [hk.1.1] at hj
    obtain rfl : j = i := by simpa using hj
    exact wpOp_mono (fun a' w' h' => .inr ⟨hk.1.2, h'.1, wpAnyC_weaken (fun x hx => h'.1.trans hx) _ _ _ _ (held_path2 hs hp ho rest _ a' w' hk.2 h'.2)⟩) h
  | (i, 2) :: rest, listed, a, w, hk, h => by
    simp only [pathOk2, Bool.and_eq_true, bne_iff_ne] at hk
    obtain ⟨⟨⟨⟨⟨h1, h2⟩, h3⟩, hic⟩, hb⟩, h4⟩ := hk
    cases hi : ops[i]? with
    | none => rw [hi] at h1; cases h1
    | some o => exact path_take hs hp ho hi (h.1 o hi) h2 h3 hic hb (fun a' h' => held_path2 hs hp ho rest _ a' w h4 h') h.2
  | (i, 3) :: rest, listed, a, w, hk, h => by
    simp only [pathOk2, Bool.and_eq_true, beq_iff_eq] at hk
    refine ⟨fun h0 => (by rw [hk.1] at h0; cases h0), fun j hj => ?_⟩
    rw [hk.1] at hj
    obtain rfl : j = i := by simpa using hj
    exact wpOp_mono (fun a' w' h' => .inl ⟨rfl, wpAny_of_C _ _ _ _ (held_path2 hs hp ho rest _ a' w' hk.2 h')⟩) h
  | (i, k + 4) :: rest, listed, a, w, hk, h => by
    simp only [pathOk2, Bool.and_eq_true, bne_iff_ne] at hk
    obtain ⟨⟨⟨⟨⟨h1, h2⟩, h3⟩, hic⟩, hb⟩, h4⟩ := hk
    cases hi : ops[i]? with
    | none => rw [hi] at h1; cases h1
    | some o => exact path_take hs hp ho hi (h.1 o hi) h2 h3 hic hb (fun a' h' => held_path2 hs hp ho rest _ a' w h4 h') h.2
theorem path_in2 {md : Region.Mode} : ∀ (path : List (Nat × Nat)) (listed : Array Bool), pathOk2 P md ops path listed = true → ∀ x ∈ path, ∃ o, ops[x.1]? = some o
  | [], _, _, x, hx => by cases hx
  | (i, k) :: rest, listed, hk, x, hx => by
    have alone : Region.ready md ops listed = [i] → ∃ o, ops[i]? = some o := fun h => by
      have hm : i ∈ Region.ready md ops listed := by rw [h]; simp
      obtain ⟨_, o, ho, _⟩ := mem_ready.1 hm
      exact ⟨o, ho⟩
    have both : (∃ o, ops[i]? = some o) ∧ pathOk2 P md ops rest (listed.setIfInBounds i true) = true := by
      match k with
      | 0 =>
        simp only [pathOk2, Bool.and_eq_true] at hk
        refine ⟨?_, hk.2⟩
        cases hi : ops[i]? with
        | none => rw [hi] at hk; cases hk.1.1.1.1.1
        | some o => exact ⟨o, rfl⟩
      | 1 =>
        simp only [pathOk2, Bool.and_eq_true, beq_iff_eq] at hk
        exact ⟨alone hk.1.1, hk.2⟩
      | 2 =>
        simp only [pathOk2, Bool.and_eq_true] at hk
        exact ⟨Option.isSome_iff_exists.1 hk.1.1.1.1.1, hk.2⟩
      | 3 =>
        simp only [pathOk2, Bool.and_eq_true, beq_iff_eq] at hk
        exact ⟨alone hk.1, hk.2⟩
      | k + 4 =>
        simp only [pathOk2, Bool.and_eq_true] at hk
        exact ⟨Option.isSome_iff_exists.1 hk.1.1.1.1.1, hk.2⟩
    rcases List.mem_cons.1 hx with rfl | hx
    · exact both.1
    · exact path_in2 rest _ both.2 x hx
theorem wp_region_path2 {id : Nat} {a : Act} {w : World} (path : List (Nat × Nat)) (hm : P.follows .mixedOrders = true) (hs : Region.noSelect ops = true) (hl : path.length = ops.size)
    (hk : pathOk2 P .any ops path (Array.replicate ops.size false) = true) (h : wpParts P ops (Sure Q) (parts ops path) a w.drew) : (Code.region id ops true).wp P Q a w := by
  refine Code.wp_mono Sure.imp (wp_region_any hm (wpAny_of_C (S := Grow w.drew) (c := nextCut ops.size path) _ _ _ _ ?_))
  rw [← hl]
  obtain ⟨p, b, s, t, e⟩ := parts_ne (ops := ops) path
  have hin := path_in2 path _ hk
  rw [e] at h
  have := held_path2 hs (fun _ _ _ h => h) (fun ⟨_, _, h⟩ => h) path _ a w.drew hk (path_parts path hin _ a _ p b s t e h.1 h.2)
  rw [← hl] at this
  exact this
end
end Go.Proofs.Ytlpdoloolagcbab
