/- Operations that only look answer the same in a world that has grown. -/
import Derived.Test.YtikdncgjaomlcaaS
namespace Go.Proofs.Ytikdncgjaomlcaa
open Go.RowKit

section
variable {P : Program}
/-- What comes to an end leaves the world as it was, and comes to the same end in every world that has grown from it. -/
def Steady (P : Program) {α : Type} (s : Sem α) : Prop := ∀ (w : World) (x : α) (w1 : World), s.run P w = .ok x w1 → w1 = w ∧ ∀ w', Grow w w' → s.run P w' = .ok x w'
/-- It comes to no end. -/
def Dead (P : Program) {α : Type} (s : Sem α) : Prop := ∀ (w : World) (x : α) (w1 : World), s.run P w ≠ .ok x w1

theorem Steady.pure {α : Type} (x : α) : Steady P (Pure.pure x : Sem α) := fun w y w1 h => by
  have h' : Result.ok x w = Result.ok y w1 := h
  cases h'
  exact ⟨rfl, fun w' _ => rfl⟩
theorem Steady.bind {α β : Type} {s : Sem α} {f : α → Sem β} (hs : Steady P s) (hf : ∀ x, Steady P (f x)) : Steady P (s >>= f) := fun w y w1 h => by
  rw [Sem.run_bind] at h
  cases hr : s.run P w with
  | halt e w2 => rw [hr] at h; cases h
  | ok x w2 =>
    obtain ⟨rfl, hs'⟩ := hs w x w2 hr
    rw [hr] at h
    obtain ⟨rfl, hf'⟩ := hf x w2 y w1 h
    exact ⟨rfl, fun w' hg => by rw [Sem.run_bind, hs' w' hg]; exact hf' w' hg⟩
theorem Dead.steady {α : Type} {s : Sem α} (h : Dead P s) : Steady P s := fun w x w1 e => absurd e (h w x w1)
theorem Dead.halt {α : Type} (h : Halt) : Dead P (Sem.halt h : Sem α) := fun _ _ _ e => by cases e
theorem Dead.bind {α β : Type} {s : Sem α} {f : α → Sem β} (hf : ∀ x, Dead P (f x)) : Dead P (s >>= f) := fun w y w1 h => by
  rw [Sem.run_bind] at h
  cases hr : s.run P w with
  | halt e w2 => rw [hr] at h; cases h
  | ok x w2 => rw [hr] at h; exact hf x w2 y w1 h
theorem Steady.stuck {α : Type} (s : String) : Steady P (stuck s : Sem α) := (Dead.halt _).steady
theorem Steady.unsupported {α : Type} (s : Unsupported) : Steady P (unsupported s : Sem α) := (Dead.halt _).steady
theorem Steady.program : Steady P program := fun w x w1 h => by
  have h' : Result.ok P w = Result.ok x w1 := h
  cases h'
  exact ⟨rfl, fun w' _ => rfl⟩
theorem Dead.bounds {α : Type} (k : IntKind) (x y : Int) (c : BoundsCode) : Dead P (boundsPanic k x y c : Sem α) :=
  by
  unfold boundsPanic
  simp only
  split
  · exact Dead.bind fun _ => Dead.bind fun _ => Dead.halt _
  · exact Dead.bind fun _ => Dead.bind fun _ => Dead.halt _
theorem grow_block {w w' : World} {b : Nat} {o : Obj} (hg : Grow w w') (h : w.heap[b]? = some o) : w'.heap[b]? = some o := (Below.block hg b (lt_of_block h)).trans h

theorem seen_none {w : World} {at_ : Addr} {u : TypeId} {k : Addr} {b : Bool} (h : w.heap[at_.block]? = none) : ∃ e, w.seen P at_ u k b = .error e := by
  unfold World.seen
  by_cases h0 : (k.spot.isSome || at_.spot.isSome) = true
  · rw [if_pos h0]; exact ⟨_, rfl⟩
  · rw [if_neg h0]
    cases h1 : plainCell P P.depth u k.off with
    | none => exact ⟨_, rfl⟩
    | some like =>
      simp only
      cases h2 : like.bytes?.map (·.length) with
      | none => exact ⟨_, rfl⟩
      | some size =>
        simp only
        cases h3 : byteOfCell P P.depth u k.off with
        | none => exact ⟨_, rfl⟩
        | some β => simp only [h]; exact ⟨_, rfl⟩
theorem viewLoad_same {w w' : World} {at_ : Addr} {u : TypeId} {k : Addr} {b : Bool} {r : Value × List Addr} (hg : Grow w w') (h : w.viewLoad P at_ u k b = .ok r) : w'.viewLoad P at_ u k b = .ok r := by
  cases hb : w.heap[at_.block]? with
  | some o =>
    have e := grow_block hg hb
    rw [← h]
    unfold World.viewLoad World.seen
    rw [hb, e]
  | none =>
    obtain ⟨e, he⟩ := seen_none (P := P) (u := u) (k := k) (b := b) hb
    unfold World.viewLoad at h
    rw [he] at h
    cases h
theorem Steady.load (m : Mode) (a : Addr) : Steady P (Sem.load m a Sem.pure) := fun w x w1 h => by
  unfold Sem.run at h
  cases hc : w.cell? a with
  | some v =>
    rw [hc] at h
    have h' : Result.ok v w = Result.ok x w1 := h
    cases h'
    exact ⟨rfl, fun w' hg => by unfold Sem.run; rw [cell_grow hg hc]; rfl⟩
  | none =>
    rw [hc] at h
    simp only at h
    cases hf : w.farLoad P a (m == .atomic) with
    | error e => rw [hf] at h; cases h
    | ok r =>
      rw [hf] at h
      have h' : Result.ok r.1 w = Result.ok x w1 := h
      cases h'
      refine ⟨rfl, fun w' hg => ?_⟩
      unfold World.farLoad at hf
      cases hb : w.heap[a.block]? with
      | none => rw [hb] at hf; cases hf
      | some o =>
        have e := grow_block hg hb
        have ec : w'.cell? a = none := by rw [← hc]; exact World.cell?_of_block (w := w) (e.trans hb.symm)
        unfold Sem.run
        rw [ec]
        simp only
        rw [hb] at hf
        unfold World.farLoad
        rw [e]
        cases o with
        | view at_ u =>
          simp only at hf ⊢
          cases hv : w.viewLoad P at_ u a (m == .atomic) with
          | error s => rw [hv] at hf; cases hf
          | ok r' =>
            rw [hv] at hf
            cases hf
            rw [viewLoad_same hg hv]
            rfl
        | _ => cases hf

theorem Steady.getObj (r : Nat) : Steady P (getObj r) := fun w x w1 h => by
  unfold Go.getObj Sem.run at h
  cases hb : w.heap[r]? with
  | none => rw [hb] at h; cases h
  | some o =>
    rw [hb] at h
    cases o with
    | cells c t f => cases h
    | _ =>
      cases h
      exact ⟨rfl, fun w' hg => by unfold Go.getObj Sem.run; rw [grow_block hg hb]; rfl⟩

theorem Steady.underlying (t : TypeId) : Steady P (underlying t) := by
  refine Steady.bind Steady.program fun p => ?_
  split
  · exact Steady.pure _
  · exact Steady.stuck _
theorem Steady.typeInfo (t : TypeId) : Steady P (typeInfo t) := by
  refine Steady.bind Steady.program fun p => ?_
  split
  · exact Steady.pure _
  · exact Steady.stuck _
theorem Steady.sizeOf (t : TypeId) : Steady P (sizeOf t) := Steady.bind (Steady.typeInfo t) fun _ => Steady.pure _
theorem Steady.isAgg (t : TypeId) : Steady P (isAgg t) := by
  refine Steady.bind (Steady.underlying t) fun d => ?_
  split <;> exact Steady.pure _
theorem Steady.loadCellsFrom (a : Addr) : ∀ (n i : Nat) (acc : Array Value), Steady P (loadCellsFrom a i n acc)
  | 0, _, _ => Steady.pure _
  | n + 1, i, acc => Steady.bind (Steady.load _ _) fun v => Steady.loadCellsFrom a n (i + 1) (acc.push v)
theorem Steady.loadVar (t : TypeId) (a : Addr) : Steady P (loadVar t a) := by
  refine Steady.bind (Steady.isAgg t) fun b => ?_
  split
  · exact Steady.bind (Steady.sizeOf t) fun n => Steady.bind (Steady.loadCellsFrom a n 0 #[]) fun _ => Steady.pure _
  · exact Steady.load _ _
theorem Steady.sureAddr (v : Value) : Steady P (Instr.sureAddr v) := by
  unfold Instr.sureAddr
  split
  · exact Steady.pure _
  · exact Steady.stuck _
theorem Steady.loadAt (t : TypeId) (v : Value) : Steady P (Instr.loadAt t v) := Steady.bind (Steady.sureAddr v) fun a => Steady.loadVar t a
theorem Steady.extract (v : Value) (n : Nat) : Steady P (Instr.extract v n) := by
  unfold Instr.extract
  split
  · split
    · exact Steady.pure _
    · exact Steady.stuck _
  · exact Steady.stuck _
theorem Steady.asBool (v : Value) : Steady P (asBool v) := by
  unfold Go.asBool
  split
  · exact Steady.pure _
  · exact Steady.stuck _
theorem Steady.asIntOf (v : Value) : Steady P (asIntOf v) := by
  unfold Go.asIntOf
  split
  · exact Steady.pure _
  · exact Steady.unsupported _
  · exact Steady.stuck _
theorem Steady.indexAt (t : TypeId) (x i : Value) : Steady P (Instr.indexAt t x i) := by
  unfold Instr.indexAt
  refine Steady.bind (Steady.asIntOf _) fun ki => ?_
  refine Steady.bind (Steady.underlying _) fun d => ?_
  simp only
  split
  all_goals first
    | refine Steady.bind (Steady.sureAddr _) fun _ => Steady.bind (Steady.pure _) fun y => ?_
    | refine Steady.bind (Steady.pure _) fun y => ?_
    | refine Steady.bind (Steady.stuck _) fun y => ?_
  all_goals
    obtain ⟨base, len, elem⟩ := y
    refine Steady.bind (Steady.underlying _) fun d => ?_
    simp only
    repeat' split
    all_goals first
      | exact Steady.bind (Steady.sizeOf _) fun _ => Steady.pure _
      | exact Steady.unsupported _
      | exact (Dead.bounds _ _ _ _).steady
theorem Steady.len (ts : Array TypeId) (t : TypeId) (args : Array Value) : Steady P (Builtin.len_ ts t args) := by
  unfold Builtin.len_
  split
  · refine Steady.bind (Steady.underlying _) fun d => ?_
    split
    · exact Steady.pure _
    · exact Steady.pure _
    · refine Steady.bind (Steady.underlying _) fun d => ?_
      split
      · exact Steady.pure _
      · exact Steady.stuck _
    · exact Steady.pure _
    · exact Steady.pure _
    · exact Steady.pure _
    · refine Steady.bind (Steady.getObj _) fun o => ?_
      split
      · exact Steady.pure _
      · exact Steady.stuck _
    · refine Steady.bind (Steady.getObj _) fun o => ?_
      split
      · exact Steady.pure _
      · exact Steady.stuck _
    · exact Steady.stuck _
  · exact Steady.stuck _

/-- A field that has cells. -/
def fieldOk (P : Program) (s : TypeId) (i : Nat) : Bool :=
  match P.underlying s with
  | some (.struct fs) => match fs[i]? with
    | some f => match P.info? f.type with
      | some t => t.size != 0
      | none => true
    | none => true
  | _ => true
theorem Steady.bind' {α β : Type} {s : Sem α} {f : α → Sem β} (hs : Steady P s) (hf : ∀ w x, s.run P w = .ok x w → Steady P (f x)) : Steady P (s >>= f) := fun w y w1 h => by
  rw [Sem.run_bind] at h
  cases hr : s.run P w with
  | halt e w2 => rw [hr] at h; cases h
  | ok x w2 =>
    obtain ⟨rfl, hs'⟩ := hs w x w2 hr
    rw [hr] at h
    obtain ⟨rfl, hf'⟩ := hf w2 x hr w2 y w1 h
    exact ⟨rfl, fun w' hg => by rw [Sem.run_bind, hs' w' hg]; exact hf' w' hg⟩
theorem underlying_of {w : World} {t : TypeId} {d : TypeDesc} (h : (underlying t).run P w = .ok d w) : P.underlying t = some d := by
  cases hu : P.underlying t with
  | none => simp [Go.underlying, hu] at h
  | some e => simp [Go.underlying, hu] at h; rw [h]
theorem sizeOf_of {w : World} {t : TypeId} {n : Nat} (h : (sizeOf t).run P w = .ok n w) : ∃ i, P.info? t = some i ∧ i.size = n := by
  cases hu : P.info? t with
  | none => simp [Go.sizeOf, Go.typeInfo, hu] at h
  | some e => simp [Go.sizeOf, Go.typeInfo, hu] at h; exact ⟨e, rfl, h⟩
theorem Steady.fieldAt (s : TypeId) (x : Value) (i : Nat) (h : fieldOk P s i = true) : Steady P (Instr.fieldAt s x i) := by
  unfold Instr.fieldAt
  refine Steady.bind' (Steady.underlying s) fun w d hd => ?_
  have hu := underlying_of hd
  unfold fieldOk at h
  rw [hu] at h
  split
  · simp only at h
    split
    · rename_i f hf
      rw [hf] at h
      simp only at h
      refine Steady.bind (Steady.sureAddr _) fun a => Steady.bind ?_ fun _ => Steady.pure _
      refine Steady.bind' (Steady.sizeOf _) fun w n hn => ?_
      obtain ⟨t, ht, rfl⟩ := sizeOf_of hn
      rw [ht] at h
      rw [if_neg (by simpa using h)]
      exact Steady.pure _
    · exact Steady.stuck _
  · exact Steady.stuck _

/-- An operation that only looks. -/
def isReader (P : Program) (o : Oper) : Bool :=
  match o.op with
  | .move _ | .assign _ | .pick .. | .load .. | .indexAddr .. | .extract .. => true
  | .fieldAddr s _ i => fieldOk P s i
  | .unOp .not _ _ => true
  | .call c => match c.callee with
    | .builtin .len => true
    | _ => false
  | _ => false
/-- What it comes to is a value, the same in every world that has grown. -/
def Looks (P : Program) (s : Sem Next) : Prop := ∀ (w : World) (x : Next) (w1 : World), s.run P w = .ok x w1 → ∃ v, x = .value v ∧ w1 = w ∧ ∀ w', Grow w w' → s.run P w' = .ok (.value v) w'
theorem Looks.by {α : Type} {s : Sem α} (h : Steady P s) (g : α → Value) : Looks P (do Pure.pure (Next.value (g (← s)))) := fun w x w1 hr => by
  rw [Sem.run_bind] at hr
  cases hs : s.run P w with
  | halt e w2 => rw [hs] at hr; cases hr
  | ok v w2 =>
    obtain ⟨rfl, hs'⟩ := h w v w2 hs
    rw [hs] at hr
    have e : Result.ok (Next.value (g v)) w2 = Result.ok x w1 := hr
    cases e
    exact ⟨g v, rfl, rfl, fun w' hg => by rw [Sem.run_bind, hs' w' hg]; rfl⟩
theorem Looks.of {s : Sem Value} (h : Steady P s) : Looks P (do Pure.pure (Next.value (← s))) := Looks.by h fun v => v
theorem Looks.pure (v : Value) : Looks P (Pure.pure (Next.value v)) := fun w x w1 hr => by
  have e : Result.ok (Next.value v) w = Result.ok x w1 := hr
  cases e
  exact ⟨v, rfl, rfl, fun w' _ => rfl⟩
theorem isReader_looks {o : Oper} (h : isReader P o = true) (ρ : Operand → Value) : Looks P (execOp ρ o) := by
  obtain ⟨dst, op, type, pos, after, guard⟩ := o
  cases op
  case move x => exact Looks.pure _
  case assign x => exact Looks.pure _
  case pick c a b => exact Looks.by (Steady.asBool (ρ c)) fun t => if t then ρ a else ρ b
  case load t a => exact Looks.of (Steady.loadAt _ _)
  case indexAddr t x i => exact Looks.of (Steady.indexAt _ _ _)
  case extract t i => exact Looks.of (Steady.extract _ _)
  case fieldAddr s x i => exact Looks.of (Steady.fieldAt _ _ _ h)
  case unOp u t x =>
    cases u with
    | not =>
      refine Looks.of ?_
      unfold Op.unary
      split
      all_goals first
        | exact Steady.pure _
        | exact Steady.unsupported _
        | exact Steady.stuck _
        | (rename_i hh; cases hh)
    | _ => cases h
  case call c =>
    obtain ⟨callee, args, argTypes⟩ := c
    cases callee with
    | builtin b =>
      cases b with
      | len => exact Looks.of (Steady.len _ _ _)
      | _ => cases h
    | _ => cases h
  all_goals cases h

variable {ops : Array Oper} {Q : Exit → Act → World → Prop}

/-- In which order a region is walked: which operation, and whether it comes up alone. -/
def planOk (P : Program) (md : Region.Mode) (ops : Array Oper) : List (Nat × Bool) → Array Bool → Bool
  | [], listed => (Region.ready md ops listed).isEmpty
  | (i, true) :: rest, listed => (Region.ready md ops listed == [i]) && planOk P md ops rest (listed.setIfInBounds i true)
  | (i, false) :: rest, listed => ((ops[i]?).map (isReader P)).getD false && Region.free md ops listed i && (Region.ready md ops listed).contains i && planOk P md ops rest (listed.setIfInBounds i true)
/-- The walk by a plan (w0: the world in which its part began). -/
def wpPlan (P : Program) (ops : Array Oper) (Q : Exit → Act → World → Prop) : List (Nat × Bool) → World → Act → World → Prop
  | [], _, a, w => Q .normal a w
  | (i, true) :: rest, w0, a, w => wpOp P ops Q i (fun a' w' => Grow w0 w' ∧ wpPlan P ops Q rest w' a' w') a w
  | (i, false) :: rest, w0, a, w => wpOp P ops Q i (wpPlan P ops Q rest w0) a w
theorem held_plan (hs : Region.noSelect ops = true) (hp : ∀ c a w, ¬ Q (.panic c) a w) (ho : ¬ LetsOut Q) {md : Region.Mode} : ∀ (plan : List (Nat × Bool)) (listed : Array Bool) (a : Act) (w : World),
    planOk P md ops plan listed = true → wpPlan P ops Q plan w a w → wpAnyH P md ops Q (Grow w) plan.length listed a w
  | [], listed, a, w, hk, h => wpAnyH_done (by simpa [planOk] using hk) h _
  | (i, true) :: rest, listed, a, w, hk, h => by
    simp only [planOk, Bool.and_eq_true, beq_iff_eq] at hk
    refine wpAnyH_all hk.1 (by simp) fun j hj => ?_
    obtain rfl : j = i := by simpa using hj
    exact wpOp_mono (fun a' w' h' => ⟨h'.1, wpAnyH_weaken (fun x hx => h'.1.trans hx) _ _ _ _ (held_plan hs hp ho rest _ a' w' hk.2 h'.2)⟩) h
  | (i, false) :: rest, listed, a, w, hk, h => by
    simp only [planOk, Bool.and_eq_true] at hk
    obtain ⟨⟨⟨h1, h2⟩, h3⟩, h4⟩ := hk
    cases hi : ops[i]? with
    | none => rw [hi] at h1; cases h1
    | some o =>
      rw [hi] at h1
      simp only [Option.map_some, Option.getD_some] at h1
      simp only [wpPlan, wpOp, hi] at h
      have hQ : ∀ v c a w, Q (.panic c) (a.put o.dst v) w → Q (.panic c) a w := fun v c a w h => (hp _ _ _ h).elim
      split at h
      · rename_i hw
        rcases h with h | ⟨_, hl⟩
        · unfold Oper.wp at h
          have hlook := isReader_looks h1 a.eval w
          cases hr : (execOp a.eval o).run P w with
          | halt e w1 =>
            rw [hr] at h
            cases e <;> first | exact h.elim | exact (hp _ _ _ h).elim
          | ok x w1 =>
            obtain ⟨v, rfl, rfl, hv⟩ := hlook x w1 hr
            rw [hr] at h
            exact wpAnyH_take hi hs h2 h3 (hQ v) (Or.inl ⟨hw, hv⟩) (Grow.refl _) (held_plan hs hp ho rest _ _ _ h4 h)
        · exact (ho hl).elim
      · rename_i hw
        exact wpAnyH_take hi hs h2 h3 (hQ undef) (Or.inr ⟨by simpa using hw, rfl⟩) (Grow.refl _) (held_plan hs hp ho rest _ _ _ h4 h)

/-- Q, but no way out by a panic, or by want of room. -/
def Sure (Q : Exit → Act → World → Prop) : Exit → Act → World → Prop
  | .panic _, _, _ => False
  | .outgrown, _, _ => False
  | e, a, w => Q e a w
theorem Sure.imp : ∀ (e : Exit) (a : Act) (w : World), Sure Q e a w → Q e a w := fun e a w h => by
  cases e <;> first | exact h | exact (h : False).elim
def consHead (o : Oper) : List (List Oper) → List (List Oper)
  | [] => [[o]]
  | s :: t => (o :: s) :: t
/-- The operations of a plan, cut behind each one that comes up alone. -/
def segs (ops : Array Oper) : List (Nat × Bool) → List (List Oper)
  | [] => [[]]
  | (i, b) :: rest =>
    match ops[i]? with
    | none => if b then [] :: segs ops rest else segs ops rest
    | some o => if b then [o] :: segs ops rest else consHead o (segs ops rest)
/-- The walk, part by part. -/
def wpSegs (P : Program) (ops : Array Oper) (Q : Exit → Act → World → Prop) : List (List Oper) → Act → World → Prop
  | [], a, w => Q .normal a w
  | seg :: rest, a, w => wpList P ops (Exit.then (fun a' w' => Grow w w' ∧ wpSegs P ops Q rest a' w') Q) seg a w
theorem wp_then {o : Oper} {a : Act} {w : World} {X K : Act → World → Prop} (h : o.wp P a w X (Exit.then K Q)) : o.wp P a w X Q := by
  unfold Oper.wp at *
  generalize (execOp a.eval o).run P w = r at *
  cases r with
  | ok n w' =>
    cases n <;> simp only [Oper.upon] at h ⊢ <;>
      first
        | exact h
        | exact Calls.mono h (fun e w'' he => by cases e <;> exact he)
  | halt x w' => cases x <;> exact h
theorem segs_ne : ∀ (plan : List (Nat × Bool)), ∃ s t, segs ops plan = s :: t
  | [] => ⟨[], [], rfl⟩
  | (i, b) :: rest => by
    obtain ⟨s, t, h⟩ := segs_ne rest
    unfold segs
    split
    · split
      · exact ⟨_, _, rfl⟩
      · exact ⟨s, t, h⟩
    · split
      · exact ⟨_, _, rfl⟩
      · rw [h]; exact ⟨_, _, rfl⟩
theorem plan_segs : ∀ (plan : List (Nat × Bool)) (w0 : World) (a : Act) (w : World) (s : List Oper) (t : List (List Oper)), segs ops plan = s :: t →
    wpList P ops (Exit.then (fun a' w' => Grow w0 w' ∧ wpSegs P ops Q t a' w') Q) s a w → wpPlan P ops Q plan w0 a w
  | [], w0, a, w, s, t, hs, h => by
    cases hs
    exact h.2
  | (i, b) :: rest, w0, a, w, s, t, hs, h => by
    obtain ⟨s', t', hr⟩ := segs_ne (ops := ops) rest
    unfold segs at hs
    cases hi : ops[i]? with
    | none =>
      rw [hi] at hs
      cases b with
      | true =>
        simp only [if_true] at hs
        cases hs
        simp only [wpPlan, wpOp, hi]
        refine ⟨h.1, ?_⟩
        have h2 := h.2
        rw [hr] at h2
        exact plan_segs rest w a w s' t' hr h2
      | false =>
        simp only [Bool.false_eq_true, if_false] at hs
        simp only [wpPlan, wpOp, hi]
        exact plan_segs rest w0 a w s t hs h
    | some o =>
      rw [hi] at hs
      cases b with
      | true =>
        simp only [if_true] at hs
        cases hs
        simp only [wpPlan, wpOp, hi]
        simp only [wpList] at h
        split at h
        · rename_i hw
          rw [if_pos hw]
          refine h.imp (fun h => wp_then (Oper.wp_mono (fun a' w' h' => ⟨h'.1, ?_⟩) h)) id
          have h2 := h'.2
          rw [hr] at h2
          exact plan_segs rest w' a' w' s' t' hr h2
        · rename_i hw
          rw [if_neg hw]
          refine ⟨h.1, ?_⟩
          have h2 := h.2
          rw [hr] at h2
          exact plan_segs rest w _ w s' t' hr h2
      | false =>
        simp only [Bool.false_eq_true, if_false] at hs
        rw [hr] at hs
        cases hs
        simp only [wpPlan, wpOp, hi]
        simp only [wpList] at h
        split at h
        · rename_i hw
          rw [if_pos hw]
          exact h.imp (fun h => wp_then (Oper.wp_mono (fun a' w' h' => plan_segs rest w0 a' w' s' _ hr h') h)) id
        · rename_i hw
          rw [if_neg hw]
          exact plan_segs rest w0 _ w s' _ hr h

/-- A region that leaves its order open, walked once, by a plan. -/
theorem wp_region_plan {id : Nat} {a : Act} {w : World} (plan : List (Nat × Bool)) (hm : P.follows .mixedOrders = true) (hs : Region.noSelect ops = true) (hl : plan.length = ops.size)
    (hk : planOk P .any ops plan (Array.replicate ops.size false) = true) (h : wpSegs P ops (Sure Q) (segs ops plan) a w.drew) : (Code.region id ops true).wp P Q a w := by
  refine Code.wp_mono Sure.imp (wp_region_held (S := Grow w.drew) hm ?_)
  rw [← hl]
  obtain ⟨s, t, e⟩ := segs_ne (ops := ops) plan
  rw [e] at h
  refine held_plan hs (fun _ _ _ h => h) (fun ⟨_, _, h⟩ => h) plan _ a w.drew ?_ (plan_segs plan _ a _ s t e h)
  rw [hl]
  exact hk
/-- One part of the walk. -/
theorem segs_step {seg : List Oper} {rest : List (List Oper)} {a : Act} {w : World}
    (h : ∀ K : Act → World → Prop, Hid (∀ a' w', Grow w w' → wpSegs P ops Q rest a' w' → K a' w') → wpList P ops (Exit.then K Q) seg a w) : wpSegs P ops Q (seg :: rest) a w :=
  h _ fun _ _ hg h' => ⟨hg, h'⟩
theorem segs_done {a : Act} {w : World} (h : Q .normal a w) : wpSegs P ops (Sure Q) [] a w := h
end
end Go.Proofs.Ytikdncgjaomlcaa
