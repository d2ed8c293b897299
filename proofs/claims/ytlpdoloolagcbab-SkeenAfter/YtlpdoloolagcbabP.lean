/- What the walks lean on: worlds that only grow, blocks, rows, and regions whose order is left open. -/
import Derived.Test.YtlpdoloolagcbabRows
import Derived.WalkKit
import Derived.WalkSpells
import Derived.StillTactics
import Derived.Laws.Pointers
import Derived.Deep.RegionHeld3
import Derived.Deep.RegionLaw
import Derived.Deep.AppendLies
import Derived.Deep.QuietTactic
import Derived.Deep.DrawnRows
import Derived.BigQuiet
import Derived.RowKit3
namespace Go.Proofs.Ytlpdoloolagcbab
open Go.RowKit

/-- The world has grown: all that was there is as it was. -/
def Grow (w w' : World) : Prop := Below w.heap.size w w'
theorem Grow.refl (w : World) : Grow w w := Below.refl _ _
theorem Grow.size {w w' : World} (h : Grow w w') : w.heap.size ≤ w'.heap.size := Below.size h
theorem Grow.trans {a b c : World} (h : Grow a b) (k : Grow b c) : Grow a c := Below.trans h (Below.mono k (Below.size h))
theorem Grow.drew {a b : World} (h : Grow a b) : Grow a b.drew := Below.drew h
theorem Grow.drewN {a b : World} (h : Grow a b) (n : Nat) : Grow a (b.drewN n) := Below.trans h ⟨rfl, rfl, rfl, Nat.le_refl _, fun _ _ => rfl⟩
theorem Grow.alloc {a b : World} (h : Grow a b) (o : Obj) : Grow a (b.alloc o) := Below.alloc h (Below.size h) o
theorem Grow.setCell {a b : World} (h : Grow a b) {p : Addr} (hp : a.heap.size ≤ p.block) (u : Value) : Grow a (b.setCell p u) := Below.setCell h hp u
theorem cell_lt {w : World} {a : Addr} {v : Value} (h : w.cell? a = some v) : a.block < w.heap.size := World.block_lt_of_cell? w a h
theorem cell_grow {w w' : World} {a : Addr} {v : Value} (hb : Grow w w') (h : w.cell? a = some v) : w'.cell? a = some v :=
  (Below.cell hb (p := a) (cell_lt h)).trans h
theorem frozen_grow {w w' : World} {a : Addr} {v : Value} (hb : Grow w w') (h : w.cell? a = some v) : w'.frozen? a = w.frozen? a :=
  Below.frozen hb (p := a) (cell_lt h)

theorem block_grown {w w1 : World} {row : Option Nat} {b : Nat} {o o' : Obj} (hg : (w.alloc o').grownBy w1 row) (hne : some b ≠ row) (h : w.heap[b]? = some o) : w1.heap[b]? = some o := by
  have hlt := lt_of_block h
  rw [hg.block b (by simp; omega) hne, Below.heap_alloc _ _ _ hlt, h]
theorem cell_grown {w w1 : World} {row : Option Nat} {a : Addr} {v : Value} {o' : Obj} (hg : (w.alloc o').grownBy w1 row) (hne : some a.block ≠ row) (h : w.cell? a = some v) : w1.cell? a = some v := by
  have hlt := cell_lt h
  have e : w1.heap[a.block]? = w.heap[a.block]? := by rw [hg.block a.block (by simp; omega) hne, Below.heap_alloc _ _ _ hlt]
  exact (World.cell?_of_block (w := w) e).trans h
theorem own_ne {w : World} {base : Nat} {e : TypeId} {size : Nat} {v : Value} {n : Nat} {xs : List Value} (h : w.ownsRow base e size v n xs) {b : Nat} (hb : b < base) : some b ≠ v.ownBlock := by
  intro he
  have := (h.lt b he.symm).1
  omega
theorem cell_of_block {w : World} {b o : Nat} {cs : Array Value} {t : TypeId} {v : Value} (h : w.heap[b]? = some (.cells cs t (0, 0))) (hv : cs[o]? = some v) : w.cell? ⟨b, o, none⟩ = some v := by simp [World.cell?, h, hv]
theorem free_of_block {w : World} {b : Nat} {cs : Array Value} {t : TypeId} (h : w.heap[b]? = some (.cells cs t (0, 0))) (o : Nat) : w.frozen? ⟨b, o, none⟩ = false := by simp [World.frozen?, h]
/-- What the reader panics with. -/
theorem block_set {w : World} {b o : Nat} {cs : Array Value} {t : TypeId} {v : Value} (h : w.heap[b]? = some (.cells cs t (0, 0))) : (w.setCell ⟨b, o, none⟩ v).heap[b]? = some (.cells (cs.setIfInBounds o v) t (0, 0)) := by
  have hlt := lt_of_block h
  have h' : w.heap[b] = .cells cs t (0, 0) := by simpa [Array.getElem?_eq_getElem hlt] using h
  show (w.heap.modify b _)[b]? = _
  rw [Array.getElem?_eq_getElem (by simpa using hlt), Array.getElem_modify_self, h']
  rfl
theorem block_far {w : World} {b : Nat} {o : Obj} {a : Addr} {v : Value} (hn : b ≠ a.block) (h : w.heap[b]? = some o) : (w.setCell a v).heap[b]? = some o := (Below.heap_setCell _ _ _ _ hn).trans h

theorem ownsRow_far {w : World} {base : Nat} {e : TypeId} {size : Nat} {v : Value} {n : Nat} {xs : List Value} (h : w.ownsRow base e size v n xs) {p : Addr} (hp : p.block < base) (u : Value) : (w.setCell p u).ownsRow base e size v n xs := by
  obtain ⟨h1, h2⟩ := h
  refine ⟨h1, ?_⟩
  rcases h2 with h2 | ⟨g, cap, cur, hv, hg, hh, r⟩
  · exact .inl h2
  · exact .inr ⟨g, cap, cur, hv, hg, block_far (by omega) hh, r⟩
theorem grow_grown {w w2 w3 : World} {o : Obj} {base : Nat} {e : TypeId} {size : Nat} {v : Value} {n : Nat} {xs : List Value} (h : Grow w w2) (hown : w2.ownsRow base e size v n xs) (hb : w.heap.size ≤ base) (hg : (w2.alloc o).grownBy w3 v.ownBlock) : Grow w w3 :=
  ⟨hg.os.trans h.os, hg.tape.trans h.tape, hg.output.trans h.output, by have := hg.size; have := h.size; simp at *; omega, fun k hk => by
    have := h.size
    rw [hg.block k (by simp; omega) (own_ne hown (by omega)), Below.heap_alloc _ _ _ (by omega)]
    exact h.block k hk⟩
section
variable {P : Program} {ops : Array Oper} {Q : Exit → Act → World → Prop} {md : Region.Mode}

theorem wpAnyH_weaken {S S' : World → Prop} (hS : ∀ w, S w → S' w) : ∀ (fuel : Nat) (listed : Array Bool) (a : Act) (w : World), wpAnyH P md ops Q S fuel listed a w → wpAnyH P md ops Q S' fuel listed a w
  | 0, _, _, _, h => h
  | fuel + 1, _, _, _, h => ⟨h.1, fun i hi => wpOp_mono (fun a' w' h' => ⟨hS _ h'.1, wpAnyH_weaken hS fuel _ a' w' h'.2⟩) (h.2 i hi)⟩

/-- The beginning: no way out by a panic is let. -/
theorem held_start {id : Nat} {a : Act} {w : World} (hm : P.follows .mixedOrders = true)
    (h : wpAnyH P .any ops (NoPanic Q) (Grow w.drew) ops.size (Array.replicate ops.size false) a w.drew) : (Code.region id ops true).wp P Q a w :=
  wp_region_noPanic (wp_region_held hm h)
/-- An operation that only looks is taken first. -/
theorem held_take {i : Nat} {oi : Oper} {v : Value} {fuel : Nat} {listed : Array Bool} {a : Act} {w : World} (hi : ops[i]? = some oi)
    (hs : Region.noSelect ops = true) (hf : Region.free md ops listed i = true) (hr : (Region.ready md ops listed).contains i = true)
    (hw : Region.wanted oi (yielded ops a.tmps) = true) (hy : ∀ w', Grow w w' → (execOp a.eval oi).run P w' = .ok (.value v) w')
    (h : wpAnyH P md ops (NoPanic Q) (Grow w) fuel (listed.setIfInBounds i true) (a.put oi.dst v) w) : wpAnyH P md ops (NoPanic Q) (Grow w) (fuel + 1) listed a w :=
  wpAnyH_take hi hs hf hr (fun _ _ _ h => h) (Or.inl ⟨hw, hy⟩) (Grow.refl w) h
/-- An operation that nobody wants. -/
theorem held_skip {i : Nat} {oi : Oper} {fuel : Nat} {listed : Array Bool} {a : Act} {w : World} (hi : ops[i]? = some oi)
    (hs : Region.noSelect ops = true) (hf : Region.free md ops listed i = true) (hr : (Region.ready md ops listed).contains i = true)
    (hw : Region.wanted oi (yielded ops a.tmps) = false)
    (h : wpAnyH P md ops (NoPanic Q) (Grow w) fuel (listed.setIfInBounds i true) (a.put oi.dst undef) w) : wpAnyH P md ops (NoPanic Q) (Grow w) (fuel + 1) listed a w :=
  wpAnyH_take hi hs hf hr (fun _ _ _ h => h) (Or.inr ⟨hw, rfl⟩) (Grow.refl w) h
/-- An operation that comes up alone, and lets the world grow. -/
theorem held_call {i : Nat} {oi : Oper} {fuel : Nat} {listed : Array Bool} {a : Act} {w : World} (hi : ops[i]? = some oi) (hr : Region.ready md ops listed = [i])
    (hw : Region.wanted oi (yielded ops a.tmps) = true)
    (h : ∀ K : Act → World → Prop, (∀ a' w', Grow w w' → wpAnyH P md ops (NoPanic Q) (Grow w') fuel (listed.setIfInBounds i true) a' w' → K a' w') → oi.wp P a w K (NoPanic Q)) : wpAnyH P md ops (NoPanic Q) (Grow w) (fuel + 1) listed a w := by
  refine wpAnyH_all hr (by simp) fun j hj => ?_
  obtain rfl : j = i := by simpa using hj
  unfold wpOp
  simp only [hi, hw, if_true]
  exact .inl (h _ fun a' w' hg h' => ⟨hg, wpAnyH_weaken (fun x hx => hg.trans hx) _ _ _ _ h'⟩)
theorem held_done {listed : Array Bool} {a : Act} {w : World} (hr : Region.ready md ops listed = []) (h : Q .normal a w) (fuel : Nat) : wpAnyH P md ops (NoPanic Q) (Grow w) fuel listed a w :=
  wpAnyH_done hr (NoPanic.normal h) fuel
end

section
variable {P : Program}
/-- What comes to an end leaves the world as it was, and comes to the same end in every world that has grown from it. -/
def Steady (P : Program) {α : Type} (s : Sem α) : Prop := ∀ (w : World) (x : α) (w1 : World), s.run P w = .ok x w1 → w1 = w ∧ ∀ w', Grow w w' → s.run P w' = .ok x w'
/-- It comes to no end. -/
def Dead (P : Program) {α : Type} (s : Sem α) : Prop := ∀ (w : World) (x : α) (w1 : World), s.run P w ≠ .ok x w1

theorem Steady.pure {α : Type} (x : α) : Steady P (Pure.pure x : Sem α) := fun w y w1 h => by
  have h' : Result.ok x w = Result.ok y w1 := h
  cases h'
  exact ⟨rfl, fun w' _ => rfl⟩
theorem Steady.bind {α β : Type} {s : Sem α} {f : α → Sem β} (hs : Steady P s) (hf : ∀ x, Steady P (f x)) : Steady P (s >>= f) := fun w y w1 h => by
  rw [Sem.run_bind] at h
  cases hr : s.run P w with
  | halt e w2 => rw [hr] at h; cases h
  | ok x w2 =>
    obtain ⟨rfl, hs'⟩ := hs w x w2 hr
    rw [hr] at h
    obtain ⟨rfl, hf'⟩ := hf x w2 y w1 h
    exact ⟨rfl, fun w' hg => by rw [Sem.run_bind, hs' w' hg]; exact hf' w' hg⟩
theorem Dead.steady {α : Type} {s : Sem α} (h : Dead P s) : Steady P s := fun w x w1 e => absurd e (h w x w1)
theorem Dead.halt {α : Type} (h : Halt) : Dead P (Sem.halt h : Sem α) := fun _ _ _ e => by cases e
theorem Dead.bind {α β : Type} {s : Sem α} {f : α → Sem β} (hf : ∀ x, Dead P (f x)) : Dead P (s >>= f) := fun w y w1 h => by
  rw [Sem.run_bind] at h
  cases hr : s.run P w with
  | halt e w2 => rw [hr] at h; cases h
  | ok x w2 => rw [hr] at h; exact hf x w2 y w1 h
theorem Steady.stuck {α : Type} (s : String) : Steady P (stuck s : Sem α) := (Dead.halt _).steady
theorem Steady.unsupported {α : Type} (s : Unsupported) : Steady P (unsupported s : Sem α) := (Dead.halt _).steady
theorem Steady.program : Steady P program := fun w x w1 h => by
  have h' : Result.ok P w = Result.ok x w1 := h
  cases h'
  exact ⟨rfl, fun w' _ => rfl⟩
theorem Dead.bounds {α : Type} (k : IntKind) (x y : Int) (c : BoundsCode) : Dead P (boundsPanic k x y c : Sem α) :=
  by
  unfold boundsPanic
  simp only
  split
  · exact Dead.bind fun _ => Dead.bind fun _ => Dead.halt _
  · exact Dead.bind fun _ => Dead.bind fun _ => Dead.halt _
theorem grow_block {w w' : World} {b : Nat} {o : Obj} (hg : Grow w w') (h : w.heap[b]? = some o) : w'.heap[b]? = some o := (Below.block hg b (lt_of_block h)).trans h

theorem seen_none {w : World} {at_ : Addr} {u : TypeId} {k : Addr} {b : Bool} (h : w.heap[at_.block]? = none) : ∃ e, w.seen P at_ u k b = .error e := by
  unfold World.seen
  by_cases h0 : (k.spot.isSome || at_.spot.isSome) = true
  · rw [if_pos h0]; exact ⟨_, rfl⟩
  · rw [if_neg h0]
    cases h1 : plainCell P P.depth u k.off with
    | none => exact ⟨_, rfl⟩
    | some like =>
      simp only
      cases h2 : like.bytes?.map (·.length) with
      | none => exact ⟨_, rfl⟩
      | some size =>
        simp only
        cases h3 : byteOfCell P P.depth u k.off with
        | none => exact ⟨_, rfl⟩
        | some β => simp only [h]; exact ⟨_, rfl⟩
theorem viewLoad_same {w w' : World} {at_ : Addr} {u : TypeId} {k : Addr} {b : Bool} {r : Value × List Addr} (hg : Grow w w') (h : w.viewLoad P at_ u k b = .ok r) : w'.viewLoad P at_ u k b = .ok r := by
  cases hb : w.heap[at_.block]? with
  | some o =>
    have e := grow_block hg hb
    rw [← h]
    unfold World.viewLoad World.seen
    rw [hb, e]
  | none =>
    obtain ⟨e, he⟩ := seen_none (P := P) (u := u) (k := k) (b := b) hb
    unfold World.viewLoad at h
    rw [he] at h
    cases h
theorem Steady.load (m : Mode) (a : Addr) : Steady P (Sem.load m a Sem.pure) := fun w x w1 h => by
  unfold Sem.run at h
  cases hc : w.cell? a with
  | some v =>
    rw [hc] at h
    have h' : Result.ok v w = Result.ok x w1 := h
    cases h'
    exact ⟨rfl, fun w' hg => by unfold Sem.run; rw [cell_grow hg hc]; rfl⟩
  | none =>
    rw [hc] at h
    simp only at h
    cases hf : w.farLoad P a (m == .atomic) with
    | error e => rw [hf] at h; cases h
    | ok r =>
      rw [hf] at h
      have h' : Result.ok r.1 w = Result.ok x w1 := h
      cases h'
      refine ⟨rfl, fun w' hg => ?_⟩
      unfold World.farLoad at hf
      cases hb : w.heap[a.block]? with
      | none => rw [hb] at hf; cases hf
      | some o =>
        have e := grow_block hg hb
        have ec : w'.cell? a = none := by rw [← hc]; exact World.cell?_of_block (w := w) (e.trans hb.symm)
        unfold Sem.run
        rw [ec]
        simp only
        rw [hb] at hf
        unfold World.farLoad
        rw [e]
        cases o with
        | view at_ u =>
          simp only at hf ⊢
          cases hv : w.viewLoad P at_ u a (m == .atomic) with
          | error s => rw [hv] at hf; cases hf
          | ok r' =>
            rw [hv] at hf
            cases hf
            rw [viewLoad_same hg hv]
            rfl
        | _ => cases hf

theorem Steady.getObj (r : Nat) : Steady P (getObj r) := fun w x w1 h => by
  unfold Go.getObj Sem.run at h
  cases hb : w.heap[r]? with
  | none => rw [hb] at h; cases h
  | some o =>
    rw [hb] at h
    cases o with
    | cells c t f => cases h
    | _ =>
      cases h
      exact ⟨rfl, fun w' hg => by unfold Go.getObj Sem.run; rw [grow_block hg hb]; rfl⟩

theorem Steady.underlying (t : TypeId) : Steady P (underlying t) := by
  refine Steady.bind Steady.program fun p => ?_
  split
  · exact Steady.pure _
  · exact Steady.stuck _
theorem Steady.typeInfo (t : TypeId) : Steady P (typeInfo t) := by
  refine Steady.bind Steady.program fun p => ?_
  split
  · exact Steady.pure _
  · exact Steady.stuck _
theorem Steady.sizeOf (t : TypeId) : Steady P (sizeOf t) := Steady.bind (Steady.typeInfo t) fun _ => Steady.pure _
theorem Steady.isAgg (t : TypeId) : Steady P (isAgg t) := by
  refine Steady.bind (Steady.underlying t) fun d => ?_
  split <;> exact Steady.pure _
theorem Steady.loadCellsFrom (a : Addr) : ∀ (n i : Nat) (acc : Array Value), Steady P (loadCellsFrom a i n acc)
  | 0, _, _ => Steady.pure _
  | n + 1, i, acc => Steady.bind (Steady.load _ _) fun v => Steady.loadCellsFrom a n (i + 1) (acc.push v)
theorem Steady.loadVar (t : TypeId) (a : Addr) : Steady P (loadVar t a) := by
  refine Steady.bind (Steady.isAgg t) fun b => ?_
  split
  · exact Steady.bind (Steady.sizeOf t) fun n => Steady.bind (Steady.loadCellsFrom a n 0 #[]) fun _ => Steady.pure _
  · exact Steady.load _ _
theorem Steady.sureAddr (v : Value) : Steady P (Instr.sureAddr v) := by
  unfold Instr.sureAddr
  split
  · exact Steady.pure _
  · exact Steady.stuck _
theorem Steady.loadAt (t : TypeId) (v : Value) : Steady P (Instr.loadAt t v) := Steady.bind (Steady.sureAddr v) fun a => Steady.loadVar t a
theorem Steady.extract (v : Value) (n : Nat) : Steady P (Instr.extract v n) := by
  unfold Instr.extract
  split
  · split
    · exact Steady.pure _
    · exact Steady.stuck _
  · exact Steady.stuck _
theorem Steady.asBool (v : Value) : Steady P (asBool v) := by
  unfold Go.asBool
  split
  · exact Steady.pure _
  · exact Steady.stuck _
theorem Steady.asIntOf (v : Value) : Steady P (asIntOf v) := by
  unfold Go.asIntOf
  split
  · exact Steady.pure _
  · exact Steady.unsupported _
  · exact Steady.stuck _
theorem Steady.indexAt (t : TypeId) (x i : Value) : Steady P (Instr.indexAt t x i) := by
  unfold Instr.indexAt
  refine Steady.bind (Steady.asIntOf _) fun ki => ?_
  refine Steady.bind (Steady.underlying _) fun d => ?_
  simp only
  split
  all_goals first
    | refine Steady.bind (Steady.sureAddr _) fun _ => Steady.bind (Steady.pure _) fun y => ?_
    | refine Steady.bind (Steady.pure _) fun y => ?_
    | refine Steady.bind (Steady.stuck _) fun y => ?_
  all_goals
    obtain ⟨base, len, elem⟩ := y
    refine Steady.bind (Steady.underlying _) fun d => ?_
    simp only
    repeat' split
    all_goals first
      | exact Steady.bind (Steady.sizeOf _) fun _ => Steady.pure _
      | exact Steady.unsupported _
      | exact (Dead.bounds _ _ _ _).steady
theorem Steady.len (ts : Array TypeId) (t : TypeId) (args : Array Value) : Steady P (Builtin.len_ ts t args) := by
  unfold Builtin.len_
  split
  · refine Steady.bind (Steady.underlying _) fun d => ?_
    split
    · exact Steady.pure _
    · exact Steady.pure _
    · refine Steady.bind (Steady.underlying _) fun d => ?_
      split
      · exact Steady.pure _
      · exact Steady.stuck _
    · exact Steady.pure _
    · exact Steady.pure _
    · exact Steady.pure _
    · refine Steady.bind (Steady.getObj _) fun o => ?_
      split
      · exact Steady.pure _
      · exact Steady.stuck _
    · refine Steady.bind (Steady.getObj _) fun o => ?_
      split
      · exact Steady.pure _
      · exact Steady.stuck _
    · exact Steady.stuck _
  · exact Steady.stuck _

/-- A field that has cells. -/
def fieldOk (P : Program) (s : TypeId) (i : Nat) : Bool :=
  match P.underlying s with
  | some (.struct fs) => match fs[i]? with
    | some f => match P.info? f.type with
      | some t => t.size != 0
      | none => true
    | none => true
  | _ => true
theorem Steady.bind' {α β : Type} {s : Sem α} {f : α → Sem β} (hs : Steady P s) (hf : ∀ w x, s.run P w = .ok x w → Steady P (f x)) : Steady P (s >>= f) := fun w y w1 h => by
  rw [Sem.run_bind] at h
  cases hr : s.run P w with
  | halt e w2 => rw [hr] at h; cases h
  | ok x w2 =>
    obtain ⟨rfl, hs'⟩ := hs w x w2 hr
    rw [hr] at h
    obtain ⟨rfl, hf'⟩ := hf w2 x hr w2 y w1 h
    exact ⟨rfl, fun w' hg => by rw [Sem.run_bind, hs' w' hg]; exact hf' w' hg⟩
theorem underlying_of {w : World} {t : TypeId} {d : TypeDesc} (h : (underlying t).run P w = .ok d w) : P.underlying t = some d := by
  cases hu : P.underlying t with
  | none => simp [Go.underlying, hu] at h
  | some e => simp [Go.underlying, hu] at h; rw [h]
theorem sizeOf_of {w : World} {t : TypeId} {n : Nat} (h : (sizeOf t).run P w = .ok n w) : ∃ i, P.info? t = some i ∧ i.size = n := by
  cases hu : P.info? t with
  | none => simp [Go.sizeOf, Go.typeInfo, hu] at h
  | some e => simp [Go.sizeOf, Go.typeInfo, hu] at h; exact ⟨e, rfl, h⟩
theorem Steady.fieldAt (s : TypeId) (x : Value) (i : Nat) (h : fieldOk P s i = true) : Steady P (Instr.fieldAt s x i) := by
  unfold Instr.fieldAt
  refine Steady.bind' (Steady.underlying s) fun w d hd => ?_
  have hu := underlying_of hd
  unfold fieldOk at h
  rw [hu] at h
  split
  · simp only at h
    split
    · rename_i f hf
      rw [hf] at h
      simp only at h
      refine Steady.bind (Steady.sureAddr _) fun a => Steady.bind ?_ fun _ => Steady.pure _
      refine Steady.bind' (Steady.sizeOf _) fun w n hn => ?_
      obtain ⟨t, ht, rfl⟩ := sizeOf_of hn
      rw [ht] at h
      rw [if_neg (by simpa using h)]
      exact Steady.pure _
    · exact Steady.stuck _
  · exact Steady.stuck _

/-- An operation that only looks. -/
def isReader (P : Program) (o : Oper) : Bool :=
  match o.op with
  | .move _ | .assign _ | .pick .. | .load .. | .indexAddr .. | .extract .. => true
  | .fieldAddr s _ i => fieldOk P s i
  | .unOp .not _ _ => true
  | .call c => match c.callee with
    | .builtin .len => true
    | _ => false
  | _ => false
/-- What it comes to is a value, the same in every world that has grown. -/
def Looks (P : Program) (s : Sem Next) : Prop := ∀ (w : World) (x : Next) (w1 : World), s.run P w = .ok x w1 → ∃ v, x = .value v ∧ w1 = w ∧ ∀ w', Grow w w' → s.run P w' = .ok (.value v) w'
theorem Looks.by {α : Type} {s : Sem α} (h : Steady P s) (g : α → Value) : Looks P (do Pure.pure (Next.value (g (← s)))) := fun w x w1 hr => by
  rw [Sem.run_bind] at hr
  cases hs : s.run P w with
  | halt e w2 => rw [hs] at hr; cases hr
  | ok v w2 =>
    obtain ⟨rfl, hs'⟩ := h w v w2 hs
    rw [hs] at hr
    have e : Result.ok (Next.value (g v)) w2 = Result.ok x w1 := hr
    cases e
    exact ⟨g v, rfl, rfl, fun w' hg => by rw [Sem.run_bind, hs' w' hg]; rfl⟩
theorem Looks.of {s : Sem Value} (h : Steady P s) : Looks P (do Pure.pure (Next.value (← s))) := Looks.by h fun v => v
theorem Looks.pure (v : Value) : Looks P (Pure.pure (Next.value v)) := fun w x w1 hr => by
  have e : Result.ok (Next.value v) w = Result.ok x w1 := hr
  cases e
  exact ⟨v, rfl, rfl, fun w' _ => rfl⟩
theorem isReader_looks {o : Oper} (h : isReader P o = true) (ρ : Operand → Value) : Looks P (execOp ρ o) := by
  obtain ⟨dst, op, type, pos, after, guard⟩ := o
  cases op
  case move x => exact Looks.pure _
  case assign x => exact Looks.pure _
  case pick c a b => exact Looks.by (Steady.asBool (ρ c)) fun t => if t then ρ a else ρ b
  case load t a => exact Looks.of (Steady.loadAt _ _)
  case indexAddr t x i => exact Looks.of (Steady.indexAt _ _ _)
  case extract t i => exact Looks.of (Steady.extract _ _)
  case fieldAddr s x i => exact Looks.of (Steady.fieldAt _ _ _ h)
  case unOp u t x =>
    cases u with
    | not =>
      refine Looks.of ?_
      unfold Op.unary
      split
      all_goals first
        | exact Steady.pure _
        | exact Steady.unsupported _
        | exact Steady.stuck _
        | (rename_i hh; cases hh)
    | _ => cases h
  case call c =>
    obtain ⟨callee, args, argTypes⟩ := c
    cases callee with
    | builtin b =>
      cases b with
      | len => exact Looks.of (Steady.len _ _ _)
      | _ => cases h
    | _ => cases h
  all_goals cases h

variable {ops : Array Oper} {Q : Exit → Act → World → Prop}

/-- In which order a region is walked: which operation, and whether it comes up alone. -/
def planOk (P : Program) (md : Region.Mode) (ops : Array Oper) : List (Nat × Bool) → Array Bool → Bool
  | [], listed => (Region.ready md ops listed).isEmpty
  | (i, true) :: rest, listed => (Region.ready md ops listed == [i]) && planOk P md ops rest (listed.setIfInBounds i true)
  | (i, false) :: rest, listed => ((ops[i]?).map (isReader P)).getD false && Region.free md ops listed i && (Region.ready md ops listed).contains i && planOk P md ops rest (listed.setIfInBounds i true)
/-- The walk by a plan (w0: the world in which its part began). -/
def wpPlan (P : Program) (ops : Array Oper) (Q : Exit → Act → World → Prop) : List (Nat × Bool) → World → Act → World → Prop
  | [], _, a, w => Q .normal a w
  | (i, true) :: rest, w0, a, w => wpOp P ops Q i (fun a' w' => Grow w0 w' ∧ wpPlan P ops Q rest w' a' w') a w
  | (i, false) :: rest, w0, a, w => wpOp P ops Q i (wpPlan P ops Q rest w0) a w
theorem held_plan (hs : Region.noSelect ops = true) (hp : ∀ c a w, ¬ Q (.panic c) a w) (ho : ¬ LetsOut Q) {md : Region.Mode} : ∀ (plan : List (Nat × Bool)) (listed : Array Bool) (a : Act) (w : World),
    planOk P md ops plan listed = true → wpPlan P ops Q plan w a w → wpAnyH P md ops Q (Grow w) plan.length listed a w
  | [], listed, a, w, hk, h => wpAnyH_done (by simpa [planOk] using hk) h _
  | (i, true) :: rest, listed, a, w, hk, h => by
    simp only [planOk, Bool.and_eq_true, beq_iff_eq] at hk
    refine wpAnyH_all hk.1 (by simp) fun j hj => ?_
    obtain rfl : j = i := by simpa using hj
    exact wpOp_mono (fun a' w' h' => ⟨h'.1, wpAnyH_weaken (fun x hx => h'.1.trans hx) _ _ _ _ (held_plan hs hp ho rest _ a' w' hk.2 h'.2)⟩) h
  | (i, false) :: rest, listed, a, w, hk, h => by
    simp only [planOk, Bool.and_eq_true] at hk
    obtain ⟨⟨⟨h1, h2⟩, h3⟩, h4⟩ := hk
    cases hi : ops[i]? with
    | none => rw [hi] at h1; cases h1
    | some o =>
      rw [hi] at h1
      simp only [Option.map_some, Option.getD_some] at h1
      simp only [wpPlan, wpOp, hi] at h
      have hQ : ∀ v c a w, Q (.panic c) (a.put o.dst v) w → Q (.panic c) a w := fun v c a w h => (hp _ _ _ h).elim
      split at h
      · rename_i hw
        rcases h with h | ⟨_, hl⟩
        · unfold Oper.wp at h
          have hlook := isReader_looks h1 a.eval w
          cases hr : (execOp a.eval o).run P w with
          | halt e w1 =>
            rw [hr] at h
            cases e <;> first | exact h.elim | exact (hp _ _ _ h).elim
          | ok x w1 =>
            obtain ⟨v, rfl, rfl, hv⟩ := hlook x w1 hr
            rw [hr] at h
            exact wpAnyH_take hi hs h2 h3 (hQ v) (Or.inl ⟨hw, hv⟩) (Grow.refl _) (held_plan hs hp ho rest _ _ _ h4 h)
        · exact (ho hl).elim
      · rename_i hw
        exact wpAnyH_take hi hs h2 h3 (hQ undef) (Or.inr ⟨by simpa using hw, rfl⟩) (Grow.refl _) (held_plan hs hp ho rest _ _ _ h4 h)

/-- Q, but no way out by a panic, or by want of room. -/
def Sure (Q : Exit → Act → World → Prop) : Exit → Act → World → Prop
  | .panic _, _, _ => False
  | .outgrown, _, _ => False
  | e, a, w => Q e a w
theorem Sure.imp : ∀ (e : Exit) (a : Act) (w : World), Sure Q e a w → Q e a w := fun e a w h => by
  cases e <;> first | exact h | exact (h : False).elim
def consHead (o : Oper) : List (List Oper) → List (List Oper)
  | [] => [[o]]
  | s :: t => (o :: s) :: t
/-- The operations of a plan, cut behind each one that comes up alone. -/
def segs (ops : Array Oper) : List (Nat × Bool) → List (List Oper)
  | [] => [[]]
  | (i, b) :: rest =>
    match ops[i]? with
    | none => if b then [] :: segs ops rest else segs ops rest
    | some o => if b then [o] :: segs ops rest else consHead o (segs ops rest)
/-- The walk, part by part. -/
def wpSegs (P : Program) (ops : Array Oper) (Q : Exit → Act → World → Prop) : List (List Oper) → Act → World → Prop
  | [], a, w => Q .normal a w
  | seg :: rest, a, w => wpList P ops (Exit.then (fun a' w' => Grow w w' ∧ wpSegs P ops Q rest a' w') Q) seg a w
theorem wp_then {o : Oper} {a : Act} {w : World} {X K : Act → World → Prop} (h : o.wp P a w X (Exit.then K Q)) : o.wp P a w X Q := by
  unfold Oper.wp at *
  generalize (execOp a.eval o).run P w = r at *
  cases r with
  | ok n w' =>
    cases n <;> simp only [Oper.upon] at h ⊢ <;>
      first
        | exact h
        | exact Calls.mono h (fun e w'' he => by cases e <;> exact he)
  | halt x w' => cases x <;> exact h
theorem segs_ne : ∀ (plan : List (Nat × Bool)), ∃ s t, segs ops plan = s :: t
  | [] => ⟨[], [], rfl⟩
  | (i, b) :: rest => by
    obtain ⟨s, t, h⟩ := segs_ne rest
    unfold segs
    split
    · split
      · exact ⟨_, _, rfl⟩
      · exact ⟨s, t, h⟩
    · split
      · exact ⟨_, _, rfl⟩
      · rw [h]; exact ⟨_, _, rfl⟩
theorem plan_segs : ∀ (plan : List (Nat × Bool)) (w0 : World) (a : Act) (w : World) (s : List Oper) (t : List (List Oper)), segs ops plan = s :: t →
    wpList P ops (Exit.then (fun a' w' => Grow w0 w' ∧ wpSegs P ops Q t a' w') Q) s a w → wpPlan P ops Q plan w0 a w
  | [], w0, a, w, s, t, hs, h => by
    cases hs
    exact h.2
  | (i, b) :: rest, w0, a, w, s, t, hs, h => by
    obtain ⟨s', t', hr⟩ := segs_ne (ops := ops) rest
    unfold segs at hs
    cases hi : ops[i]? with
    | none =>
      rw [hi] at hs
      cases b with
      | true =>
        simp only [if_true] at hs
        cases hs
        simp only [wpPlan, wpOp, hi]
        refine ⟨h.1, ?_⟩
        have h2 := h.2
        rw [hr] at h2
        exact plan_segs rest w a w s' t' hr h2
      | false =>
        simp only [Bool.false_eq_true, if_false] at hs
        simp only [wpPlan, wpOp, hi]
        exact plan_segs rest w0 a w s t hs h
    | some o =>
      rw [hi] at hs
      cases b with
      | true =>
        simp only [if_true] at hs
        cases hs
        simp only [wpPlan, wpOp, hi]
        simp only [wpList] at h
        split at h
        · rename_i hw
          rw [if_pos hw]
          refine h.imp (fun h => wp_then (Oper.wp_mono (fun a' w' h' => ⟨h'.1, ?_⟩) h)) id
          have h2 := h'.2
          rw [hr] at h2
          exact plan_segs rest w' a' w' s' t' hr h2
        · rename_i hw
          rw [if_neg hw]
          refine ⟨h.1, ?_⟩
          have h2 := h.2
          rw [hr] at h2
          exact plan_segs rest w _ w s' t' hr h2
      | false =>
        simp only [Bool.false_eq_true, if_false] at hs
        rw [hr] at hs
        cases hs
        simp only [wpPlan, wpOp, hi]
        simp only [wpList] at h
        split at h
        · rename_i hw
          rw [if_pos hw]
          exact h.imp (fun h => wp_then (Oper.wp_mono (fun a' w' h' => plan_segs rest w0 a' w' s' _ hr h') h)) id
        · rename_i hw
          rw [if_neg hw]
          exact plan_segs rest w0 _ w s' _ hr h

/-- A region that leaves its order open, walked once, by a plan. -/
theorem wp_region_plan {id : Nat} {a : Act} {w : World} (plan : List (Nat × Bool)) (hm : P.follows .mixedOrders = true) (hs : Region.noSelect ops = true) (hl : plan.length = ops.size)
    (hk : planOk P .any ops plan (Array.replicate ops.size false) = true) (h : wpSegs P ops (Sure Q) (segs ops plan) a w.drew) : (Code.region id ops true).wp P Q a w := by
  refine Code.wp_mono Sure.imp (wp_region_held (S := Grow w.drew) hm ?_)
  rw [← hl]
  obtain ⟨s, t, e⟩ := segs_ne (ops := ops) plan
  rw [e] at h
  refine held_plan hs (fun _ _ _ h => h) (fun ⟨_, _, h⟩ => h) plan _ a w.drew ?_ (plan_segs plan _ a _ s t e h)
  rw [hl]
  exact hk
/-- One part of the walk. -/
theorem segs_step {seg : List Oper} {rest : List (List Oper)} {a : Act} {w : World}
    (h : ∀ K : Act → World → Prop, Hid (∀ a' w', Grow w w' → wpSegs P ops Q rest a' w' → K a' w') → wpList P ops (Exit.then K Q) seg a w) : wpSegs P ops Q (seg :: rest) a w :=
  h _ fun _ _ hg h' => ⟨hg, h'⟩
theorem segs_done {a : Act} {w : World} (h : Q .normal a w) : wpSegs P ops (Sure Q) [] a w := h
end

section
variable {P : Program} {ops : Array Oper} {Q : Exit → Act → World → Prop}

theorem looks_run {s : Sem Next} {v : Value} (h : ∀ w, s.run P w = .ok (.value v) w) : Looks P s := fun w x w1 hr => by
  rw [h w] at hr
  cases hr
  exact ⟨v, rfl, rfl, fun w' _ => h w'⟩

/-- Whatever order is picked, S holds behind every operation, till number c has come up. -/
def wpAnyC (P : Program) (md : Region.Mode) (ops : Array Oper) (Q : Exit → Act → World → Prop) (S : World → Prop) (c : Nat) : Nat → Array Bool → Act → World → Prop
  | 0, listed, a, w => Region.ready md ops listed = [] ∧ Q .normal a w
  | fuel + 1, listed, a, w => (Region.ready md ops listed = [] → Q .normal a w) ∧
      ∀ i ∈ Region.ready md ops listed, wpOp P ops Q i (fun a' w' => (i = c ∧ wpAny P md ops Q fuel (listed.setIfInBounds i true) a' w') ∨ (i ≠ c ∧ S w' ∧ wpAnyC P md ops Q S c fuel (listed.setIfInBounds i true) a' w')) a w
theorem wpAny_of_C {md : Region.Mode} {S : World → Prop} {c : Nat} : ∀ (fuel : Nat) (listed : Array Bool) (a : Act) (w : World), wpAnyC P md ops Q S c fuel listed a w → wpAny P md ops Q fuel listed a w
  | 0, _, _, _, h => h
  | fuel + 1, _, _, _, h => ⟨h.1, fun i hi => wpOp_mono (fun a' w' h' => h'.elim (fun h => h.2) (fun h => wpAny_of_C fuel _ a' w' h.2.2)) (h.2 i hi)⟩
theorem wpAnyC_weaken {md : Region.Mode} {S S' : World → Prop} {c : Nat} (hS : ∀ w, S w → S' w) : ∀ (fuel : Nat) (listed : Array Bool) (a : Act) (w : World), wpAnyC P md ops Q S c fuel listed a w → wpAnyC P md ops Q S' c fuel listed a w
  | 0, _, _, _, h => h
  | fuel + 1, _, _, _, h => ⟨h.1, fun i hi => wpOp_mono (fun a' w' h' => h'.imp id (fun h => ⟨h.1, hS _ h.2.1, wpAnyC_weaken hS fuel _ a' w' h.2.2⟩)) (h.2 i hi)⟩
theorem wpAnyC_done {md : Region.Mode} {S : World → Prop} {c : Nat} {listed : Array Bool} {a : Act} {w : World} (hr : Region.ready md ops listed = []) (h : Q .normal a w) : ∀ fuel, wpAnyC P md ops Q S c fuel listed a w
  | 0 => ⟨hr, h⟩
  | _ + 1 => ⟨fun _ => h, by rw [hr]; simp⟩

/-- All of W wait for number i. -/
def Blocks (md : Region.Mode) (ops : Array Oper) (i : Nat) (W : List Nat) : Prop := ∀ x ∈ W, ∃ o, ops[x]? = some o ∧ ∃ e ∈ o.after, Region.binds md e = true ∧ (e.on = i ∨ e.on ∈ W)
def waiters (md : Region.Mode) (ops : Array Oper) (i : Nat) : List Nat → List Nat
  | [] => []
  | j :: js => if ((ops[j]?).map fun o => o.after.any fun e => Region.binds md e && (e.on == i || (waiters md ops i js).contains e.on)).getD false then j :: waiters md ops i js else waiters md ops i js
theorem waiters_blocks (md : Region.Mode) (ops : Array Oper) (i : Nat) : ∀ js, Blocks md ops i (waiters md ops i js)
  | [] => fun x hx => by cases hx
  | j :: js => by
    have ih := waiters_blocks md ops i js
    unfold waiters
    split
    · rename_i h
      intro x hx
      rcases List.mem_cons.1 hx with rfl | hx
      · cases ho : ops[x]? with
        | none => rw [ho] at h; cases h
        | some o =>
          rw [ho] at h
          simp only [Option.map_some, Option.getD_some, Array.any_eq_true'] at h
          obtain ⟨e, he, h⟩ := h
          simp only [Bool.and_eq_true, Bool.or_eq_true, beq_iff_eq, List.contains_iff_mem] at h
          exact ⟨o, rfl, e, he, h.1, h.2.imp id fun h => List.mem_cons_of_mem _ h⟩
      · obtain ⟨o, ho, e, he, hb, h⟩ := ih x hx
        exact ⟨o, ho, e, he, hb, h.imp id fun h => List.mem_cons_of_mem _ h⟩
    · exact ih
/-- Number c can't come up while i has not. -/
def barred (md : Region.Mode) (ops : Array Oper) (listed : Array Bool) (i c : Nat) : Bool :=
  decide (ops.size ≤ c) || ((waiters md ops i (List.range ops.size).reverse).contains c && (waiters md ops i (List.range ops.size).reverse).all fun x => listed.getD x true == false)
theorem not_ready {md : Region.Mode} {i : Nat} {W : List Nat} {listed : Array Bool} (hb : Blocks md ops i W) (hi : listed.getD i true = false) (hW : ∀ x ∈ W, listed.getD x true = false) {x : Nat} (hx : x ∈ W) : x ∉ Region.ready md ops listed := by
  intro hr
  obtain ⟨_, o, ho, hall⟩ := mem_ready.1 hr
  obtain ⟨o', ho', e, he, hbi, h⟩ := hb x hx
  rw [ho] at ho'
  cases ho'
  have h1 := hall e he hbi
  have h0 : listed.getD e.on true = false := by
    rcases h with h | h
    · rw [h]; exact hi
    · exact hW _ h
  rcases Nat.lt_or_ge e.on listed.size with h' | h'
  · simp [h'] at h0 h1; rw [h0] at h1; cases h1
  · simp [Array.getElem?_eq_none h'] at h1
theorem wpAnyC_first {md : Region.Mode} {S : World → Prop} {c i : Nat} {oi : Oper} {v : Value} {W : List Nat} (hi : ops[i]? = some oi) (hsel : ∀ (j : Nat) (o : Oper) cs b, ops[j]? = some o → o.op ≠ .select cs b)
    (hQ : ∀ c a w, Q (.panic c) (a.put oi.dst v) w → Q (.panic c) a w) (hb : Blocks md ops i W) (hic : i ≠ c) (hc : ops.size ≤ c ∨ c ∈ W) :
    ∀ (fuel : Nat) (listed : Array Bool) (a : Act) (w : World),
      (∀ j oj, ops[j]? = some oj → j ≠ i → listed.getD j true = false → (∀ e ∈ oj.after, Region.binds md e = true → e.on ≠ i) → oi.apart ops oj = true) → (∀ x ∈ W, listed.getD x true = false) →
      i ∈ Region.ready md ops listed → YieldsIf P ops S oi v a → S w →
      wpAnyC P md ops Q S c fuel (listed.setIfInBounds i true) (a.put oi.dst v) w → wpAnyC P md ops Q S c (fuel + 1) listed a w := by
  intro fuel
  induction fuel with
  | zero =>
    intro listed a w _ _ hr hy hS H
    refine ⟨fun h => (by rw [h] at hr; cases hr), fun j hj => ?_⟩
    by_cases hji : j = i
    · subst hji; exact hy.wpOp hi hS (.inr ⟨hic, hS, H⟩)
    · have := ready_mono hj hji
      rw [H.1] at this
      cases this
  | succ fuel ih =>
    intro listed a w hfree hW hr hy hS H
    refine ⟨fun h => (by rw [h] at hr; cases hr), fun j hj => ?_⟩
    by_cases hji : j = i
    · subst hji; exact hy.wpOp hi hS (.inr ⟨hic, hS, H⟩)
    · have h1 := H.2 j (ready_mono hj hji)
      have hiun := (mem_ready.1 hr).1
      have hjW : j ∉ W := fun h => not_ready hb hiun hW h hj
      obtain ⟨hjun, oj, hoj, hall⟩ := mem_ready.1 hj
      have hjc : j ≠ c := by
        rcases hc with hc | hc
        · have : j < ops.size := (Array.getElem?_eq_some_iff.1 hoj).1
          omega
        · intro h; exact hjW (h ▸ hc)
      have hnot : ∀ e ∈ oj.after, Region.binds md e = true → e.on ≠ i := fun e he hb heq => by
        have h1 := hall e he hb
        have h0 := hiun
        rw [heq] at h1
        rcases Nat.lt_or_ge i listed.size with h' | h'
        · simp [h'] at h0 h1; rw [h0] at h1; cases h1
        · simp [Array.getElem?_eq_none h'] at h1
      have h2 := wpOp_putIf hoj (hfree j oj hoj hji hjun hnot) (fun cs b => hsel i oi cs b hi) (fun cs b => hsel j oj cs b hoj) hQ hy h1
      have hfree' : ∀ k ok, ops[k]? = some ok → k ≠ i → (listed.setIfInBounds j true).getD k true = false →
          (∀ e ∈ ok.after, Region.binds md e = true → e.on ≠ i) → oi.apart ops ok = true := fun k ok hk hki hun hno => by
        refine hfree k ok hk hki ?_ hno
        by_cases hjk : j = k
        · subst hjk; exact hjun
        · rw [getD_set_ne true hjk] at hun; exact hun
      have hW' : ∀ x ∈ W, (listed.setIfInBounds j true).getD x true = false := fun x hx => by
        have hjx : j ≠ x := by intro h; subst h; exact hjW hx
        rw [getD_set_ne true hjx]
        exact hW x hx
      refine wpOp_mono (fun a' w' h3 => ?_) h2
      rcases h3.2 with h4 | h4
      · exact absurd h4.1 hjc
      · refine .inr ⟨hjc, h4.2.1, ih (listed.setIfInBounds j true) a' w' hfree' hW' (ready_mono hr (Ne.symm hji)) h3.1 h4.2.1 ?_⟩
        rw [Array.setIfInBounds_comm _ _ hji]
        exact h4.2.2
theorem wpAnyC_take {md : Region.Mode} {S : World → Prop} {c i : Nat} {oi : Oper} {v : Value} {fuel : Nat} {listed : Array Bool} {a : Act} {w : World} (hi : ops[i]? = some oi)
    (hs : Region.noSelect ops = true) (hf : Region.free md ops listed i = true) (hr : (Region.ready md ops listed).contains i = true) (hic : i ≠ c) (hb : barred md ops listed i c = true)
    (hQ : ∀ c a w, Q (.panic c) (a.put oi.dst v) w → Q (.panic c) a w) (hy : YieldsIf P ops S oi v a) (hS : S w)
    (h : wpAnyC P md ops Q S c fuel (listed.setIfInBounds i true) (a.put oi.dst v) w) : wpAnyC P md ops Q S c (fuel + 1) listed a w := by
  unfold barred at hb
  simp only [Bool.or_eq_true, decide_eq_true_eq, Bool.and_eq_true, List.contains_iff_mem, List.all_eq_true, beq_iff_eq] at hb
  have hB := waiters_blocks md ops i (List.range ops.size).reverse
  generalize waiters md ops i (List.range ops.size).reverse = W at *
  rcases hb with hb | hb
  · exact wpAnyC_first (W := []) hi (Region.noSelect_spec hs) hQ (fun x hx => by cases hx) hic (.inl hb) fuel listed a w (Region.free_spec hi hf) (fun x hx => by cases hx) (by simpa using hr) hy hS h
  · exact wpAnyC_first (W := W) hi (Region.noSelect_spec hs) hQ hB hic (.inr hb.1) fuel listed a w (Region.free_spec hi hf) hb.2 (by simpa using hr) hy hS h

/-- The order: 0: it only looks; 1: it comes up alone, and the world grows; 2: it only reckons; 3: it comes up alone, and may change what was there. -/
def nextCut (n : Nat) : List (Nat × Nat) → Nat
  | [] => n
  | (i, 3) :: _ => i
  | _ :: rest => nextCut n rest
def pathOk (P : Program) (md : Region.Mode) (ops : Array Oper) : List (Nat × Nat) → Array Bool → Bool
  | [], listed => (Region.ready md ops listed).isEmpty
  | (i, 0) :: rest, listed => ((ops[i]?).map (isReader P)).getD false && Region.free md ops listed i && (Region.ready md ops listed).contains i && (i != nextCut ops.size rest) && barred md ops listed i (nextCut ops.size rest) && pathOk P md ops rest (listed.setIfInBounds i true)
  | (i, 1) :: rest, listed => (Region.ready md ops listed == [i]) && (i != nextCut ops.size rest) && pathOk P md ops rest (listed.setIfInBounds i true)
  | (i, 3) :: rest, listed => (Region.ready md ops listed == [i]) && pathOk P md ops rest (listed.setIfInBounds i true)
  | (i, _) :: rest, listed => (ops[i]?).isSome && Region.free md ops listed i && (Region.ready md ops listed).contains i && (i != nextCut ops.size rest) && barred md ops listed i (nextCut ops.size rest) && pathOk P md ops rest (listed.setIfInBounds i true)
def wpPath (P : Program) (ops : Array Oper) (Q : Exit → Act → World → Prop) : List (Nat × Nat) → World → Act → World → Prop
  | [], _, a, w => Q .normal a w
  | (i, 0) :: rest, w0, a, w => wpOp P ops Q i (wpPath P ops Q rest w0) a w
  | (i, 1) :: rest, w0, a, w => wpOp P ops Q i (fun a' w' => Grow w0 w' ∧ wpPath P ops Q rest w' a' w') a w
  | (i, 3) :: rest, _, a, w => wpOp P ops Q i (fun a' w' => wpPath P ops Q rest w' a' w') a w
  | (i, _) :: rest, w0, a, w => (∀ o, ops[i]? = some o → Region.wanted o (yielded ops a.tmps) = true → Looks P (execOp a.eval o)) ∧ wpOp P ops Q i (wpPath P ops Q rest w0) a w
theorem path_take {md : Region.Mode} (hs : Region.noSelect ops = true) (hp : ∀ c a w, ¬ Q (.panic c) a w) (ho : ¬ LetsOut Q) {i c n : Nat} {o : Oper} {listed : Array Bool} {a : Act} {w : World} {K : Act → World → Prop} (hi : ops[i]? = some o)
    (hlk : Region.wanted o (yielded ops a.tmps) = true → Looks P (execOp a.eval o)) (h2 : Region.free md ops listed i = true) (h3 : (Region.ready md ops listed).contains i = true) (hic : i ≠ c) (hb : barred md ops listed i c = true)
    (hK : ∀ a', K a' w → wpAnyC P md ops Q (Grow w) c n (listed.setIfInBounds i true) a' w) (h : wpOp P ops Q i K a w) : wpAnyC P md ops Q (Grow w) c (n + 1) listed a w := by
  have hQ : ∀ v c a w, Q (.panic c) (a.put o.dst v) w → Q (.panic c) a w := fun v c a w h => (hp _ _ _ h).elim
  simp only [wpOp, hi] at h
  split at h
  · rename_i hw
    rcases h with h | ⟨_, hl⟩
    · unfold Oper.wp at h
      have hlook := hlk hw w
      cases hr : (execOp a.eval o).run P w with
      | halt e w1 =>
        rw [hr] at h
        cases e <;> first | exact h.elim | exact (hp _ _ _ h).elim
      | ok x w1 =>
        obtain ⟨v, rfl, rfl, hv⟩ := hlook x w1 hr
        rw [hr] at h
        exact wpAnyC_take hi hs h2 h3 hic hb (hQ v) (Or.inl ⟨hw, hv⟩) (Grow.refl _) (hK _ h)
    · exact (ho hl).elim
  · rename_i hw
    exact wpAnyC_take hi hs h2 h3 hic hb (hQ undef) (Or.inr ⟨by simpa using hw, rfl⟩) (Grow.refl _) (hK _ h)
theorem held_path (hs : Region.noSelect ops = true) (hp : ∀ c a w, ¬ Q (.panic c) a w) (ho : ¬ LetsOut Q) {md : Region.Mode} : ∀ (path : List (Nat × Nat)) (listed : Array Bool) (a : Act) (w : World),
    pathOk P md ops path listed = true → wpPath P ops Q path w a w → wpAnyC P md ops Q (Grow w) (nextCut ops.size path) path.length listed a w
  | [], listed, a, w, hk, h => wpAnyC_done (by simpa [pathOk] using hk) h _
  | (i, 0) :: rest, listed, a, w, hk, h => by
    simp only [pathOk, Bool.and_eq_true, bne_iff_ne] at hk
    obtain ⟨⟨⟨⟨⟨h1, h2⟩, h3⟩, hic⟩, hb⟩, h4⟩ := hk
    cases hi : ops[i]? with
    | none => rw [hi] at h1; cases h1
    | some o =>
      rw [hi] at h1
      simp only [Option.map_some, Option.getD_some] at h1
      exact path_take hs hp ho hi (fun _ => isReader_looks h1 a.eval) h2 h3 hic hb (fun a' h' => held_path hs hp ho rest _ a' w h4 h') h
  | (i, 1) :: rest, listed, a, w, hk, h => by
    simp only [pathOk, Bool.and_eq_true, beq_iff_eq, bne_iff_ne] at hk
    refine ⟨fun h0 => (by rw [hk.1.1] at h0; cases h0), fun j hj => ?_⟩
    rw [hk.1.1] at hj
    obtain rfl : j = i := by simpa using hj
    exact wpOp_mono (fun a' w' h' => .inr ⟨hk.1.2, h'.1, wpAnyC_weaken (fun x hx => h'.1.trans hx) _ _ _ _ (held_path hs hp ho rest _ a' w' hk.2 h'.2)⟩) h
  | (i, 2) :: rest, listed, a, w, hk, h => by
    simp only [pathOk, Bool.and_eq_true, bne_iff_ne] at hk
    obtain ⟨⟨⟨⟨⟨h1, h2⟩, h3⟩, hic⟩, hb⟩, h4⟩ := hk
    cases hi : ops[i]? with
    | none => rw [hi] at h1; cases h1
    | some o => exact path_take hs hp ho hi (h.1 o hi) h2 h3 hic hb (fun a' h' => held_path hs hp ho rest _ a' w h4 h') h.2
  | (i, 3) :: rest, listed, a, w, hk, h => by
    simp only [pathOk, Bool.and_eq_true, beq_iff_eq] at hk
    refine ⟨fun h0 => (by rw [hk.1] at h0; cases h0), fun j hj => ?_⟩
    rw [hk.1] at hj
    obtain rfl : j = i := by simpa using hj
    exact wpOp_mono (fun a' w' h' => .inl ⟨rfl, wpAny_of_C _ _ _ _ (held_path hs hp ho rest _ a' w' hk.2 h')⟩) h
  | (i, k + 4) :: rest, listed, a, w, hk, h => by
    simp only [pathOk, Bool.and_eq_true, bne_iff_ne] at hk
    obtain ⟨⟨⟨⟨⟨h1, h2⟩, h3⟩, hic⟩, hb⟩, h4⟩ := hk
    cases hi : ops[i]? with
    | none => rw [hi] at h1; cases h1
    | some o => exact path_take hs hp ho hi (h.1 o hi) h2 h3 hic hb (fun a' h' => held_path hs hp ho rest _ a' w h4 h') h.2
theorem path_from {w0 w1 : World} (hg : Grow w0 w1) : ∀ (path : List (Nat × Nat)) (a : Act) (w : World), wpPath P ops Q path w1 a w → wpPath P ops Q path w0 a w
  | [], _, _, h => h
  | (_, 0) :: rest, _, _, h => wpOp_mono (fun a' w' h' => path_from hg rest a' w' h') h
  | (_, 1) :: _, _, _, h => wpOp_mono (fun _ _ h' => ⟨hg.trans h'.1, h'.2⟩) h
  | (_, 2) :: rest, _, _, h => ⟨h.1, wpOp_mono (fun a' w' h' => path_from hg rest a' w' h') h.2⟩
  | (_, 3) :: _, _, _, h => h
  | (_, _ + 4) :: rest, _, _, h => ⟨h.1, wpOp_mono (fun a' w' h' => path_from hg rest a' w' h') h.2⟩

/-- The parts of a path: each begins with what only reckons, or ends with what comes up alone. -/
abbrev Part := Option Oper × Bool × List Oper
def headed (o : Oper) : List Part → List Part
  | (none, b, s) :: t => (none, b, o :: s) :: t
  | t => (none, false, [o]) :: t
def headed2 (o : Oper) : List Part → List Part
  | (none, b, s) :: t => (some o, b, o :: s) :: t
  | t => (some o, false, [o]) :: t
def parts (ops : Array Oper) : List (Nat × Nat) → List Part
  | [] => [(none, false, [])]
  | (i, k) :: rest =>
    match ops[i]?, k with
    | none, _ => parts ops rest
    | some o, 0 => headed o (parts ops rest)
    | some o, 1 => (none, false, [o]) :: parts ops rest
    | some o, 3 => (none, true, [o]) :: parts ops rest
    | some o, _ => headed2 o (parts ops rest)
/-- The walk, part by part. -/
def wpParts (P : Program) (ops : Array Oper) (Q : Exit → Act → World → Prop) : List Part → Act → World → Prop
  | [], a, w => Q .normal a w
  | (p, b, s) :: t, a, w => (∀ o, p = some o → Region.wanted o (yielded ops a.tmps) = true → Looks P (execOp a.eval o)) ∧ wpList P ops (Exit.then (fun a' w' => (b = false → Grow w w') ∧ wpParts P ops Q t a' w') Q) s a w
/-- One part, in a world that has grown since its beginning. -/
theorem parts_list {o : Oper} {a : Act} {w : World} {X K : Act → World → Prop} {rest : List Oper} (hX : ∀ a' w', wpList P ops (Exit.then K Q) rest a' w' → X a' w') (h : wpList P ops (Exit.then K Q) (o :: rest) a w) {i : Nat} (hi : ops[i]? = some o) : wpOp P ops Q i X a w := by
  simp only [wpList] at h
  unfold wpOp
  simp only [hi]
  split at h
  · rename_i hw
    rw [if_pos hw]
    exact h.imp (fun h => wp_then (Oper.wp_mono hX h)) id
  · rename_i hw
    rw [if_neg hw]
    exact hX _ _ h
theorem parts_ne : ∀ (path : List (Nat × Nat)), ∃ p b s t, parts ops path = (p, b, s) :: t
  | [] => ⟨none, false, [], [], rfl⟩
  | (i, k) :: rest => by
    obtain ⟨p, b, s, t, h⟩ := parts_ne rest
    unfold parts
    split
    · exact ⟨p, b, s, t, h⟩
    · rw [h]; cases p <;> exact ⟨_, _, _, _, rfl⟩
    · exact ⟨_, _, _, _, rfl⟩
    · exact ⟨_, _, _, _, rfl⟩
    · rw [h]; cases p <;> exact ⟨_, _, _, _, rfl⟩
theorem path_parts : ∀ (path : List (Nat × Nat)), (∀ x ∈ path, ∃ o, ops[x.1]? = some o) → ∀ (w0 : World) (a : Act) (w : World) (p : Option Oper) (b : Bool) (s : List Oper) (t : List Part), parts ops path = (p, b, s) :: t →
    (∀ o, p = some o → Region.wanted o (yielded ops a.tmps) = true → Looks P (execOp a.eval o)) → wpList P ops (Exit.then (fun a' w' => (b = false → Grow w0 w') ∧ wpParts P ops Q t a' w') Q) s a w → wpPath P ops Q path w0 a w
  | [], _, w0, a, w, p, b, s, t, hs, _, h => by
    cases hs
    exact h.2
  | (i, k) :: rest, hb, w0, a, w, p, b, s, t, hs, hl, h => by
    have hb' : ∀ x ∈ rest, ∃ o, ops[x.1]? = some o := fun x hx => hb x (List.mem_cons_of_mem _ hx)
    obtain ⟨o, hi⟩ := hb (i, k) (List.mem_cons_self ..)
    simp only at hi
    obtain ⟨p', b', s', t', hr⟩ := parts_ne (ops := ops) rest
    have at' : ∀ a' w', wpParts P ops Q (parts ops rest) a' w' → wpPath P ops Q rest w' a' w' := fun a' w' h2 => by
      rw [hr] at h2
      exact path_parts rest hb' w' a' w' p' b' s' t' hr h2.1 h2.2
    have next : ∀ a' w', ((false = false → Grow w0 w') ∧ wpParts P ops Q (parts ops rest) a' w') → wpPath P ops Q rest w0 a' w' := fun a' w' h' => path_from (h'.1 rfl) rest a' w' (at' a' w' h'.2)
    have reckon : headed2 o (parts ops rest) = (p, b, s) :: t → (∀ o', ops[i]? = some o' → Region.wanted o' (yielded ops a.tmps) = true → Looks P (execOp a.eval o')) ∧ wpOp P ops Q i (wpPath P ops Q rest w0) a w := fun hs => by
      rw [hr] at hs
      cases p' with
      | none =>
        simp only [headed2] at hs
        cases hs
        refine ⟨fun o' ho' hw' => ?_, parts_list (fun a' w' h' => path_parts rest hb' w0 a' w' none _ s' _ hr (fun o e => by cases e) h') h hi⟩
        rw [hi] at ho'
        cases ho'
        exact hl o rfl hw'
      | some q =>
        simp only [headed2] at hs
        rw [← hr] at hs
        cases hs
        refine ⟨fun o' ho' hw' => ?_, parts_list ?_ h hi⟩
        rotate_left
        · intro a' w' h'
          exact next a' w' h'
        rw [hi] at ho'
        cases ho'
        exact hl o rfl hw'
    unfold parts at hs
    rw [hi] at hs
    match k with
    | 0 =>
      simp only at hs
      rw [hr] at hs
      cases p' with
      | none =>
        simp only [headed] at hs
        cases hs
        exact parts_list (fun a' w' h' => path_parts rest hb' w0 a' w' none _ s' _ hr (fun o e => by cases e) h') h hi
      | some q =>
        simp only [headed] at hs
        rw [← hr] at hs
        cases hs
        refine parts_list ?_ h hi
        intro a' w' h'
        exact next a' w' h'
    | 1 =>
      simp only at hs
      cases hs
      exact parts_list (fun a' w' h' => ⟨h'.1 rfl, at' a' w' h'.2⟩) h hi
    | 2 => exact reckon hs
    | 3 =>
      simp only at hs
      cases hs
      refine parts_list ?_ h hi
      intro a' w' h'
      exact at' a' w' (show (true = false → Grow w0 w') ∧ _ from h').2
    | k + 4 => exact reckon hs
theorem path_in {md : Region.Mode} : ∀ (path : List (Nat × Nat)) (listed : Array Bool), pathOk P md ops path listed = true → ∀ x ∈ path, ∃ o, ops[x.1]? = some o
  | [], _, _, x, hx => by cases hx
  | (i, k) :: rest, listed, hk, x, hx => by
    have alone : Region.ready md ops listed = [i] → ∃ o, ops[i]? = some o := fun h => by
      have hm : i ∈ Region.ready md ops listed := by rw [h]; simp
      obtain ⟨_, o, ho, _⟩ := mem_ready.1 hm
      exact ⟨o, ho⟩
    have both : (∃ o, ops[i]? = some o) ∧ pathOk P md ops rest (listed.setIfInBounds i true) = true := by
      match k with
      | 0 =>
        simp only [pathOk, Bool.and_eq_true] at hk
        refine ⟨?_, hk.2⟩
        cases hi : ops[i]? with
        | none => rw [hi] at hk; cases hk.1.1.1.1.1
        | some o => exact ⟨o, rfl⟩
      | 1 =>
        simp only [pathOk, Bool.and_eq_true, beq_iff_eq] at hk
        exact ⟨alone hk.1.1, hk.2⟩
      | 2 =>
        simp only [pathOk, Bool.and_eq_true] at hk
        exact ⟨Option.isSome_iff_exists.1 hk.1.1.1.1.1, hk.2⟩
      | 3 =>
        simp only [pathOk, Bool.and_eq_true, beq_iff_eq] at hk
        exact ⟨alone hk.1, hk.2⟩
      | k + 4 =>
        simp only [pathOk, Bool.and_eq_true] at hk
        exact ⟨Option.isSome_iff_exists.1 hk.1.1.1.1.1, hk.2⟩
    rcases List.mem_cons.1 hx with rfl | hx
    · exact both.1
    · exact path_in rest _ both.2 x hx

/-- A region that leaves its order open, walked once, by a path. -/
theorem wp_region_path {id : Nat} {a : Act} {w : World} (path : List (Nat × Nat)) (hm : P.follows .mixedOrders = true) (hs : Region.noSelect ops = true) (hl : path.length = ops.size)
    (hk : pathOk P .any ops path (Array.replicate ops.size false) = true) (h : wpParts P ops (Sure Q) (parts ops path) a w.drew) : (Code.region id ops true).wp P Q a w := by
  refine Code.wp_mono Sure.imp (wp_region_any hm (wpAny_of_C (S := Grow w.drew) (c := nextCut ops.size path) _ _ _ _ ?_))
  rw [← hl]
  obtain ⟨p, b, s, t, e⟩ := parts_ne (ops := ops) path
  have hin := path_in path _ hk
  rw [e] at h
  have := held_path hs (fun _ _ _ h => h) (fun ⟨_, _, h⟩ => h) path _ a w.drew hk (path_parts path hin _ a _ p b s t e h.1 h.2)
  rw [← hl] at this
  exact this
theorem parts_step {s : List Oper} {t : List Part} {a : Act} {w : World}
    (h : ∀ K : Act → World → Prop, Hid (∀ a' w', Grow w w' → wpParts P ops Q t a' w' → K a' w') → wpList P ops (Exit.then K Q) s a w) : wpParts P ops Q ((none, false, s) :: t) a w :=
  ⟨fun _ e => by (cases e), h _ fun _ _ hg h' => ⟨fun _ => hg, h'⟩⟩
theorem parts_step2 {o : Oper} {s : List Oper} {t : List Part} {a : Act} {w : World} (hl : Region.wanted o (yielded ops a.tmps) = true → Looks P (execOp a.eval o))
    (h : ∀ K : Act → World → Prop, Hid (∀ a' w', Grow w w' → wpParts P ops Q t a' w' → K a' w') → wpList P ops (Exit.then K Q) s a w) : wpParts P ops Q ((some o, false, s) :: t) a w :=
  ⟨fun _ e hw => by (cases e; exact hl hw), h _ fun _ _ hg h' => ⟨fun _ => hg, h'⟩⟩
/-- A part that ends with what may change what was there. -/
theorem parts_cut {s : List Oper} {t : List Part} {a : Act} {w : World}
    (h : ∀ K : Act → World → Prop, Hid (∀ a' w', wpParts P ops Q t a' w' → K a' w') → wpList P ops (Exit.then K Q) s a w) : wpParts P ops Q ((none, true, s) :: t) a w :=
  ⟨fun _ e => by (cases e), h _ fun _ _ h' => ⟨fun e => by (cases e), h'⟩⟩
theorem parts_cut2 {o : Oper} {s : List Oper} {t : List Part} {a : Act} {w : World} (hl : Region.wanted o (yielded ops a.tmps) = true → Looks P (execOp a.eval o))
    (h : ∀ K : Act → World → Prop, Hid (∀ a' w', wpParts P ops Q t a' w' → K a' w') → wpList P ops (Exit.then K Q) s a w) : wpParts P ops Q ((some o, true, s) :: t) a w :=
  ⟨fun _ e hw => by (cases e; exact hl hw), h _ fun _ _ h' => ⟨fun e => by (cases e), h'⟩⟩
theorem parts_done {a : Act} {w : World} (h : Q .normal a w) : wpParts P ops (Sure Q) [] a w := h
end
end Go.Proofs.Ytlpdoloolagcbab
