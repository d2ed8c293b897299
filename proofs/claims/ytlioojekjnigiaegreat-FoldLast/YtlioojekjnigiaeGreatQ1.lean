/- What is leaned on: part 1. -/
import Derived.Test.YtlioojekjnigiaeGreatRows
import Derived.WalkKit
import Derived.WalkSpells
import Derived.Laws.Pointers
import Derived.Deep.AppendLies
import Derived.RowKit3
import Derived.Laws.StructEq
/- Plain data, and where they lie: values read as data that stay, and rows and variables of one's own. -/
namespace Go.Proofs.YtlioojekjnigiaeGreat.AM
set_option linter.unusedVariables false

/-- Data: what a value says that is read through what stays. A list's elements come as their cells. -/
inductive D where
  | bool (b : Bool)
  | int (k : IntKind) (n : Int)
  | str (s : ByteArray)
  | list (es : List (List D))
  | ptr (ds : List D)
  | fn (f : Fn) (first caps : List D)

/-- The cells that stay. -/
abbrev View := Nat → Nat → Option Value
def Sub (A A' : View) : Prop := ∀ b o v, A b o = some v → A' b o = some v
theorem Sub.refl (A : View) : Sub A A := fun _ _ _ h => h
theorem Sub.trans {A B C : View} (h : Sub A B) (k : Sub B C) : Sub A C := fun b o v e => k b o v (h b o v e)

inductive Rep (A : View) : Value → D → Prop
  | bool (b : Bool) : Rep A (.bool b) (.bool b)
  | int (k : IntKind) (n : Int) : Rep A (.int k n) (.int k n)
  | str (s : ByteArray) : Rep A (.string s) (.str s)
  | list (a : Option Addr) (cap sz : Nat) (es : List (List D)) (f : Nat → Nat → Value) (hc : es.length ≤ cap) (hs : ∀ e ∈ es, e.length = sz)
      (ha : es ≠ [] → ∃ b off, a = some ⟨b, off, none⟩ ∧ ∀ i j, i < es.length → j < sz → A b (off + i * sz + j) = some (f i j))
      (hr : ∀ i e, es[i]? = some e → ∀ j d, e[j]? = some d → Rep A (f i j) d) : Rep A (.slice a es.length cap) (.list es)
  | ptr (b off : Nat) (ds : List D) (f : Nat → Value) (ha : ∀ j, j < ds.length → A b (off + j) = some (f j))
      (hr : ∀ j d, ds[j]? = some d → Rep A (f j) d) : Rep A (.pointer (some ⟨b, off, none⟩)) (.ptr ds)
  | fn (f : Fn) (vs us : Array Value) (ds es : List D) (hv : vs.size = ds.length) (hu : us.size = es.length)
      (hd : ∀ j d, ds[j]? = some d → Rep A (vs.getD j undef) d) (he : ∀ j d, es[j]? = some d → Rep A (us.getD j undef) d) : Rep A (.func f vs us) (.fn f ds es)

theorem Rep.mono {A A' : View} (hA : Sub A A') {v : Value} {d : D} (h : Rep A v d) : Rep A' v d := by
  induction h with
  | bool b => exact .bool b
  | int k n => exact .int k n
  | str s => exact .str s
  | list a cap sz es f hc hs ha _ ih => exact .list a cap sz es f hc hs (fun hne => let ⟨b, off, e, hA'⟩ := ha hne; ⟨b, off, e, fun i j hi hj => hA _ _ _ (hA' i j hi hj)⟩) ih
  | ptr b off ds f ha _ ih => exact .ptr b off ds f (fun j hj => hA _ _ _ (ha j hj)) ih
  | fn f vs us ds es hv hu _ _ ih1 ih2 => exact .fn f vs us ds es hv hu ih1 ih2
theorem Rep.one {A : View} {v : Value} {d : D} (h : Rep A v d) : v.oneCell' = true := by cases h <;> rfl

/-- Where a handle's row lies: its block, how many elements it has, and room for how many. -/
structure Loc where
  b : Option Nat
  n : Nat
  cap : Nat
abbrev Rho := Nat → Option Loc
def RSub (r r' : Rho) : Prop := ∀ h l, r h = some l → r' h = some l
theorem RSub.refl (r : Rho) : RSub r r := fun _ _ h => h
theorem RSub.trans {a b c : Rho} (h : RSub a b) (k : RSub b c) : RSub a c := fun x l e => k x l (h x l e)

/-- What is known of a value. -/
inductive AVal where
  | any
  | cell
  | dat (d : D)
  | kb (b : Bool)
  | nil
  | agg (xs : List AVal)
  | tup (xs : List AVal)
  | ptr (h off : Nat)
  | eptr (h sz i off : Nat)
  | row (h : Nat)
  | sub (h sz off len : Nat)
  | fn (f : Fn) (first caps : List AVal)

/-- A value of one cell. -/
def AVal.one : AVal → Bool
  | .any | .agg _ | .tup _ => false
  | _ => true

inductive VRel (r : Rho) (A : View) : Value → AVal → Prop
  | any (v : Value) : VRel r A v .any
  | cell (v : Value) (h : v.oneCell' = true) : VRel r A v .cell
  | dat {v : Value} {d : D} (h : Rep A v d) : VRel r A v (.dat d)
  | kb (b : Bool) : VRel r A (.bool b) (.kb b)
  | nil (a : Option Addr) (h : a = none ∨ ∃ g, a = some ⟨g, 0, none⟩) : VRel r A (.slice a 0 0) .nil
  | agg (cs : Array Value) (xs : List AVal) (hn : cs.size = xs.length) (h : ∀ j a, xs[j]? = some a → VRel r A (cs.getD j undef) a) : VRel r A (.agg cs) (.agg xs)
  | tup (cs : Array Value) (xs : List AVal) (hn : cs.size = xs.length) (h : ∀ j a, xs[j]? = some a → VRel r A (cs.getD j undef) a) : VRel r A (.tuple cs) (.tup xs)
  | ptr (h off b n cap : Nat) (hb : r h = some ⟨some b, n, cap⟩) : VRel r A (.pointer (some ⟨b, off, none⟩)) (.ptr h off)
  | eptr (h sz i off b n cap : Nat) (hb : r h = some ⟨some b, n, cap⟩) : VRel r A (.pointer (some ⟨b, i * sz + off, none⟩)) (.eptr h sz i off)
  | row (h b n cap : Nat) (hb : r h = some ⟨some b, n, cap⟩) : VRel r A (.slice (some ⟨b, 0, none⟩) n cap) (.row h)
  | rowNil (h : Nat) (a : Option Addr) (ha : a = none ∨ ∃ g, a = some ⟨g, 0, none⟩) (hb : r h = some ⟨none, 0, 0⟩) : VRel r A (.slice a 0 0) (.row h)
  | sub (h sz off len b n cap : Nat) (a : Option Addr) (hb : r h = some ⟨some b, n, cap⟩) (hl : off + len ≤ n) (hc : n ≤ cap) (ha : 0 < len → a = some ⟨b, off * sz, none⟩) : VRel r A (.slice a len (cap - off)) (.sub h sz off len)
  | subNil (h sz : Nat) (a : Option Addr) (hb : r h = some ⟨none, 0, 0⟩) : VRel r A (.slice a 0 0) (.sub h sz 0 0)
  | fn (f : Fn) (vs us : Array Value) (xs ys : List AVal) (hv : vs.size = xs.length) (hu : us.size = ys.length)
      (hx : ∀ j a, xs[j]? = some a → VRel r A (vs.getD j undef) a) (hy : ∀ j a, ys[j]? = some a → VRel r A (us.getD j undef) a) : VRel r A (.func f vs us) (.fn f xs ys)

theorem VRel.mono {r r' : Rho} {A A' : View} (hr : RSub r r') (hA : Sub A A') {v : Value} {a : AVal} (h : VRel r A v a) : VRel r' A' v a := by
  induction h with
  | any v => exact .any v
  | cell v h => exact .cell v h
  | dat h => exact .dat (h.mono hA)
  | kb b => exact .kb b
  | nil a h => exact .nil a h
  | agg cs xs hn _ ih => exact .agg cs xs hn ih
  | tup cs xs hn _ ih => exact .tup cs xs hn ih
  | ptr h off b n cap hb => exact .ptr h off b n cap (hr _ _ hb)
  | eptr h sz i off b n cap hb => exact .eptr h sz i off b n cap (hr _ _ hb)
  | row h b n cap hb => exact .row h b n cap (hr _ _ hb)
  | rowNil h a ha hb => exact .rowNil h a ha (hr _ _ hb)
  | sub h sz off len b n cap a hb hl hc ha => exact .sub h sz off len b n cap a (hr _ _ hb) hl hc ha
  | subNil h sz a hb => exact .subNil h sz a (hr _ _ hb)
  | fn f vs us xs ys hv hu _ _ ih1 ih2 => exact .fn f vs us xs ys hv hu ih1 ih2
theorem VRel.one {r : Rho} {A : View} {v : Value} {a : AVal} (h : VRel r A v a) (h1 : a.one = true) : v.oneCell' = true := by
  cases h with
  | dat h => exact h.one
  | cell _ h => exact h
  | any | agg | tup => cases h1
  | _ => rfl

/-- What is known of a handle's row: variables, cell by cell; or elements that are data. -/
inductive Entry where
  | dead
  | vars (T sz : Nat) (cs : List AVal) (live : Bool)
  | rows (T sz : Nat) (es : List (List D)) (live : Bool)
def Entry.live : Entry → Bool
  | .dead => false
  | .vars _ _ _ l => l
  | .rows _ _ _ l => l

abbrev Heap := List (Nat × Entry)
def Heap.get : Heap → Nat → Entry
  | [], _ => .dead
  | (h', e) :: t, h => bif Nat.beq h' h then e else Heap.get t h

def EntOk (r : Rho) (A : View) (w : World) (h : Nat) : Entry → Prop
  | .dead => True
  | .vars T sz cs true => ∃ b n cap cells, r h = some ⟨some b, n, cap⟩ ∧ w.heap[b]? = some (.cells cells T (0, 0)) ∧ cells.size = cap * sz ∧ cap ≤ maxLen ∧ n ≤ cap ∧ cs.length = n * sz ∧
      (∀ j a, cs[j]? = some a → VRel r A (cells.getD j undef) a ∧ a.one = true) ∧ ∀ o, A b o = none
  | .vars _ sz cs false => ∃ b n cap, r h = some ⟨some b, n, cap⟩ ∧ n ≤ cap ∧ cs.length = n * sz ∧ ∀ j a, cs[j]? = some a → a.one = true ∧ ∃ v, A b j = some v ∧ VRel r A v a
  | .rows T sz es true => (∀ e ∈ es, e.length = sz) ∧ ((r h = some ⟨none, 0, 0⟩ ∧ es = []) ∨ ∃ b cap cells, r h = some ⟨some b, es.length, cap⟩ ∧ w.heap[b]? = some (.cells cells T (0, 0)) ∧ cells.size = cap * sz ∧ cap ≤ maxLen ∧ es.length ≤ cap ∧
      (∀ i e, es[i]? = some e → ∀ j d, e[j]? = some d → Rep A (cells.getD (i * sz + j) undef) d) ∧ ∀ o, A b o = none)
  | .rows _ sz es false => (∀ e ∈ es, e.length = sz) ∧ ((r h = some ⟨none, 0, 0⟩ ∧ es = []) ∨ ∃ b cap, r h = some ⟨some b, es.length, cap⟩ ∧ es.length ≤ cap ∧
      ∃ f : Nat → Nat → Value, (∀ i j, i < es.length → j < sz → A b (i * sz + j) = some (f i j)) ∧ ∀ i e, es[i]? = some e → ∀ j d, e[j]? = some d → Rep A (f i j) d)

/-- A handle's block. -/
def Rho.blk (r : Rho) (h : Nat) : Option Nat := (r h).bind (·.b)

structure Core (r : Rho) (A : View) (w : World) (g : Nat → Entry) : Prop where
  view : ∀ b o v, A b o = some v → w.cell? ⟨b, o, none⟩ = some v
  ent : ∀ h, EntOk r A w h (g h)
  dis : ∀ h h' b, (g h).live = true → (g h').live = true → r.blk h = some b → r.blk h' = some b → h = h'

/-- The blocks of one's own. -/
def LiveB (r : Rho) (g : Nat → Entry) (b : Nat) : Prop := ∃ h, (g h).live = true ∧ r.blk h = some b

structure Fr (w : World) (A : View) (w' : World) (A' : View) (B : Nat → Prop) : Prop where
  os : w'.os = w.os
  tape : w'.tape = w.tape
  output : w'.output = w.output
  size : w.heap.size ≤ w'.heap.size
  block : ∀ b, b < w.heap.size → ¬ B b → w'.heap[b]? = w.heap[b]?
  sub : Sub A A'
  keep : ∀ b, b < w.heap.size → ¬ B b → A' b = A b
theorem Fr.refl (w : World) (A : View) (B : Nat → Prop) : Fr w A w A B := ⟨rfl, rfl, rfl, Nat.le_refl _, fun _ _ _ => rfl, Sub.refl A, fun _ _ _ => rfl⟩
theorem Fr.trans {w w1 w2 : World} {A A1 A2 : View} {B B' : Nat → Prop} (h : Fr w A w1 A1 B) (k : Fr w1 A1 w2 A2 B') (hB : ∀ b, b < w.heap.size → B' b → B b) : Fr w A w2 A2 B :=
  ⟨k.os.trans h.os, k.tape.trans h.tape, k.output.trans h.output, Nat.le_trans h.size k.size,
    fun b hb hn => (k.block b (Nat.lt_of_lt_of_le hb h.size) (fun hb' => hn (hB b hb hb'))).trans (h.block b hb hn), h.sub.trans k.sub,
    fun b hb hn => (k.keep b (Nat.lt_of_lt_of_le hb h.size) (fun hb' => hn (hB b hb hb'))).trans (h.keep b hb hn)⟩
theorem Fr.weaken {w w1 : World} {A A1 : View} {B B' : Nat → Prop} (h : Fr w A w1 A1 B) (hB : ∀ b, B b → B' b) : Fr w A w1 A1 B' :=
  ⟨h.os, h.tape, h.output, h.size, fun b hb hn => h.block b hb (fun k => hn (hB b k)), h.sub, fun b hb hn => h.keep b hb (fun k => hn (hB b k))⟩

/-- A function of the program's own text. -/
def callable (P : Program) (f : FuncId) : Bool := match P.funcs[f]? with
  | some fn => fn.name != "runtime.NumGoroutine" && fn.body.isSome
  | none => false
/-- What a function does: called with what is known, it answers, and leaves what is known then. -/
def ACall (P : Program) (f : FuncId) (args : List AVal) (H : Heap) (n : Nat) (R : AVal → Heap → Nat → Prop) : Prop :=
  callable P f = true ∧ ∀ (r : Rho) (A : View) (w : World) (vs : Array Value), (∀ h, n ≤ h → r h = none) → Core r A w H.get → vs.size = args.length → (∀ j a, args[j]? = some a → VRel r A (vs.getD j undef) a) →
    Calls P f vs w fun e w' => ∃ v r' A' x H' n', e = .returned v ∧ R x H' n' ∧ n ≤ n' ∧ (∀ h, h < n → r' h = r h) ∧ (∀ h, n' ≤ h → r' h = none) ∧ Core r' A' w' H'.get ∧ VRel r' A' v x ∧ Fr w A w' A' (LiveB r H.get) ∧ ∀ b, LiveB r' H'.get b → LiveB r H.get b ∨ w.heap.size ≤ b
/-- One that only reads what stays, and answers data. -/
def PCall (P : Program) (f : FuncId) (args : List AVal) (x : AVal) : Prop := ACall P f args [] 0 fun x' H' n' => x' = x ∧ H' = [] ∧ n' = 0
end Go.Proofs.YtlioojekjnigiaeGreat.AM
/- What is known stays known: where worlds grow, and where rows of one's own are changed. -/
namespace Go.Proofs.YtlioojekjnigiaeGreat.AM
set_option linter.unusedVariables false

theorem cell_some {w : World} {b o : Nat} {v : Value} (h : w.cell? ⟨b, o, none⟩ = some v) : ∃ cs t fz, w.heap[b]? = some (.cells cs t fz) ∧ cs[o]? = some v := by
  unfold World.cell? at h
  simp only at h
  split at h
  · rename_i c t fz hb
    exact ⟨c, t, fz, hb, by simpa using h⟩
  · cases h
theorem cell_lt' {w : World} {b o : Nat} {v : Value} (h : w.cell? ⟨b, o, none⟩ = some v) : b < w.heap.size := by
  obtain ⟨cs, t, fz, hb, _⟩ := cell_some h
  exact (Array.getElem?_eq_some_iff.1 hb).1
theorem cell_of {w : World} {b o : Nat} {cs : Array Value} {t : TypeId} {fz : Nat × Nat} {v : Value} (h : w.heap[b]? = some (.cells cs t fz)) (hv : cs[o]? = some v) : w.cell? ⟨b, o, none⟩ = some v := by
  simp [World.cell?, h, hv]
theorem heap_lt {w : World} {b : Nat} {o : Obj} (h : w.heap[b]? = some o) : b < w.heap.size := (Array.getElem?_eq_some_iff.1 h).1
theorem getD_some {cs : Array Value} {j : Nat} (h : j < cs.size) (d : Value) : cs[j]? = some (cs.getD j d) := by simp [h]

/-- Entries written over others. -/
def over : Heap → (Nat → Entry) → Nat → Entry
  | [], g, h => g h
  | (h', e) :: t, g, h => bif Nat.beq h' h then e else over t g h
theorem over_get (H : Heap) (h : Nat) : Heap.get H h = over H (fun _ => .dead) h := by
  induction H with
  | nil => rfl
  | cons x t ih => obtain ⟨h', e⟩ := x; simp only [Heap.get, over, ih]
theorem over_app (a b : Heap) (g : Nat → Entry) (h : Nat) : over (a ++ b) g h = over a (over b g) h := by
  induction a with
  | nil => rfl
  | cons x t ih => obtain ⟨h', e⟩ := x; simp only [List.cons_append, over, ih]
theorem over_app_get (a H : Heap) (h : Nat) : Heap.get (a ++ H) h = over a H.get h := by
  rw [over_get, over_app]
  congr 1
  funext x
  rw [← over_get]
theorem over_ne {e : Entry} {t : Heap} {g : Nat → Entry} {h' h : Nat} (hne : h' ≠ h) : over ((h', e) :: t) g h = over t g h := by
  simp only [over]
  have hb : Nat.beq h' h = false := by
    cases hx : Nat.beq h' h
    · rfl
    · exact absurd (Nat.eq_of_beq_eq_true hx) hne
  rw [hb]
  rfl
theorem over_same {e : Entry} {t : Heap} {g : Nat → Entry} {h : Nat} : over ((h, e) :: t) g h = e := by
  simp [over, Nat.beq_refl]
theorem over_keys {t : Heap} {g : Nat → Entry} {h : Nat} (hn : h ∉ t.map (·.1)) : over t g h = g h := by
  induction t with
  | nil => rfl
  | cons x t ih =>
    obtain ⟨h', e⟩ := x
    simp only [List.map_cons, List.mem_cons, not_or] at hn
    rw [over_ne (Ne.symm hn.1), ih hn.2]
theorem over_in {t : Heap} {g : Nat → Entry} {h : Nat} (hn : h ∈ t.map (·.1)) (g' : Nat → Entry) : over t g h = over t g' h := by
  induction t with
  | nil => cases hn
  | cons x t ih =>
    obtain ⟨h', e⟩ := x
    by_cases he : h' = h
    · subst he; rw [over_same, over_same]
    · rw [over_ne he, over_ne he]
      refine ih ?_
      simp only [List.map_cons, List.mem_cons] at hn
      rcases hn with rfl | hn
      · exact absurd rfl he
      · exact hn

theorem EntOk.mono {r r' : Rho} {A A' : View} {w w' : World} {h : Nat} {e : Entry} (hr : RSub r r') (hA : Sub A A')
    (hb : e.live = true → ∀ b, r.blk h = some b → w'.heap[b]? = w.heap[b]? ∧ A' b = A b) (he : EntOk r A w h e) : EntOk r' A' w' h e := by
  match e, he with
  | .dead, _ => trivial
  | .vars T sz cs true, ⟨b, n, cap, cells, h1, h2, h3, h4, h5, h6, h7, h8⟩ =>
    obtain ⟨k1, k2⟩ := hb rfl b (by simp [Rho.blk, h1])
    exact ⟨b, n, cap, cells, hr _ _ h1, k1.trans h2, h3, h4, h5, h6, fun j a ha => ⟨(h7 j a ha).1.mono hr hA, (h7 j a ha).2⟩, fun o => by rw [k2]; exact h8 o⟩
  | .vars T sz cs false, ⟨b, n, cap, h1, h2, h3, h4⟩ =>
    exact ⟨b, n, cap, hr _ _ h1, h2, h3, fun j a ha => let ⟨k1, v, k2, k3⟩ := h4 j a ha; ⟨k1, v, hA _ _ _ k2, k3.mono hr hA⟩⟩
  | .rows T sz es true, ⟨h0, .inl ⟨h1, h2⟩⟩ => exact ⟨h0, .inl ⟨hr _ _ h1, h2⟩⟩
  | .rows T sz es true, ⟨h0, .inr ⟨b, cap, cells, h1, h2, h3, h4, h5, h6, h7⟩⟩ =>
    obtain ⟨k1, k2⟩ := hb rfl b (by simp [Rho.blk, h1])
    exact ⟨h0, .inr ⟨b, cap, cells, hr _ _ h1, k1.trans h2, h3, h4, h5, fun i e he j d hd => (h6 i e he j d hd).mono hA, fun o => by rw [k2]; exact h7 o⟩⟩
  | .rows T sz es false, ⟨h0, .inl ⟨h1, h2⟩⟩ => exact ⟨h0, .inl ⟨hr _ _ h1, h2⟩⟩
  | .rows T sz es false, ⟨h0, .inr ⟨b, cap, h1, h2, f, h3, h4⟩⟩ =>
    exact ⟨h0, .inr ⟨b, cap, hr _ _ h1, h2, f, fun i j hi hj => hA _ _ _ (h3 i j hi hj), fun i e he j d hd => (h4 i e he j d hd).mono hA⟩⟩
/-- A live block lies in the world, and nothing of it stays. -/
theorem EntOk.block {r : Rho} {A : View} {w : World} {h : Nat} {e : Entry} (he : EntOk r A w h e) (hl : e.live = true) {b : Nat} (hb : r.blk h = some b) :
    (∃ cs T, w.heap[b]? = some (.cells cs T (0, 0))) ∧ ∀ o, A b o = none := by
  match e, he with
  | .dead, _ => cases hl
  | .vars T sz cs true, ⟨b', n, cap, cells, h1, h2, _, _, _, _, _, h8⟩ =>
    obtain rfl : b' = b := by simpa [Rho.blk, h1] using hb
    exact ⟨⟨_, _, h2⟩, h8⟩
  | .vars T sz cs false, _ => cases hl
  | .rows T sz es true, ⟨_, .inl ⟨h1, _⟩⟩ => simp [Rho.blk, h1] at hb
  | .rows T sz es true, ⟨_, .inr ⟨b', cap, cells, h1, h2, _, _, _, _, h7⟩⟩ =>
    obtain rfl : b' = b := by simpa [Rho.blk, h1] using hb
    exact ⟨⟨_, _, h2⟩, h7⟩
  | .rows T sz es false, _ => cases hl
theorem Core.live_lt {r : Rho} {A : View} {w : World} {g : Nat → Entry} (hc : Core r A w g) {b : Nat} (h : LiveB r g b) : b < w.heap.size := by
  obtain ⟨h, hl, hb⟩ := h
  obtain ⟨⟨_, _, k⟩, _⟩ := (hc.ent h).block hl hb
  exact heap_lt k
theorem Core.view_lt {r : Rho} {A : View} {w : World} {g : Nat → Entry} (hc : Core r A w g) {b o : Nat} {v : Value} (h : A b o = some v) : b < w.heap.size := cell_lt' (hc.view b o v h)

/-- The next state of what is known: entries of some handles are written anew, whose blocks alone have changed. -/
theorem Core.step {r r' : Rho} {A A' : View} {w w' : World} {g : Nat → Entry} {ups : Heap} (hc : Core r A w g) (hr : RSub r r') (B : Nat → Prop) (hf : Fr w A w' A' B)
    (hv : ∀ b o v, A' b o = some v → w'.cell? ⟨b, o, none⟩ = some v)
    (hB : ∀ b, B b → ∃ h, h ∈ ups.map (·.1) ∧ (g h).live = true ∧ r.blk h = some b)
    (he : ∀ h, h ∈ ups.map (·.1) → EntOk r' A' w' h (over ups g h))
    (hd : ∀ h b, h ∈ ups.map (·.1) → (over ups g h).live = true → r'.blk h = some b → (w.heap.size ≤ b ∨ ∃ h0, h0 ∈ ups.map (·.1) ∧ (g h0).live = true ∧ r.blk h0 = some b) ∧ ∀ h2, h2 ∈ ups.map (·.1) → (over ups g h2).live = true → r'.blk h2 = some b → h2 = h)
    (hs : ∀ h, h ∉ ups.map (·.1) → (g h).live = true → r'.blk h = r.blk h) : Core r' A' w' (over ups g) := by
  refine ⟨hv, fun h => ?_, fun h h' b hl hl' hb hb' => ?_⟩
  · by_cases hm : h ∈ ups.map (·.1)
    · exact he h hm
    · rw [over_keys hm]
      refine EntOk.mono hr hf.sub (fun hl b hb => ?_) (hc.ent h)
      have hn : ¬ B b := fun hBb => by
        obtain ⟨h0, hm0, hl0, hb0⟩ := hB b hBb
        exact hm (hc.dis h0 h b hl0 hl hb0 hb ▸ hm0)
      have hlt := hc.live_lt ⟨h, hl, hb⟩
      exact ⟨hf.block b hlt hn, hf.keep b hlt hn⟩
  · by_cases hm : h ∈ ups.map (·.1)
    · by_cases hm' : h' ∈ ups.map (·.1)
      · exact ((hd h b hm hl hb).2 h' hm' hl' hb').symm
      · rw [over_keys hm'] at hl'
        rw [hs h' hm' hl'] at hb'
        rcases (hd h b hm hl hb).1 with hlt | ⟨h0, hm0, hl0, hb0⟩
        · have := hc.live_lt ⟨h', hl', hb'⟩; omega
        · exact absurd (hc.dis h0 h' b hl0 hl' hb0 hb' ▸ hm0) hm'
    · rw [over_keys hm] at hl
      rw [hs h hm hl] at hb
      by_cases hm' : h' ∈ ups.map (·.1)
      · rcases (hd h' b hm' hl' hb').1 with hlt | ⟨h0, hm0, hl0, hb0⟩
        · have := hc.live_lt ⟨h, hl, hb⟩; omega
        · exact absurd (hc.dis h0 h b hl0 hl hb0 hb ▸ hm0) hm
      · rw [over_keys hm'] at hl'
        rw [hs h' hm' hl'] at hb'
        exact hc.dis h h' b hl hl' hb hb'

/-- A handle more. -/
def Rho.set (r : Rho) (h : Nat) (l : Loc) : Rho := fun x => if x = h then some l else r x
theorem Rho.set_sub {r : Rho} {h : Nat} {l : Loc} (hn : r h = none) : RSub r (r.set h l) := fun x l' e => by
  unfold Rho.set
  split
  · rename_i hx; rw [hx, hn] at e; cases e
  · exact e
theorem Rho.set_same {r : Rho} {h : Nat} {l : Loc} : r.set h l h = some l := by simp [Rho.set]
theorem Rho.set_ne {r : Rho} {h x : Nat} {l : Loc} (hn : x ≠ h) : r.set h l x = r x := by simp [Rho.set, hn]

/-- What is known behind an operation. -/
def OpPost (r : Rho) (A : View) (w : World) (g : Nat → Entry) (ups : Heap) (next m : Nat) (a : AVal) (v : Value) (w' : World) : Prop :=
  ∃ r' A', RSub r r' ∧ (∀ h, h < next ∨ next + m ≤ h → r' h = r h) ∧ Core r' A' w' (over ups g) ∧ VRel r' A' v a ∧ Fr w A w' A' (LiveB r g) ∧ ∀ b, LiveB r' (over ups g) b → LiveB r g b ∨ w.heap.size ≤ b

/-- Nothing has changed. -/
theorem OpPost.same {r : Rho} {A : View} {w : World} {g : Nat → Entry} {next : Nat} {a : AVal} {v : Value} (hc : Core r A w g) (hv : VRel r A v a) : OpPost r A w g [] next 0 a v w :=
  ⟨r, A, RSub.refl r, fun _ _ => rfl, hc, hv, Fr.refl _ _ _, fun _ h => .inl h⟩

/-- A new block, of a new handle. -/
theorem Core.new {r : Rho} {A : View} {w : World} {g : Nat → Entry} {next : Nat} (hc : Core r A w g) (hn : r next = none) (cells : Array Value) (T : TypeId) (n cap : Nat) (e : Entry)
    (he : EntOk (r.set next ⟨some w.heap.size, n, cap⟩) A (w.alloc (.cells cells T)) next e) :
    RSub r (r.set next ⟨some w.heap.size, n, cap⟩) ∧ (∀ h, h < next ∨ next + 1 ≤ h → (r.set next ⟨some w.heap.size, n, cap⟩) h = r h) ∧ Core (r.set next ⟨some w.heap.size, n, cap⟩) A (w.alloc (.cells cells T)) (over [(next, e)] g) ∧
      Fr w A (w.alloc (.cells cells T)) A (LiveB r g) ∧ ∀ b, LiveB (r.set next ⟨some w.heap.size, n, cap⟩) (over [(next, e)] g) b → LiveB r g b ∨ w.heap.size ≤ b := by
  have hs := Rho.set_sub (l := ⟨some w.heap.size, n, cap⟩) hn
  have hf : ∀ B, Fr w A (w.alloc (.cells cells T)) A B := fun B => ⟨rfl, rfl, rfl, by simp, fun b hb _ => heap_alloc_old w _ hb, Sub.refl A, fun _ _ _ => rfl⟩
  refine ⟨hs, fun h hh => Rho.set_ne (by omega), ?_, hf _, ?_⟩
  · refine Core.step hc hs (fun _ => False) (hf _) (fun b o v hA => ?_) (fun b hb => hb.elim) (fun h hh => ?_) (fun h b hh hl hb => ?_) (fun h hh hl => ?_)
    · have h1 := hc.view b o v hA
      have h2 := cell_lt' h1
      rw [← h1]
      exact World.cell?_of_block (w := w) (heap_alloc_old w _ h2)
    · obtain rfl : h = next := by simpa using hh
      rw [over_same]
      exact he
    · obtain rfl : h = next := by simpa using hh
      obtain rfl : w.heap.size = b := by simpa [Rho.blk, Rho.set_same] using hb
      exact ⟨.inl (Nat.le_refl _), fun h2 hh2 _ _ => by simpa using hh2⟩
    · have hne : h ≠ next := by simpa using hh
      simp only [Rho.blk, Rho.set_ne hne]
  · rintro b ⟨h, hl, hb⟩
    by_cases hne : h = next
    · subst hne
      obtain rfl : w.heap.size = b := by simpa [Rho.blk, Rho.set_same] using hb
      exact .inr (Nat.le_refl _)
    · rw [over_ne (Ne.symm hne)] at hl
      exact .inl ⟨h, hl, by simpa only [Rho.blk, Rho.set_ne hne] using hb⟩
/-- A block of one's own is written anew. -/
theorem Core.write {r : Rho} {A : View} {w w' : World} {g : Nat → Entry} {h b : Nat} (hc : Core r A w g) (hl : (g h).live = true) (hb : r.blk h = some b) (hf : Fr w A w' A (fun x => x = b))
    (e : Entry) (he : EntOk r A w' h e) : Core r A w' (over [(h, e)] g) ∧ Fr w A w' A (LiveB r g) ∧ ∀ b, LiveB r (over [(h, e)] g) b → LiveB r g b ∨ w.heap.size ≤ b := by
  refine ⟨Core.step hc (RSub.refl r) (fun x => x = b) hf (fun b' o v hA => ?_) (fun x hx => ⟨h, by simp, hl, hx ▸ hb⟩) (fun x hx => ?_) (fun x b' hx hl' hb' => ?_) (fun _ _ _ => rfl), hf.weaken (fun x hx => ⟨h, hl, hx ▸ hb⟩), ?_⟩
  · have h1 := hc.view b' o v hA
    have hne : b' ≠ b := fun e => by
      have := ((hc.ent h).block hl hb).2 o
      rw [e, this] at hA
      cases hA
    rw [← h1]
    exact World.cell?_of_block (w := w) (hf.block b' (cell_lt' h1) hne)
  · obtain rfl : x = h := by simpa using hx
    rw [over_same]; exact he
  · obtain rfl : x = h := by simpa using hx
    exact ⟨.inr ⟨x, by simp, hl, hb'⟩, fun h2 hh2 _ _ => by simpa using hh2⟩
  · rintro b' ⟨x, hx, hbx⟩
    by_cases hne : x = h
    · subst hne; exact .inl ⟨x, hl, hbx⟩
    · rw [over_ne (Ne.symm hne)] at hx
      exact .inl ⟨x, hx, hbx⟩
end Go.Proofs.YtlioojekjnigiaeGreat.AM
/- What an operation asks, and what is known behind it: the definitions. -/
namespace Go.Proofs.YtlioojekjnigiaeGreat.AM
set_option linter.unusedVariables false

inductive TK where
  | int (k : IntKind)
  | bool
  | string
  | slice (e : Nat)
  | array (n e : Nat)
  | struct (fs : List (Nat × Nat))
  | pointer (e : Nat)
  | other
def TK.isAgg : TK → Bool
  | .struct _ | .array _ _ => true
  | _ => false
structure TI where
  size : Nat
  bytes : Nat
  kind : TK
  zero : Option (List AVal)
  eq : Option (List TK)
def nth {α : Type} : List α → Nat → Option α
  | [], _ => none
  | a :: _, 0 => some a
  | _ :: t, n + 1 => nth t n
abbrev Tab := List TI

/-- A test that is not decided. -/
structure BoolCase (b : Bool) (t f : Prop) : Prop where
  onTrue : b = true → t
  onFalse : b = false → f
/-- An element that is there. -/
inductive AtIdx (n : Int) (es : List (List D)) (sz : Nat) (k : Nat → List D → Prop) : Prop
  | mk (i : Nat) (e : List D) (hn : n = (i : Int)) (he : es[i]? = some e) (hl : e.length = sz) (hk : k i e) : AtIdx n es sz k
/-- A byte that is there. -/
inductive AtByte (n : Int) (s : ByteArray) (k : UInt8 → Prop) : Prop
  | mk (i : Nat) (c : UInt8) (hn : n = (i : Int)) (hc : s[i]? = some c) (hk : k c) : AtByte n s k
/-- Bounds that may stand there. -/
inductive Cut (lo hi : Int) (len : Nat) (k : Nat → Nat → Prop) : Prop
  | mk (l h : Nat) (hl : lo = (l : Int)) (hh : hi = (h : Int)) (hlh : l ≤ h) (hle : h ≤ len) (hk : k l h) : Cut lo hi len k
/-- Elements of so many cells. -/
structure Sized (xs : List (List D)) (size : Nat) (k : Prop) : Prop where
  sized : ∀ e ∈ xs, e.length = size
  go : k
/-- There is room. -/
structure Room (n : Nat) (k : Prop) : Prop where
  room : n ≤ 140737488355328
  go : k
/-- A number that is no nought. -/
structure NotNought (y : Int) (k : Prop) : Prop where
  ne : y ≠ 0
  go : k
/-- A number that is not below nought. -/
inductive NotNeg (y : Int) (k : Nat → Prop) : Prop
  | mk (n : Nat) (hn : y = (n : Int)) (hk : k n) : NotNeg y k

def kindNo : IntKind → Nat
  | .i8 => 0 | .i16 => 1 | .i32 => 2 | .i64 => 3 | .u8 => 4 | .u16 => 5 | .u32 => 6 | .u64 => 7
theorem kind_of_no {a b : IntKind} (h : Nat.beq (kindNo a) (kindNo b) = true) : a = b := by cases a <;> cases b <;> first | rfl | cases h

/-- The first cells of a list, each in its form. -/
def takeA : Nat → List AVal → (List AVal → Prop) → Prop
  | 0, _, k => k []
  | n + 1, a :: t, k => takeA n t fun xs => k (a :: xs)
  | _ + 1, [], _ => False
def takeD : Nat → List D → (List D → Prop) → Prop
  | 0, _, k => k []
  | n + 1, a :: t, k => takeD n t fun xs => k (a :: xs)
  | _ + 1, [], _ => False
def dropD : Nat → List D → (List D → Prop) → Prop
  | 0, l, k => k l
  | n + 1, _ :: t, k => dropD n t k
  | _ + 1, [], _ => False
def dropA : Nat → List AVal → (List AVal → Prop) → Prop
  | 0, l, k => k l
  | n + 1, _ :: t, k => dropA n t k
  | _ + 1, [], _ => False
/-- The cells of a value of a type: one, or several. -/
def partA (tab : Tab) (T : Nat) (xs : List AVal) (off : Nat) (k : AVal → Prop) : Prop :=
  match nth tab T with
  | none => False
  | some ti => dropA off xs fun ys => bif ti.kind.isAgg then takeA ti.size ys fun zs => k (.agg zs) else match ys with
    | [] => False
    | a :: _ => k a
def partD (tab : Tab) (T : Nat) (ds : List D) (k : AVal → Prop) : Prop :=
  match nth tab T with
  | none => False
  | some ti => bif ti.kind.isAgg then takeD ti.size ds fun zs => k (.agg (zs.map .dat)) else match ds with
    | [] => False
    | d :: _ => k (.dat d)
/-- A value's cells. -/
def cellsA : AVal → Option (List AVal)
  | .agg xs => bif xs.all (·.one) then some xs else none
  | .any | .tup _ => none
  | a => some [a]
/-- Cells written over others. -/
def putA : Nat → List AVal → List AVal → Option (List AVal)
  | 0, [], l => some l
  | 0, v :: vs, _ :: t => (putA 0 vs t).map (v :: ·)
  | n + 1, vs, a :: t => (putA n vs t).map (a :: ·)
  | _, _, [] => none
def dataOf : AVal → Option D
  | .dat d => some d
  | .kb b => some (.bool b)
  | .nil => some (.list [])
  | _ => none
def dataAll : List AVal → Option (List D)
  | [] => some []
  | a :: t => match dataOf a, dataAll t with
    | some d, some ds => some (d :: ds)
    | _, _ => none
def putD : Nat → List D → List D → Option (List D)
  | 0, [], l => some l
  | 0, v :: vs, _ :: t => (putD 0 vs t).map (v :: ·)
  | n + 1, vs, a :: t => (putD n vs t).map (a :: ·)
  | _, _, [] => none

def asB : AVal → Option Bool
  | .kb b => some b
  | .dat (.bool b) => some b
  | _ => none
/-- Cells of a kind that is compared: are they the same? -/
def eqK : TK → AVal → AVal → Option Bool
  | .int _, a, b => match dataOf a, dataOf b with
    | some (.int k x), some (.int k' y) => bif Nat.beq (kindNo k) (kindNo k') then some (x == y) else none
    | _, _ => none
  | .bool, a, b => match asB a, asB b with
    | some x, some y => some (x == y)
    | _, _ => none
  | .string, a, b => match dataOf a, dataOf b with
    | some (.str x), some (.str y) => some (decide (x = y))
    | _, _ => none
  | _, _, _ => none
def eqL : List TK → List AVal → List AVal → Option Bool
  | [], [], [] => some true
  | t :: ts, a :: s, b :: u => match eqK t a b, eqL ts s u with
    | some x, some y => some (x && y)
    | _, _ => none
  | _, _, _ => none
def eqAgg (tab : Tab) (T : Nat) (xs ys : List AVal) (k : Bool → Prop) : Prop := match nth tab T with
  | some ti => match ti.eq with
    | some ks => match eqL ks xs ys with
      | some b => k b
      | none => False
    | none => False
  | none => False
def eqBool (tab : Tab) (T : Nat) (x y : AVal) (k : Bool → Prop) : Prop := match nth tab T with
  | some ti => match ti.kind with
    | .bool => match asB x, asB y with
      | some a, some b => k (a == b)
      | _, _ => False
    | _ => False
  | none => False

def binVC (tab : Tab) (T : Nat) (op : BinOp) (x y : AVal) (k : AVal → Prop) : Prop :=
  match op, x, y with
  | .shl, .dat (.int ka a), .dat (.int _ b) => NotNeg b fun n => k (.dat (.int ka (ka.wrap (a * 2 ^ (min n ka.bits)))))
  | .shr, .dat (.int ka a), .dat (.int _ b) => NotNeg b fun n => k (.dat (.int ka (a.fdiv (2 ^ (min n ka.bits)))))
  | op, .dat (.int ka a), .dat (.int kb b) => bif Nat.beq (kindNo ka) (kindNo kb) then
      match op with
      | .add => k (.dat (.int ka (ka.wrap (a + b))))
      | .sub => k (.dat (.int ka (ka.wrap (a - b))))
      | .mul => k (.dat (.int ka (ka.wrap (a * b))))
      | .quo => NotNought b (k (.dat (.int ka (ka.wrap (a.tdiv b)))))
      | .rem => NotNought b (k (.dat (.int ka (a.tmod b))))
      | .and => k (.dat (.int ka (ka.wrap (BitVec.ofInt ka.bits a &&& BitVec.ofInt ka.bits b).toNat)))
      | .eql => k (.dat (.bool (a == b)))
      | .neq => k (.dat (.bool (a != b)))
      | .lss => k (.dat (.bool (decide (a < b))))
      | .leq => k (.dat (.bool (decide (a ≤ b))))
      | .gtr => k (.dat (.bool (decide (b < a))))
      | .geq => k (.dat (.bool (decide (b ≤ a))))
      | _ => False
    else False
  | .add, .dat (.str a), .dat (.str b) => Room (a.size + b.size) (k (.dat (.str (a ++ b))))
  | .eql, .dat (.str a), .dat (.str b) => k (.dat (.bool (decide (a = b))))
  | .neq, .dat (.str a), .dat (.str b) => k (.dat (.bool (!decide (a = b))))
  | .lss, .dat (.str a), .dat (.str b) => k (.dat (.bool (Op.bytesLess a.toList b.toList)))
  | .leq, .dat (.str a), .dat (.str b) => k (.dat (.bool (Op.bytesLess a.toList b.toList || decide (a = b))))
  | .eql, .agg xs, .agg ys => eqAgg tab T xs ys fun b => k (.dat (.bool b))
  | .neq, .agg xs, .agg ys => eqAgg tab T xs ys fun b => k (.dat (.bool (!b)))
  | .eql, .dat (.bool a), y => eqBool tab T (.dat (.bool a)) y fun b => k (.dat (.bool b))
  | .eql, .kb a, y => eqBool tab T (.kb a) y fun b => k (.dat (.bool b))
  | .neq, .dat (.bool a), y => eqBool tab T (.dat (.bool a)) y fun b => k (.dat (.bool (!b)))
  | .neq, .kb a, y => eqBool tab T (.kb a) y fun b => k (.dat (.bool (!b)))
  | _, _, _ => False

/-- A list's elements out of a value that is a slice of data, or of none. -/
inductive Src where
  | data (es : List (List D))
  | vars (cs : List AVal)
def zerosD (zs : List AVal) : Option (List D) := dataAll zs

abbrev Kont := AVal → Heap → Nat → List Nat → Prop

/-- Handles of a called function among one's own: the given ones, and new ones behind. -/
def ren1 (p : List Nat) (next : Nat) : Nat → Nat := fun j => match nth p j with
  | some h => h
  | none => next + (j - p.length)
def AVal.ren (f : Nat → Nat) : AVal → AVal
  | .any => .any
  | .cell => .cell
  | .dat d => .dat d
  | .kb b => .kb b
  | .nil => .nil
  | .agg xs => .agg (renL f xs)
  | .tup xs => .tup (renL f xs)
  | .ptr h off => .ptr (f h) off
  | .eptr h sz i off => .eptr (f h) sz i off
  | .row h => .row (f h)
  | .sub h sz off len => .sub (f h) sz off len
  | .fn g xs ys => .fn g (renL f xs) (renL f ys)
where
  renL (f : Nat → Nat) : List AVal → List AVal
  | [] => []
  | a :: t => AVal.ren f a :: renL f t
def Entry.ren (f : Nat → Nat) : Entry → Entry
  | .dead => .dead
  | .vars T sz cs l => .vars T sz (AVal.ren.renL f cs) l
  | .rows T sz es l => .rows T sz es l

/-- Cells in pieces of one size. -/
def cutD (sz k : Nat) (ds : List D) : List (List D) := (List.range k).map fun i => (ds.drop (i * sz)).take sz
/-- Data read through what is known of rows: for a function that only reads. -/
def toD (g : Nat → Entry) : Nat → AVal → Option D
  | 0, _ => none
  | n + 1, a => match a with
    | .dat d => some d
    | .kb b => some (.bool b)
    | .nil => some (.list [])
    | .ptr h off => match g h with
      | .vars _ _ cs _ => ((cs.drop off).mapM (toD g n)).map .ptr
      | _ => none
    | .eptr h sz i off => match g h with
      | .rows _ sz' es _ => bif Nat.beq sz sz' then (es[i]?).map fun e => .ptr (e.drop off) else none
      | _ => none
    | .row h => match g h with
      | .rows _ _ es _ => some (.list es)
      | .vars _ sz cs _ => bif Nat.blt 0 sz && Nat.beq (cs.length % sz) 0 then (cs.mapM (toD g n)).map fun ds => .list (cutD sz (ds.length / sz) ds) else none
      | _ => none
    | .sub h sz off len => match g h with
      | .rows _ sz' es _ => bif Nat.beq sz sz' then some (.list ((es.drop off).take len)) else none
      | _ => none
    | .fn f xs ys => match xs.mapM (toD g n), ys.mapM (toD g n) with
      | some ds, some es => some (.fn f ds es)
      | _, _ => none
    | _ => none
def toL (g : Nat → Entry) (n : Nat) : List AVal → Option (List AVal)
  | [] => some []
  | a :: t => match toD g n a, toL g n t with
    | some d, some ds => some (.dat d :: ds)
    | _, _ => none
def pureA (g : Nat → Entry) (n : Nat) : AVal → Option AVal
  | .any => some .any
  | .agg xs => (toL g n xs).map .agg
  | .fn f xs ys => match pureL xs, toL g n ys with
    | some vs, some us => some (.fn f vs us)
    | _, _ => none
  | .tup _ => none
  | a => (toD g n a).map .dat
where
  pureL : List AVal → Option (List AVal)
  | [] => some []
  | a :: t => match (match a with | .agg xs => (toL g n xs).map AVal.agg | a => (toD g n a).map AVal.dat), pureL t with
    | some d, some ds => some (d :: ds)
    | _, _ => none
def pureAll (g : Nat → Entry) (n : Nat) : List AVal → Option (List AVal)
  | [] => some []
  | a :: t => match pureA g n a, pureAll g n t with
    | some d, some ds => some (d :: ds)
    | _, _ => none
/-- The handles that are looked at. -/
def reach (g : Nat → Entry) : Nat → AVal → List Nat
  | 0, _ => []
  | n + 1, a => match a with
    | .ptr h off => h :: match g h with
      | .vars _ _ cs _ => (cs.drop off).flatMap (reach g n)
      | _ => []
    | .row h => h :: match g h with
      | .vars _ _ cs _ => cs.flatMap (reach g n)
      | _ => []
    | .eptr h _ _ _ | .sub h _ _ _ => [h]
    | .agg xs | .tup xs => xs.flatMap (reach g n)
    | .fn _ xs ys => xs.flatMap (reach g n) ++ ys.flatMap (reach g n)
    | _ => []
/-- A value that is not in memory. -/
def AVal.scalar : AVal → Bool
  | .dat (.bool _) | .dat (.int _ _) | .dat (.str _) | .kb _ => true
  | .agg xs => scalars xs
  | .tup xs => scalars xs
  | _ => false
where
  scalars : List AVal → Bool
  | [] => true
  | a :: t => (match a with | .dat (.bool _) | .dat (.int _ _) | .dat (.str _) | .kb _ => true | .agg xs => (xs.all fun a => match a with | .dat (.bool _) | .dat (.int _ _) | .dat (.str _) | .kb _ => true | _ => false) | _ => false) && scalars t
/-- Nothing of one's own is looked at. -/
def noG : Nat → Entry := fun _ => .dead

/-- All handles are below a number. -/
def AVal.hb (n : Nat) : AVal → Bool
  | .agg xs => hbL n xs
  | .tup xs => hbL n xs
  | .ptr h _ => Nat.blt h n
  | .eptr h _ _ _ => Nat.blt h n
  | .row h => Nat.blt h n
  | .sub h _ _ _ => Nat.blt h n
  | .fn _ xs ys => hbL n xs && hbL n ys
  | _ => true
where
  hbL (n : Nat) : List AVal → Bool
  | [] => true
  | a :: t => AVal.hb n a && hbL n t
def heapHb (n : Nat) : Heap → Bool
  | [] => true
  | (h, e) :: t => Nat.blt h n && (match e with | .vars _ _ cs _ => AVal.hb.hbL n cs | _ => true) && heapHb n t
def nodup : List Nat → Bool
  | [] => true
  | h :: t => t.all (fun x => !Nat.beq h x) && nodup t

/-- A row that stays. -/
def Entry.freeze : Entry → Entry
  | .dead => .dead
  | .vars T sz cs _ => .vars T sz cs false
  | .rows T sz es _ => .rows T sz es false
/-- A call of what is told of elsewhere. -/
inductive CallOk (det : Bool) (P : Program) (f : FuncId) (args : List AVal) (next : Nat) (g : Nat → Entry) (k : Kont) : Prop
  /-- It only reads, and answers no memory. -/
  | look (args' : List AVal) (x : AVal) (hf : PCall P f args' x) (ha : pureAll g 6 args = some args') (hx : x.scalar = true) (hk : k x [] 0 (args.flatMap (reach g 8)))
  /-- All that it is handed is data. -/
  | data (args' : List AVal) (x : AVal) (hf : PCall P f args' x) (ha : pureAll noG 6 args = some args') (hk : k x [] 0 [])
  /-- Rows of one's own that it is handed stay from here on. -/
  | keep (p : List Nat) (args' : List AVal) (x : AVal) (hf : PCall P f args' x) (ha : pureAll g 6 args = some args') (hn : nodup p = true) (hl : p.all (fun h => (g h).live) = true) (hin : (args.flatMap (reach g 8)).all (fun h => !(g h).live || p.any (Nat.beq h)) = true)
      (hk : k x (p.map fun h => (h, (g h).freeze)) 0 (args.flatMap (reach g 8)))
  /-- It changes rows of one's own. -/
  | eff (p : List Nat) (args' : List AVal) (Hc : Heap) (x : AVal) (Hc' : Heap) (m : Nat) (hf : ACall P f args' Hc p.length fun x' H' n' => x' = x ∧ H' = Hc' ∧ n' = p.length + m)
      (ha : args = AVal.ren.renL (ren1 p next) args') (hg : p.map g = (List.range p.length).map fun i => (Hc.get i).ren (ren1 p next)) (hp : nodup p = true) (hn : p.all (fun h => Nat.blt h next) = true) (hw : (AVal.hb.hbL p.length args' && heapHb p.length Hc) = true)
      (hk : k (x.ren (ren1 p next)) ((List.range (p.length + m)).map fun j => (ren1 p next j, (Hc'.get j).ren (ren1 p next))) m p)
  /-- It answers one of several. -/
  | some (p : List Nat) (args' : List AVal) (Hc : Heap) (R : AVal → Heap → Nat → Prop) (hd : det = false) (hf : ACall P f args' Hc p.length R)
      (ha : args = AVal.ren.renL (ren1 p next) args') (hg : p.map g = (List.range p.length).map fun i => (Hc.get i).ren (ren1 p next)) (hp : nodup p = true) (hn : p.all (fun h => Nat.blt h next) = true) (hw : (AVal.hb.hbL p.length args' && heapHb p.length Hc) = true)
      (hk : ∀ x Hc' m, R x Hc' (p.length + m) → k (x.ren (ren1 p next)) ((List.range (p.length + m)).map fun j => (ren1 p next j, (Hc'.get j).ren (ren1 p next))) m p)
end Go.Proofs.YtlioojekjnigiaeGreat.AM
/- What an operation asks: the operations one by one. -/
namespace Go.Proofs.YtlioojekjnigiaeGreat.AM
set_option linter.unusedVariables false

/-- An element of a row of one's own. -/
inductive ElemAt (es : List (List D)) (i : Nat) (k : List D → Prop) : Prop
  | mk (e : List D) (he : es[i]? = some e) (hk : k e) : ElemAt es i k
/-- A place of a row of variables. -/
inductive AtVar (n : Int) (cnt : Nat) (k : Nat → Prop) : Prop
  | mk (i : Nat) (hn : n = (i : Int)) (hi : i < cnt) (hk : k i) : AtVar n cnt k
/-- Elements that fit, and room for them. -/
structure Fits (xs : List (List D)) (size n bytes : Nat) (k : Prop) : Prop where
  sized : ∀ e ∈ xs, e.length = size
  room : (n + xs.length) * bytes ≤ 140737488355328
  go : k

def kindAt (tab : Tab) (T : Nat) : TK := match nth tab T with
  | some ti => ti.kind
  | none => .other
def fieldAt (tab : Tab) (T f : Nat) (k : Nat → Nat → Prop) : Prop := match kindAt tab T with
  | .struct fs => match nth fs f with
    | some (t, off) => k t off
    | none => False
  | _ => False
/-- A type of some cells. -/
def sized (tab : Tab) (t : Nat) (k : Prop) : Prop := match nth tab t with
  | some ti => bif Nat.blt 0 ti.size then k else False
  | none => False
/-- Parts put over a zero value. -/
def fillA (place : Nat → Option (Nat × Nat)) (lk : Operand → AVal) : List (Nat × Operand) → List AVal → (List AVal → Prop) → Prop
  | [], cs, k => k cs
  | (i, x) :: rest, cs, k => match place i with
    | none => False
    | some (off, size) => match cellsA (lk x) with
      | none => False
      | some vs => bif Nat.beq vs.length size then match putA off vs cs with
        | none => False
        | some cs' => fillA place lk rest cs' k
        else False
def placeOf (tab : Tab) : TK → Nat → Option (Nat × Nat)
  | .struct fs, i => match nth fs i with
    | some (t, off) => match nth tab t with
      | some ti => some (off, ti.size)
      | none => none
    | none => none
  | .array n e, i => match nth tab e with
    | some ti => bif Nat.blt i n then some (i * ti.size, ti.size) else none
    | none => none
  | _, _ => none
/-- All fields of a struct stand in the table. -/
def allIn (tab : Tab) : TK → Bool
  | .struct fs => fs.all fun f => (nth tab f.1).isSome
  | .array _ e => (nth tab e).isSome
  | _ => false
def replL {α : Type} : Nat → List α → List α
  | 0, _ => []
  | n + 1, l => l ++ replL n l

/-- What is known of a slice's elements. -/
def srcVC (size : Nat) (g : Nat → Entry) (x : AVal) (k : List (List D) → List Nat → Prop) (kv : List AVal → List Nat → Prop) : Prop :=
  match x with
  | .nil => k [] []
  | .dat (.list es) => k es []
  | .row h => match g h with
    | .rows _ _ es _ => k es [h]
    | .vars _ sz cs _ => bif Nat.beq sz size then kv cs [h] else False
    | .dead => False
  | .sub h sz off len => match g h with
    | .rows _ sz' es _ => bif Nat.beq sz sz' then k ((es.drop off).take len) [h] else False
    | _ => False
  | _ => False
def appendVC (e size bytes : Nat) (next : Nat) (g : Nat → Entry) (s x : AVal) (k : Kont) : Prop :=
  srcVC size g x
    (fun xs rd => match s with
      | .nil => Fits xs size 0 bytes (k (.row next) [(next, .rows e size xs true)] 1 rd)
      | .row h => match g h with
        | .rows T sz es true => bif Nat.beq T e && Nat.beq sz size then Fits xs size es.length bytes (k (.row next) [(next, .rows e size (es ++ xs) true), (h, .dead)] 1 rd) else False
        | _ => False
      | _ => False)
    (fun cs rd => match s with
      | .nil => bif Nat.blt 0 cs.length && Nat.beq (cs.length % size) 0 then Room (cs.length / size * bytes) (k (.row next) [(next, .vars e size cs true)] 1 rd) else False
      | .row h => match g h with
        | .vars T sz cs0 true => bif Nat.beq T e && Nat.beq sz size && Nat.blt 0 cs.length && Nat.beq (cs.length % size) 0 then Room ((cs0.length / size + cs.length / size) * bytes) (k (.row next) [(next, .vars e size (cs0 ++ cs) true), (h, .dead)] 1 rd) else False
        | _ => False
      | _ => False)
def lenVC (g : Nat → Entry) (x : AVal) (k : Kont) : Prop :=
  match x with
  | .nil => k (.dat (.int .i64 0)) [] 0 []
  | .dat (.list es) => k (.dat (.int .i64 es.length)) [] 0 []
  | .row h => match g h with
    | .rows _ _ es _ => k (.dat (.int .i64 es.length)) [] 0 [h]
    | .vars _ sz cs _ => bif Nat.blt 0 sz then k (.dat (.int .i64 ((cs.length / sz : Nat) : Int))) [] 0 [h] else False
    | .dead => False
  | .sub _ _ _ len => k (.dat (.int .i64 len)) [] 0 []
  | _ => False
def lenStrVC (x : AVal) (k : Kont) : Prop :=
  match x with
  | .dat (.str s) => k (.dat (.int .i64 s.size)) [] 0 []
  | _ => False
def maxVC (isMax : Bool) (a b : AVal) (k : Kont) : Prop :=
  match a, b with
  | .dat (.int ka x), .dat (.int _ y) => k (.dat (.int ka (bif isMax then (if y > x then y else x) else (if y < x then y else x)))) [] 0 []
  | _, _ => False
def builtinVC (tab : Tab) (next : Nat) (g : Nat → Entry) (b : Builtin) (ts : List Nat) (args : List AVal) (k : Kont) : Prop :=
  match b, ts, args with
  | .len, [t], [x] => match kindAt tab t with
    | .slice _ => lenVC g x k
    | .string => lenStrVC x k
    | _ => False
  | .append, [t, u], [s, x] => bif Nat.beq t u then match kindAt tab t with
    | .slice e => match nth tab e with
      | some ti => bif Nat.blt 0 ti.size && Nat.blt 0 ti.bytes && ti.zero.isSome then appendVC e ti.size ti.bytes next g s x k else False
      | none => False
    | _ => False
    else False
  | .max, _, [a, b] => maxVC true a b k
  | .min, _, [a, b] => maxVC false a b k
  | _, _, _ => False

def loadVC (tab : Tab) (g : Nat → Entry) (T : Nat) (x : AVal) (k : Kont) : Prop :=
  match x with
  | .ptr h off => match g h with
    | .vars _ _ cs _ => partA tab T cs off fun a => k a [] 0 [h]
    | _ => False
  | .eptr h sz i off => match g h with
    | .rows _ sz' es _ => bif Nat.beq sz sz' then ElemAt es i fun e => dropD off e fun ds => partD tab T ds fun a => k a [] 0 [h] else False
    | _ => False
  | .dat (.ptr ds) => partD tab T ds fun a => k a [] 0 []
  | _ => False
def storeVC (tab : Tab) (g : Nat → Entry) (T : Nat) (x v : AVal) (k : Kont) : Prop :=
  match cellsA v with
  | none => False
  | some vs => match nth tab T with
    | none => False
    | some ti => bif Nat.beq vs.length ti.size then
        match x with
        | .ptr h off => match g h with
          | .vars T' sz cs true => match putA off vs cs with
            | some cs' => k .any [(h, .vars T' sz cs' true)] 0 []
            | none => False
          | _ => False
        | .eptr h sz i off => match g h with
          | .rows T' sz' es true => match dataAll vs with
            | some ds => bif Nat.beq sz sz' then ElemAt es i fun e => match putD off ds e with
              | some e' => k .any [(h, .rows T' sz' (es.set i e') true)] 0 []
              | none => False
              else False
            | none => False
          | _ => False
        | _ => False
      else False
def indexAddrVC (tab : Tab) (g : Nat → Entry) (t : Nat) (x n : AVal) (k : Kont) : Prop :=
  match n with
  | .dat (.int _ n) => match kindAt tab t with
    | .slice e => match nth tab e with
      | none => False
      | some ti => match x with
        | .dat (.list es) => AtIdx n es ti.size fun _ e => k (.dat (.ptr e)) [] 0 []
        | .row h => match g h with
          | .rows _ sz es _ => bif Nat.beq sz ti.size then AtIdx n es sz fun i _ => k (.eptr h sz i 0) [] 0 [h] else False
          | .vars _ sz cs _ => bif Nat.beq sz ti.size then AtVar n (cs.length / sz) fun i => k (.ptr h (i * sz)) [] 0 [h] else False
          | .dead => False
        | .sub h sz off len => match g h with
          | .rows _ sz' _ _ => bif Nat.beq sz ti.size && Nat.beq sz' sz then AtVar n len fun i => k (.eptr h sz (off + i) 0) [] 0 [h] else False
          | _ => False
        | _ => False
    | .array cnt e => match nth tab e with
      | none => False
      | some ti => match x with
        | .ptr h off => AtVar n cnt fun i => k (.ptr h (off + i * ti.size)) [] 0 []
        | .dat (.ptr ds) => AtVar n cnt fun i => dropD (i * ti.size) ds fun ds' => k (.dat (.ptr ds')) [] 0 []
        | _ => False
    | _ => False
  | _ => False
def indexVC (tab : Tab) (t : Nat) (x n : AVal) (k : Kont) : Prop :=
  match n with
  | .dat (.int _ n) => match kindAt tab t, x with
    | .string, .dat (.str s) => AtByte n s fun c => k (.dat (.int .u8 c.toNat)) [] 0 []
    | .array cnt e, .agg xs => match nth tab e with
      | none => False
      | some ti => AtVar n cnt fun i => partA tab e xs (i * ti.size) fun a => k a [] 0 []
    | _, _ => False
  | _ => False
def sliceVC (tab : Tab) (t : Nat) (x : AVal) (lo hi : Option AVal) (k : Kont) : Prop :=
  match kindAt tab t, x with
  | .slice e, .dat (.list es) => match nth tab e with
    | none => False
    | some ti => match lo, hi with
      | some (.dat (.int _ l)), none => Cut l es.length es.length fun l _ => Sized es ti.size (k (.dat (.list (es.drop l))) [] 0 [])
      | none, some (.dat (.int _ h)) => Cut 0 h es.length fun _ h => k (.dat (.list (es.take h))) [] 0 []
      | some (.dat (.int _ l)), some (.dat (.int _ h)) => Cut l h es.length fun l h => Sized es ti.size (k (.dat (.list ((es.take h).drop l))) [] 0 [])
      | _, _ => False
  | .string, .dat (.str s) => match lo, hi with
    | some (.dat (.int _ l)), none => Cut l s.size s.size fun l _ => k (.dat (.str (s.extract l s.size))) [] 0 []
    | none, some (.dat (.int _ h)) => Cut 0 h s.size fun _ h => k (.dat (.str (s.extract 0 h))) [] 0 []
    | some (.dat (.int _ l)), some (.dat (.int _ h)) => Cut l h s.size fun l h => k (.dat (.str (s.extract l h))) [] 0 []
    | _, _ => False
  | _, _ => False
/-- A slice of a row of one's own. -/
def sliceRowVC (tab : Tab) (g : Nat → Entry) (t : Nat) (h : Nat) (lo hi : Option AVal) (k : Kont) : Prop :=
  match kindAt tab t with
  | .slice e => match nth tab e, g h with
    | some ti, .rows _ sz es _ => bif Nat.beq sz ti.size then match lo, hi with
      | some (.dat (.int _ l)), none => Cut l es.length es.length fun l _ => k (.sub h sz l (es.length - l)) [] 0 [h]
      | none, some (.dat (.int _ c)) => Cut 0 c es.length fun _ c => k (.sub h sz 0 c) [] 0 [h]
      | some (.dat (.int _ l)), some (.dat (.int _ c)) => Cut l c es.length fun l c => k (.sub h sz l (c - l)) [] 0 [h]
      | _, _ => False
      else False
    | _, _ => False
  | _ => False
def convertVC (tab : Tab) (dst : Nat) (x : AVal) (k : Kont) : Prop :=
  match kindAt tab dst, x with
  | .int kd, .dat (.int _ n) => k (.dat (.int kd (kd.wrap n))) [] 0 []
  | .string, .dat (.str s) => k (.dat (.str s)) [] 0 []
  | _, _ => False
def sameTmp : Operand → Operand → Bool
  | .tmp a, .tmp b => Nat.beq a b
  | .const (.int k a), .const (.int k' b) => Nat.beq (kindNo k) (kindNo k') && decide (a = b)
  | _, _ => false
def isNilA : AVal → Bool
  | .nil => true
  | _ => false
/-- Elements that hold slices enough to be told cell by cell. -/
def twoNil (zs : List AVal) : Bool := match zs.filter isNilA with
  | _ :: _ :: _ => true
  | _ => false
def makeSliceVC (tab : Tab) (next : Nat) (t : Nat) (same : Bool) (l c : AVal) (k : Kont) : Prop :=
  match kindAt tab t with
  | .slice e => match nth tab e with
    | some ti => match ti.zero with
      | some zs => match dataAll zs with
        | some ds => bif Nat.blt 0 ti.size && Nat.beq ds.length ti.size then match l, c with
          | .dat (.int .i64 n), .dat (.int .i64 c) => bif same then NotNeg n fun n => Room (n * (ti.bytes + 1)) (k (.row next) [(next, .rows e ti.size (List.replicate n ds) true)] 1 [])
              else match n with
                | 0 => NotNeg c fun c => Room (c * (ti.bytes + 1)) (bif twoNil zs then k (.row next) [(next, .vars e ti.size [] true)] 1 [] else k (.row next) [(next, .rows e ti.size [] true)] 1 [])
                | _ => False
          | _, _ => False
          else False
        | none => False
      | none => False
    | none => False
  | _ => False

/-- Cells, so many for each element. -/
def chunkD : Nat → Nat → List D → (List (List D) → Prop) → Prop
  | 0, _, [], k => k []
  | n + 1, sz, ds, k => takeD sz ds fun _ => dropD sz ds fun rest => chunkD n sz rest fun es => k (ds.take sz :: es)
  | 0, _, _ :: _, _ => False
/-- A function that is called. -/
def fnOf : AVal → Option (FuncId × List AVal × List AVal)
  | .fn (.func id) first caps => some (id, first, caps)
  | .dat (.fn (.func id) ds es) => some (id, ds.map .dat, es.map .dat)
  | _ => none
/-- What an operation asks. -/
def opVC (det : Bool) (tab : Tab) (P : Program) (lk : Operand → AVal) (next : Nat) (g : Nat → Entry) (op : Op) (k : Kont) : Prop :=
  match op with
  | .move x | .assign x => k (lk x) [] 0 []
  | .pick c a b => match lk c with
    | .kb true => k (lk a) [] 0 []
    | .kb false => k (lk b) [] 0 []
    | .dat (.bool t) => BoolCase t (k (lk a) [] 0 []) (k (lk b) [] 0 [])
    | _ => False
  | .alloc T => match nth tab T with
    | some ti => match ti.zero with
      | some zs => bif zs.all (·.one) then k (.ptr next 0) [(next, .vars T zs.length zs true)] 1 [] else False
      | none => False
    | none => False
  | .box T x => match cellsA (lk x) with
    | some vs => k (.ptr next 0) [(next, .vars T vs.length vs true)] 1 []
    | none => False
  | .build T parts => match nth tab T with
    | some ti => match ti.zero with
      | some zs => bif allIn tab ti.kind then fillA (placeOf tab ti.kind) lk parts.toList zs fun cs => k (.agg cs) [] 0 [] else False
      | none => False
    | none => False
  | .buildSlice T n parts => match kindAt tab T with
    | .slice e => match nth tab e with
      | some ti => match n with
        | 0 => bif parts.toList.isEmpty then k .nil [] 0 [] else False
        | _ => match ti.zero with
          | some zs => bif Nat.ble (n * ti.size) 100000 && Nat.blt 0 ti.size && Nat.beq zs.length ti.size then
              fillA (fun i => bif Nat.blt i n then some (i * ti.size, ti.size) else none) lk parts.toList (replL n zs) fun cs => match dataAll cs with
                | some ds => chunkD n ti.size ds fun es => k (.row next) [(next, .rows e ti.size es true)] 1 []
                | none => bif cs.all (·.one) then k (.row next) [(next, .vars e ti.size cs true)] 1 [] else False
            else False
          | none => False
      | none => False
    | _ => False
  | .load T x => loadVC tab g T (lk x) k
  | .store T x v => storeVC tab g T (lk x) (lk v) k
  | .nilCheck x => match lk x with
    | .ptr h o => k (.ptr h o) [] 0 []
    | .eptr h s i o => k (.eptr h s i o) [] 0 []
    | .dat (.ptr ds) => k (.dat (.ptr ds)) [] 0 []
    | _ => False
  | .binOp op T x y _ => binVC tab T op (lk x) (lk y) fun a => k a [] 0 []
  | .unOp .not _ x => match lk x with
    | .kb b => k (.kb (!b)) [] 0 []
    | .dat (.bool b) => k (.dat (.bool (!b))) [] 0 []
    | _ => False
  | .convert src dst x => match nth tab src with
    | some _ => convertVC tab dst (lk x) k
    | none => False
  | .makeFunc f xs ys => k (.fn f (xs.toList.map lk) (ys.toList.map lk)) [] 0 []
  | .makeSlice t l c => makeSliceVC tab next t (sameTmp l c) (lk l) (lk c) k
  | .slice t x lo hi mx => match mx with
    | some _ => False
    | none => match lk x with
      | .row h => sliceRowVC tab g t h (lo.map lk) (hi.map lk) k
      | a => sliceVC tab t a (lo.map lk) (hi.map lk) k
  | .fieldAddr T x f => fieldAt tab T f fun t off => sized tab t (match lk x with
    | .ptr h o => k (.ptr h (o + off)) [] 0 []
    | .eptr h s i o => k (.eptr h s i (o + off)) [] 0 []
    | .dat (.ptr ds) => dropD off ds fun ds' => k (.dat (.ptr ds')) [] 0 []
    | _ => False)
  | .field T x f => fieldAt tab T f fun t off => match lk x with
    | .agg xs => partA tab t xs off fun a => k a [] 0 []
    | _ => False
  | .indexAddr t x n => indexAddrVC tab g t (lk x) (lk n) k
  | .index t x n => indexVC tab t (lk x) (lk n) k
  | .extract x i => match lk x with
    | .tup xs => match nth xs i with
      | some a => k a [] 0 []
      | none => False
    | _ => False
  | .call c => match c.callee with
    | .value f => match lk f with
      | .fn (.func id) first caps => CallOk det P id (first ++ c.args.toList.map lk ++ caps) next g k
      | .dat (.fn (.func id) ds es) => CallOk det P id (ds.map .dat ++ c.args.toList.map lk ++ es.map .dat) next g k
      | _ => False
    | .builtin b => builtinVC tab next g b c.argTypes.toList (c.args.toList.map lk) k
    | _ => False
  | _ => False
end Go.Proofs.YtlioojekjnigiaeGreat.AM
/- The table of types, and the operations that make no memory and look at none. -/
namespace Go.Proofs.YtlioojekjnigiaeGreat.AM
set_option linter.unusedVariables false

def KindOk (d : TypeDesc) : TK → Prop
  | .int k => d = .int k
  | .bool => d = .bool
  | .string => d = .string
  | .slice e => d = .slice e
  | .array n e => d = .array n e
  | .struct fs => ∃ fields, d = .struct fields ∧ fields.toList.map (fun f => (f.type, f.offset)) = fs
  | .pointer e => d = .pointer e
  | .other => (match d with | .struct _ | .array _ _ => true | _ => false) = false
structure TIok (P : Program) (t : Nat) (ti : TI) : Prop where
  zsize : ∀ zs, ti.zero = some zs → zs.length = ti.size
  info : ∃ i, P.info? t = some i ∧ i.size = ti.size ∧ i.bytes = ti.bytes ∧ ∀ zs, ti.zero = some zs → ∃ z, i.zero = some z ∧ z.cells.size = zs.length ∧ ∀ j a, zs[j]? = some a → ∀ r A, VRel r A (z.cells.getD j undef) a
  kind : ∃ d, P.underlying t = some d ∧ KindOk d ti.kind
  eq : ∀ ks, ti.eq = some ks → P.eqGuardType P.depth t = false ∧ ∀ (r : Rho) (A : View) (xs ys : Array Value) (us vs : List AVal) (b : Bool) (w : World), xs.size = us.length → ys.size = vs.length →
    (∀ j a, us[j]? = some a → VRel r A (xs.getD j undef) a) → (∀ j a, vs[j]? = some a → VRel r A (ys.getD j undef) a) → eqL ks us vs = some b → (Op.equalIn 10000 t (.agg xs) (.agg ys)).run P w = .ok b w
def TabOk (P : Program) (tab : Tab) : Prop := ∀ t ti, nth tab t = some ti → TIok P t ti

theorem TIok.agg {P : Program} {t : Nat} {ti : TI} (h : TIok P t ti) (w : World) : (isAgg t).run P w = .ok ti.kind.isAgg w := by
  obtain ⟨d, hd, hk⟩ := h.kind
  simp only [isAgg, Sem.run_bind, run_underlying hd, Result.andThen_ok]
  cases hkk : ti.kind <;> simp only [hkk, KindOk] at hk
  case struct fs => obtain ⟨fields, rfl, _⟩ := hk; rfl
  case other =>
    simp only [TK.isAgg]
    cases d <;> first | rfl | cases hk
  all_goals (subst hk; rfl)
theorem TIok.size {P : Program} {t : Nat} {ti : TI} (h : TIok P t ti) (w : World) : (sizeOf t).run P w = .ok ti.size w := by
  obtain ⟨i, hi, hs, _⟩ := h.info
  simp [sizeOf, typeInfo, hi, hs]
theorem TIok.zero' {P : Program} {t : Nat} {ti : TI} (h : TIok P t ti) {zs : List AVal} (hz : ti.zero = some zs) : ∃ z, (∀ w, (zeroValue t).run P w = .ok z w) ∧ z.cells.size = zs.length ∧ ∀ j a, zs[j]? = some a → ∀ r A, VRel r A (z.cells.getD j undef) a := by
  obtain ⟨i, hi, _, _, hzz⟩ := h.info
  obtain ⟨z, hz1, hz2, hz3⟩ := hzz zs hz
  exact ⟨z, fun w => by simp [zeroValue, typeInfo, hi, hz1], hz2, hz3⟩
theorem TIok.slice {P : Program} {t : Nat} {ti : TI} (h : TIok P t ti) {e : Nat} (hk : ti.kind = .slice e) : P.underlying t = some (.slice e) := by
  obtain ⟨d, hd, hkk⟩ := h.kind
  rw [hk] at hkk
  rw [hd]
  exact congrArg some hkk
theorem kindAt_ok {P : Program} {tab : Tab} (ht : TabOk P tab) {t : Nat} {k : TK} (h : kindAt tab t = k) (hne : k ≠ .other) : ∃ d, P.underlying t = some d ∧ KindOk d k := by
  unfold kindAt at h
  cases hn : nth tab t with
  | none => rw [hn] at h; exact absurd h.symm hne
  | some ti =>
    rw [hn] at h
    obtain ⟨d, h1, h2⟩ := (ht t ti hn).kind
    simp only at h
    exact ⟨d, h1, h ▸ h2⟩
theorem nth_get {α : Type} : ∀ (l : List α) (i : Nat), nth l i = l[i]?
  | [], i => by simp [nth]
  | a :: t, 0 => rfl
  | a :: t, i + 1 => by simp only [nth, List.getElem?_cons_succ]; exact nth_get t i

def Does (P : Program) (o : Oper) (act : Act) (w : World) (R : Value → World → Prop) : Prop :=
  ∀ (K : Act → World → Prop) (Q : Exit → Act → World → Prop), (∀ v w', R v w' → K (act.put o.dst v) w') → o.wp P act w K Q
theorem Does.value {P : Program} {o : Oper} {act : Act} {w w' : World} {R : Value → World → Prop} {v : Value} (h : (execOp act.eval o).run P w = .ok (.value v) w') (hr : R v w') : Does P o act w R := fun K Q hK => by
  unfold Oper.wp
  rw [h, Oper.upon_value]
  exact hK _ _ hr
theorem Does.skip {P : Program} {o : Oper} {act : Act} {w w' : World} {R : Value → World → Prop} (h : (execOp act.eval o).run P w = .ok .skip w') (hr : R undef w') : Does P o act w R := fun K Q hK => by
  unfold Oper.wp
  rw [h, Oper.upon_skip]
  exact hK _ _ hr
theorem Does.mono {P : Program} {o : Oper} {act : Act} {w : World} {R R' : Value → World → Prop} (h : Does P o act w R) (hr : ∀ v w', R v w' → R' v w') : Does P o act w R' :=
  fun K Q hK => h K Q fun v w' hv => hK v w' (hr v w' hv)

/-- What an operation does in whatever world what it looks at is known of. -/
def OpSem (P : Program) (o : Oper) (lk : Operand → AVal) (next : Nat) (g : Nat → Entry) (a : AVal) (ups : Heap) (m : Nat) (rd : List Nat) : Prop :=
  ∀ g2, (∀ h, h ∈ rd → g2 h = g h) → (∀ h, h ∈ ups.map (·.1) → h < next ∨ next + m ≤ h → g2 h = g h) → ∀ (r : Rho) (A : View) (w : World) (act : Act), (∀ h, next ≤ h → h < next + m → r h = none) → Core r A w g2 →
    (∀ x, x ∈ o.op.operands → VRel r A (act.eval x) (lk x)) → Does P o act w (OpPost r A w g2 ups next m a)
/-- It only reckons. -/
theorem OpSem.plain {P : Program} {o : Oper} {lk : Operand → AVal} {next : Nat} {g : Nat → Entry} {a : AVal} {rd : List Nat}
    (h : ∀ g2, (∀ h, h ∈ rd → g2 h = g h) → ∀ (r : Rho) (A : View) (w : World) (act : Act), Core r A w g2 → (∀ x, x ∈ o.op.operands → VRel r A (act.eval x) (lk x)) → ∃ v, (execOp act.eval o).run P w = .ok (.value v) w ∧ VRel r A v a) : OpSem P o lk next g a [] 0 rd :=
  fun g2 h1 _ r A w act _ hc hv => let ⟨v, k1, k2⟩ := h g2 h1 r A w act hc hv; Does.value k1 (OpPost.same hc k2)

section
variable {P : Program} {tab : Tab} {lk : Operand → AVal} {next : Nat} {g : Nat → Entry} {k : Kont} {o : Oper}

/-- What comes of an operation's asking. -/
def Sound (P : Program) (o : Oper) (lk : Operand → AVal) (next : Nat) (g : Nat → Entry) (k : Kont) : Prop := ∃ a ups m rd, k a ups m rd ∧ OpSem P o lk next g a ups m rd
theorem Sound.plain {a : AVal} {rd : List Nat} (hk : k a [] 0 rd)
    (h : ∀ g2, (∀ h, h ∈ rd → g2 h = g h) → ∀ (r : Rho) (A : View) (w : World) (act : Act), Core r A w g2 → (∀ x, x ∈ o.op.operands → VRel r A (act.eval x) (lk x)) → ∃ v, (execOp act.eval o).run P w = .ok (.value v) w ∧ VRel r A v a) : Sound P o lk next g k :=
  ⟨a, [], 0, rd, hk, OpSem.plain h⟩

theorem sound_move {x : Operand} (ho : o.op = .move x ∨ o.op = .assign x) (hk : k (lk x) [] 0 []) : Sound P o lk next g k := by
  refine Sound.plain hk fun g2 _ r A w act hc hv => ⟨act.eval x, ?_, hv x ?_⟩
  · rcases ho with ho | ho <;> simp [execOp, ho]
  · rcases ho with ho | ho <;> simp [ho, Op.operands]
theorem sound_pick {c a b : Operand} (ho : o.op = .pick c a b) (h : match lk c with
    | .kb true => k (lk a) [] 0 []
    | .kb false => k (lk b) [] 0 []
    | .dat (.bool t) => BoolCase t (k (lk a) [] 0 []) (k (lk b) [] 0 [])
    | _ => False) : Sound P o lk next g k := by
  have hops : o.op.operands = #[c, a, b] := by simp [ho, Op.operands]
  have key : ∀ (t : Bool), (∀ r A v, VRel r A v (lk c) → v = .bool t) → k (lk (if t then a else b)) [] 0 [] → Sound P o lk next g k := fun t ht hk => by
    refine Sound.plain hk fun g2 _ r A w act hc hv => ⟨act.eval (if t then a else b), ?_, hv _ ?_⟩
    · have := ht r A _ (hv c (by simp [hops]))
      cases t <;> simp [execOp, ho, this, asBool]
    · cases t <;> simp [hops]
  split at h
  · rename_i hc
    exact key true (fun r A v hv => by rw [hc] at hv; cases hv; rfl) h
  · rename_i hc
    exact key false (fun r A v hv => by rw [hc] at hv; cases hv; rfl) h
  · rename_i t hc
    cases t
    · exact key false (fun r A v hv => by rw [hc] at hv; cases hv with | dat h => cases h; rfl) (h.onFalse rfl)
    · exact key true (fun r A v hv => by rw [hc] at hv; cases hv with | dat h => cases h; rfl) (h.onTrue rfl)
  · exact h.elim
theorem sound_not {t : Nat} {x : Operand} (ho : o.op = .unOp .not t x) (h : match lk x with
    | .kb b => k (.kb (!b)) [] 0 []
    | .dat (.bool b) => k (.dat (.bool (!b))) [] 0 []
    | _ => False) : Sound P o lk next g k := by
  split at h
  · rename_i b hx
    refine Sound.plain h fun g2 _ r A w act hc hv => ?_
    have := hv x (by simp [ho, Op.operands])
    rw [hx] at this
    generalize hvv : act.eval x = v at this
    cases this
    exact ⟨_, by simp [execOp, ho, hvv, Op.unary], .kb _⟩
  · rename_i b hx
    refine Sound.plain h fun g2 _ r A w act hc hv => ?_
    have := hv x (by simp [ho, Op.operands])
    rw [hx] at this
    generalize hvv : act.eval x = v at this
    cases this with
    | dat h =>
      cases h
      exact ⟨_, by simp [execOp, ho, hvv, Op.unary], .dat (.bool _)⟩
  · exact h.elim
theorem sound_extract {x : Operand} {i : Nat} (ho : o.op = .extract x i) (h : match lk x with
    | .tup xs => match nth xs i with
      | some a => k a [] 0 []
      | none => False
    | _ => False) : Sound P o lk next g k := by
  split at h
  · rename_i xs hx
    split at h
    · rename_i a ha
      refine Sound.plain h fun g2 _ r A w act hc hv => ?_
      have := hv x (by simp [ho, Op.operands])
      rw [hx] at this
      generalize hvv : act.eval x = v at this
      cases this with
      | tup cs _ hn hh =>
        rw [nth_get] at ha
        have hlt : i < cs.size := by rw [hn]; exact (List.getElem?_eq_some_iff.1 ha).1
        exact ⟨cs.getD i undef, by simp [execOp, ho, hvv, Instr.extract, hlt], hh i a ha⟩
    · exact h.elim
  · exact h.elim
theorem sound_makeFunc {f : Fn} {xs ys : Array Operand} (ho : o.op = .makeFunc f xs ys) (h : k (.fn f (xs.toList.map lk) (ys.toList.map lk)) [] 0 []) : Sound P o lk next g k := by
  refine Sound.plain h fun g2 _ r A w act hc hv => ⟨.func f (xs.map act.eval) (ys.map act.eval), by simp [execOp, ho, Instr.makeFunc], ?_⟩
  refine .fn f _ _ _ _ (by simp) (by simp) (fun j a ha => ?_) (fun j a ha => ?_)
  · simp only [List.getElem?_map, Option.map_eq_some_iff] at ha
    obtain ⟨x, hx, rfl⟩ := ha
    have hx' : xs[j]? = some x := by simpa using hx
    have hlt : j < xs.size := (Array.getElem?_eq_some_iff.1 hx').1
    have he : xs[j] = x := by simpa [hlt] using hx'
    have : (xs.map act.eval).getD j undef = act.eval x := by simp [hlt, he]
    rw [this]
    exact hv x (by simp [ho, Op.operands]; exact .inl (Array.mem_of_getElem? hx'))
  · simp only [List.getElem?_map, Option.map_eq_some_iff] at ha
    obtain ⟨x, hx, rfl⟩ := ha
    have hx' : ys[j]? = some x := by simpa using hx
    have hlt : j < ys.size := (Array.getElem?_eq_some_iff.1 hx').1
    have he : ys[j] = x := by simpa [hlt] using hx'
    have : (ys.map act.eval).getD j undef = act.eval x := by simp [hlt, he]
    rw [this]
    exact hv x (by simp [ho, Op.operands]; exact .inr (Array.mem_of_getElem? hx'))
theorem sound_nilCheck {x : Operand} (ho : o.op = .nilCheck x) (h : match lk x with
    | .ptr h o => k (.ptr h o) [] 0 []
    | .eptr h s i o => k (.eptr h s i o) [] 0 []
    | .dat (.ptr ds) => k (.dat (.ptr ds)) [] 0 []
    | _ => False) : Sound P o lk next g k := by
  have key : k (lk x) [] 0 [] → (∀ r A v, VRel r A v (lk x) → ∃ a, v = .pointer (some a)) → Sound P o lk next g k := fun hk hp => by
    refine Sound.plain hk fun g2 _ r A w act hc hv => ?_
    have hvx := hv x (by simp [ho, Op.operands])
    obtain ⟨a, ha⟩ := hp r A _ hvx
    exact ⟨.pointer (some a), by simp [execOp, ho, ha], ha ▸ hvx⟩
  split at h
  · rename_i hx
    exact key (by rw [hx]; exact h) fun r A v hv => by rw [hx] at hv; cases hv; exact ⟨_, rfl⟩
  · rename_i hx
    exact key (by rw [hx]; exact h) fun r A v hv => by rw [hx] at hv; cases hv; exact ⟨_, rfl⟩
  · rename_i hx
    exact key (by rw [hx]; exact h) fun r A v hv => by rw [hx] at hv; cases hv with | dat h => cases h; exact ⟨_, rfl⟩
  · exact h.elim
end
end Go.Proofs.YtlioojekjnigiaeGreat.AM
/- Operations that look at memory: fields, loads. -/
namespace Go.Proofs.YtlioojekjnigiaeGreat.AM
set_option linter.unusedVariables false

theorem takeA_ok : ∀ (n : Nat) (l : List AVal) (k : List AVal → Prop), takeA n l k → n ≤ l.length ∧ k (l.take n)
  | 0, l, k, h => ⟨Nat.zero_le _, by simpa [takeA] using h⟩
  | n + 1, a :: t, k, h => by
    obtain ⟨h1, h2⟩ := takeA_ok n t _ h
    exact ⟨by simp; omega, by simpa using h2⟩
  | n + 1, [], k, h => h.elim
theorem takeD_ok : ∀ (n : Nat) (l : List D) (k : List D → Prop), takeD n l k → n ≤ l.length ∧ k (l.take n)
  | 0, l, k, h => ⟨Nat.zero_le _, by simpa [takeD] using h⟩
  | n + 1, a :: t, k, h => by
    obtain ⟨h1, h2⟩ := takeD_ok n t _ h
    exact ⟨by simp; omega, by simpa using h2⟩
  | n + 1, [], k, h => h.elim
theorem dropA_ok : ∀ (n : Nat) (l : List AVal) (k : List AVal → Prop), dropA n l k → n ≤ l.length ∧ k (l.drop n)
  | 0, l, k, h => ⟨Nat.zero_le _, by simpa [dropA] using h⟩
  | n + 1, a :: t, k, h => by
    obtain ⟨h1, h2⟩ := dropA_ok n t _ h
    exact ⟨by simp; omega, by simpa using h2⟩
  | n + 1, [], k, h => h.elim
theorem dropD_ok : ∀ (n : Nat) (l : List D) (k : List D → Prop), dropD n l k → n ≤ l.length ∧ k (l.drop n)
  | 0, l, k, h => ⟨Nat.zero_le _, by simpa [dropD] using h⟩
  | n + 1, a :: t, k, h => by
    obtain ⟨h1, h2⟩ := dropD_ok n t _ h
    exact ⟨by simp; omega, by simpa using h2⟩
  | n + 1, [], k, h => h.elim

section
variable {P : Program} {tab : Tab} {lk : Operand → AVal} {next : Nat} {g : Nat → Entry} {k : Kont} {o : Oper}

theorem fieldAt_ok (ht : TabOk P tab) {T f : Nat} {k : Nat → Nat → Prop} (h : fieldAt tab T f k) : ∃ fields fd, P.underlying T = some (.struct fields) ∧ fields[f]? = some fd ∧ k fd.type fd.offset := by
  unfold fieldAt at h
  split at h
  · rename_i fs hk
    obtain ⟨d, hd, fields, rfl, hfs⟩ := kindAt_ok ht hk (by simp)
    split at h
    · rename_i t off hn
      rw [nth_get, ← hfs, List.getElem?_map, Option.map_eq_some_iff] at hn
      obtain ⟨fd, hf1, hf2⟩ := hn
      simp only [Prod.mk.injEq] at hf2
      obtain ⟨rfl, rfl⟩ := hf2
      exact ⟨fields, fd, hd, by simpa using hf1, h⟩
    · exact h.elim
  · exact h.elim
theorem sized_ok (ht : TabOk P tab) {t : Nat} {k : Prop} (h : sized tab t k) : ∃ n, 0 < n ∧ (∀ w, (sizeOf t).run P w = .ok n w) ∧ k := by
  unfold sized at h
  split at h
  · rename_i ti hn
    cases hb : Nat.blt 0 ti.size
    · rw [hb] at h; exact h.elim
    · rw [hb] at h
      exact ⟨ti.size, by simpa [Nat.blt_eq] using hb, fun w => (ht t ti hn).size w, h⟩
  · exact h.elim
theorem sound_fieldAddr (ht : TabOk P tab) {T f : Nat} {x : Operand} (ho : o.op = .fieldAddr T x f) (h : fieldAt tab T f fun t off => sized tab t (match lk x with
    | .ptr h o => k (.ptr h (o + off)) [] 0 []
    | .eptr h s i o => k (.eptr h s i (o + off)) [] 0 []
    | .dat (.ptr ds) => dropD off ds fun ds' => k (.dat (.ptr ds')) [] 0 []
    | _ => False)) : Sound P o lk next g k := by
  obtain ⟨fields, fd, h1, h2, h3⟩ := fieldAt_ok ht h
  obtain ⟨n, hn, hs, h4⟩ := sized_ok ht h3
  clear h h3
  have hne : ¬ n = 0 := by omega
  have run : ∀ (w : World) (act : Act) (a : Addr), act.eval x = .pointer (some a) → (execOp act.eval o).run P w = .ok (.value (.pointer (some (a.add fd.offset)))) w := fun w act a ha => by
    simp [execOp, ho, ha, Instr.fieldAt, run_underlying h1, h2, Instr.sureAddr, fieldPlace, hs, hne]
  split at h4
  · rename_i hh oo hx
    refine Sound.plain h4 fun g2 _ r A w act hc hv => ?_
    have := hv x (by simp [ho, Op.operands])
    rw [hx] at this
    generalize hvv : act.eval x = v at this
    cases this with
    | ptr _ _ b n cap hb => exact ⟨_, run w act _ hvv, by rw [Addr.add_lit]; exact .ptr _ _ b n cap hb⟩
  · rename_i hh ss ii oo hx
    refine Sound.plain h4 fun g2 _ r A w act hc hv => ?_
    have := hv x (by simp [ho, Op.operands])
    rw [hx] at this
    generalize hvv : act.eval x = v at this
    cases this with
    | eptr _ _ _ _ b n cap hb => exact ⟨_, run w act _ hvv, by rw [Addr.add_lit, Nat.add_assoc]; exact .eptr _ _ _ _ b n cap hb⟩
  · rename_i ds hx
    obtain ⟨hle, h5⟩ := dropD_ok _ _ _ h4
    refine Sound.plain h5 fun g2 _ r A w act hc hv => ?_
    have := hv x (by simp [ho, Op.operands])
    rw [hx] at this
    generalize hvv : act.eval x = v at this
    cases this with
    | dat hr =>
      cases hr with
      | ptr b off _ f ha hr =>
        refine ⟨_, run w act _ hvv, ?_⟩
        rw [Addr.add_lit]
        refine .dat (.ptr b _ _ (fun j => f (fd.offset + j)) (fun j hj => ?_) (fun j d hd => ?_))
        · rw [Nat.add_assoc]; exact ha _ (by simp at hj; omega)
        · exact hr _ d (by simpa [List.getElem?_drop] using hd)
  · exact h4.elim
/-- A part of a value's cells. -/
theorem partA_ok (ht : TabOk P tab) {T off : Nat} {xs : List AVal} {k : AVal → Prop} (h : partA tab T xs off k) : ∃ ti a, nth tab T = some ti ∧ k a ∧ off ≤ xs.length ∧
    ((ti.kind.isAgg = true ∧ off + ti.size ≤ xs.length ∧ a = .agg ((xs.drop off).take ti.size)) ∨ (ti.kind.isAgg = false ∧ xs[off]? = some a)) := by
  unfold partA at h
  split at h
  · exact h.elim
  · rename_i ti hn
    obtain ⟨h1, h2⟩ := dropA_ok _ _ _ h
    cases hk : ti.kind.isAgg
    · rw [hk, cond_false] at h2
      split at h2
      · exact h2.elim
      · rename_i a t he
        refine ⟨ti, a, hn, h2, h1, .inr ⟨hk, ?_⟩⟩
        have : (xs.drop off)[0]? = some a := by rw [he]; rfl
        simpa using this
    · rw [hk, cond_true] at h2
      obtain ⟨h3, h4⟩ := takeA_ok _ _ _ h2
      exact ⟨ti, _, hn, h4, h1, .inl ⟨hk, by simp at h3; omega, rfl⟩⟩
theorem vrel_agg_part {r : Rho} {A : View} {cs : Array Value} {xs : List AVal} (hn : cs.size = xs.length) (hx : ∀ j a, xs[j]? = some a → VRel r A (cs.getD j undef) a) (off n : Nat) (hle : off + n ≤ xs.length) :
    VRel r A (.agg (cs.extract off (off + n))) (.agg ((xs.drop off).take n)) := by
  refine .agg _ _ (by simp; omega) fun j a ha => ?_
  rw [List.getElem?_take] at ha
  split at ha
  · rename_i hj
    rw [List.getElem?_drop] at ha
    have := hx _ a ha
    have hlt : off + j < cs.size := by omega
    have hlt2 : j < min (off + n) cs.size - off := by omega
    simpa [hlt, hj, hlt2] using this
  · cases ha
theorem part_run (ht : TabOk P tab) {T off : Nat} {xs : List AVal} {k : AVal → Prop} (h : partA tab T xs off k) : ∃ a, k a ∧ ∀ (r : Rho) (A : View) (cs : Array Value), cs.size = xs.length → (∀ j a, xs[j]? = some a → VRel r A (cs.getD j undef) a) → ∀ w,
    ∃ v, (part T cs off).run P w = .ok v w ∧ VRel r A v a := by
  obtain ⟨ti, a, h1, h2, h3, h4⟩ := partA_ok ht h
  have hok := ht T ti h1
  refine ⟨a, h2, fun r A cs hn hx w => ?_⟩
  rcases h4 with ⟨hk, hle, rfl⟩ | ⟨hk, ha⟩
  · exact ⟨.agg (cs.extract off (off + ti.size)), by simp [part, hok.agg, hk, hok.size], vrel_agg_part hn hx off _ hle⟩
  · have hlt : off < cs.size := by rw [hn]; exact (List.getElem?_eq_some_iff.1 ha).1
    exact ⟨cs.getD off undef, by simp [part, hok.agg, hk, hlt], hx off a ha⟩
theorem sound_field (ht : TabOk P tab) {T f : Nat} {x : Operand} (ho : o.op = .field T x f) (h : fieldAt tab T f fun t off => match lk x with
    | .agg xs => partA tab t xs off fun a => k a [] 0 []
    | _ => False) : Sound P o lk next g k := by
  obtain ⟨fields, fd, h1, h2, h3⟩ := fieldAt_ok ht h
  split at h3
  · rename_i xs hx
    obtain ⟨a, hk, hp⟩ := part_run ht h3
    refine Sound.plain hk fun g2 _ r A w act hc hv => ?_
    have := hv x (by simp [ho, Op.operands])
    rw [hx] at this
    generalize hvv : act.eval x = v at this
    cases this with
    | agg cs _ hn hh =>
      obtain ⟨v, k1, k2⟩ := hp r A cs hn hh w
      exact ⟨v, by simp [execOp, ho, hvv, Instr.field, run_underlying h1, h2, asAgg, k1], k2⟩
  · exact h3.elim

/-- What stands in memory from a place on, read whole or a cell. -/
def place (w : World) (b off j : Nat) : Value := (w.cell? ⟨b, off + j, none⟩).getD undef
theorem loadVar_run (ht : TabOk P tab) {T : Nat} {ti : TI} (hn : nth tab T = some ti) (w : World) (b off : Nat) :
    (ti.kind.isAgg = true → (∀ j, j < ti.size → ∃ v, w.cell? ⟨b, off + j, none⟩ = some v) → (loadVar T ⟨b, off, none⟩).run P w = .ok (.agg ((List.range ti.size).map (place w b off)).toArray) w) ∧
    (ti.kind.isAgg = false → (∃ v, w.cell? ⟨b, off + 0, none⟩ = some v) → (loadVar T ⟨b, off, none⟩).run P w = .ok (place w b off 0) w) := by
  have hok := ht T ti hn
  refine ⟨fun hk hr => ?_, fun hk ⟨v, hv⟩ => ?_⟩
  · have hl := run_loadCells_list (P := P) w ⟨b, off, none⟩ ((List.range ti.size).map (place w b off)) (fun j v hv => by
      rw [Addr.add_lit]
      simp only [List.getElem?_map, Option.map_eq_some_iff] at hv
      obtain ⟨i, hi, rfl⟩ := hv
      have hij : i = j ∧ j < ti.size := by
        rw [List.getElem?_eq_some_iff] at hi
        obtain ⟨h1, h2⟩ := hi
        simp at h1 h2
        exact ⟨h2.symm, h1⟩
      obtain ⟨rfl, hlt⟩ := hij
      obtain ⟨v, hv⟩ := hr _ hlt
      simp [place, hv])
    simp only [List.length_map, List.length_range] at hl
    simp [loadVar, hok.agg, hk, hok.size, hl]
  · simp only [Nat.add_zero] at hv
    simp [loadVar, hok.agg, hk, place, hv]
/-- A load, of what is known cell by cell. -/
theorem load_known (ht : TabOk P tab) {T : Nat} {ti : TI} (hn : nth tab T = some ti) {xs : List AVal} {off : Nat} {a : AVal}
    (ha : (ti.kind.isAgg = true ∧ off + ti.size ≤ xs.length ∧ a = .agg ((xs.drop off).take ti.size)) ∨ (ti.kind.isAgg = false ∧ xs[off]? = some a))
    {r : Rho} {A : View} {w : World} {b o : Nat} (hx : ∀ j a, xs[j]? = some a → ∃ v, w.cell? ⟨b, o + j, none⟩ = some v ∧ VRel r A v a) : ∃ v, (loadVar T ⟨b, o + off, none⟩).run P w = .ok v w ∧ VRel r A v a := by
  obtain ⟨l1, l2⟩ := loadVar_run ht hn w b (o + off)
  rcases ha with ⟨hk, hle, rfl⟩ | ⟨hk, ha⟩
  · have hr : ∀ j, j < ti.size → ∃ v, w.cell? ⟨b, o + off + j, none⟩ = some v := fun j hj => by
      obtain ⟨v, h1, _⟩ := hx (off + j) (xs[off + j]'(by omega)) (List.getElem?_eq_getElem _)
      exact ⟨v, by rw [Nat.add_assoc]; exact h1⟩
    refine ⟨_, l1 hk hr, .agg _ _ (by simp; omega) fun j a ha => ?_⟩
    rw [List.getElem?_take] at ha
    split at ha
    · rename_i hj
      rw [List.getElem?_drop] at ha
      obtain ⟨v, h1, h2⟩ := hx _ a ha
      have : (((List.range ti.size).map (place w b (o + off))).toArray.getD j undef) = v := by
        simp [hj, place, Nat.add_assoc, h1]
      rw [this]; exact h2
    · cases ha
  · obtain ⟨v, h1, h2⟩ := hx off a ha
    refine ⟨_, l2 hk ⟨v, by simpa using h1⟩, ?_⟩
    have : place w b (o + off) 0 = v := by simp [place, h1]
    rw [this]; exact h2
theorem Core.var {r : Rho} {A : View} {w : World} (hc : Core r A w g) {h T sz : Nat} {cs : List AVal} {l : Bool} (hg : g h = .vars T sz cs l) : ∃ b n cap, r h = some ⟨some b, n, cap⟩ ∧ cs.length = n * sz ∧ n ≤ cap ∧ ∀ j a, cs[j]? = some a → a.one = true ∧ ∃ v, w.cell? ⟨b, j, none⟩ = some v ∧ VRel r A v a := by
  have := hc.ent h
  rw [hg] at this
  cases l
  · obtain ⟨b, n, cap, h1, h2, h3, h4⟩ := this
    exact ⟨b, n, cap, h1, h3, h2, fun j a ha => let ⟨k1, v, k2, k3⟩ := h4 j a ha; ⟨k1, v, hc.view _ _ _ k2, k3⟩⟩
  · obtain ⟨b, n, cap, cells, h1, h2, h3, h4, h5, h6, h7, h8⟩ := this
    refine ⟨b, n, cap, h1, h6, h5, fun j a ha => ⟨(h7 j a ha).2, cells.getD j undef, ?_, (h7 j a ha).1⟩⟩
    have hlt : j < cells.size := by
      have := (List.getElem?_eq_some_iff.1 ha).1
      have hm : n * sz ≤ cap * sz := Nat.mul_le_mul_right _ h5
      omega
    exact cell_of h2 (getD_some hlt undef)
theorem elem_place {es : List (List D)} {sz i j : Nat} {e : List D} (he : es[i]? = some e) (hs : ∀ e ∈ es, e.length = sz) (hj : j < e.length) : i < es.length ∧ j < sz ∧ i * sz + j < es.length * sz := by
  have h1 := (List.getElem?_eq_some_iff.1 he).1
  have h2 := hs e (List.mem_of_getElem? he)
  refine ⟨h1, by omega, ?_⟩
  have : (i + 1) * sz ≤ es.length * sz := Nat.mul_le_mul_right _ h1
  rw [Nat.add_mul] at this
  omega
theorem Core.elems {r : Rho} {A : View} {w : World} (hc : Core r A w g) {h T sz : Nat} {es : List (List D)} {l : Bool} (hg : g h = .rows T sz es l) : (∀ e ∈ es, e.length = sz) ∧ ((r h = some ⟨none, 0, 0⟩ ∧ es = []) ∨ ∃ b cap, r h = some ⟨some b, es.length, cap⟩ ∧ es.length ≤ cap ∧
    ∀ i e, es[i]? = some e → ∀ j d, e[j]? = some d → ∃ v, w.cell? ⟨b, i * sz + j, none⟩ = some v ∧ Rep A v d) := by
  have := hc.ent h
  rw [hg] at this
  cases l
  · obtain ⟨h0, h1 | ⟨b, cap, h1, h2, f, h3, h4⟩⟩ := this
    · exact ⟨h0, .inl h1⟩
    · refine ⟨h0, .inr ⟨b, cap, h1, h2, fun i e he j d hd => ⟨f i j, ?_, h4 i e he j d hd⟩⟩⟩
      obtain ⟨k1, k2, _⟩ := elem_place he h0 (List.getElem?_eq_some_iff.1 hd).1
      exact hc.view _ _ _ (h3 i j k1 k2)
  · obtain ⟨h0, h1 | ⟨b, cap, cells, h1, h2, h3, h4, h5, h6, h7⟩⟩ := this
    · exact ⟨h0, .inl h1⟩
    · refine ⟨h0, .inr ⟨b, cap, h1, h5, fun i e he j d hd => ⟨_, ?_, h6 i e he j d hd⟩⟩⟩
      obtain ⟨k1, k2, k3⟩ := elem_place he h0 (List.getElem?_eq_some_iff.1 hd).1
      have hm : es.length * sz ≤ cap * sz := Nat.mul_le_mul_right _ h5
      exact cell_of h2 (getD_some (by omega) undef)
theorem Rep.elems {A : View} {a : Option Addr} {len cap : Nat} {es : List (List D)} (h : Rep A (.slice a len cap) (.list es)) : len = es.length ∧ es.length ≤ cap ∧ ∃ sz, (∀ e ∈ es, e.length = sz) ∧ (es ≠ [] → ∃ b off, a = some ⟨b, off, none⟩ ∧
    ∀ i e, es[i]? = some e → ∀ j d, e[j]? = some d → ∃ v, A b (off + i * sz + j) = some v ∧ Rep A v d) := by
  cases h with
  | list _ _ sz _ f hc hs ha hr =>
    refine ⟨rfl, hc, sz, hs, fun hne => ?_⟩
    obtain ⟨b, off, rfl, h1⟩ := ha hne
    refine ⟨b, off, rfl, fun i e he j d hd => ⟨f i j, ?_, hr i e he j d hd⟩⟩
    obtain ⟨k1, k2, _⟩ := elem_place he hs (List.getElem?_eq_some_iff.1 hd).1
    exact h1 i j k1 k2
theorem partD_ok {T : Nat} {ds : List D} {k : AVal → Prop} (h : partD tab T ds k) : ∃ ti a, nth tab T = some ti ∧ k a ∧
    ((ti.kind.isAgg = true ∧ 0 + ti.size ≤ (ds.map AVal.dat).length ∧ a = .agg (((ds.map AVal.dat).drop 0).take ti.size)) ∨ (ti.kind.isAgg = false ∧ (ds.map AVal.dat)[0]? = some a)) := by
  unfold partD at h
  split at h
  · exact h.elim
  · rename_i ti hn
    cases hk : ti.kind.isAgg
    · rw [hk, cond_false] at h
      split at h
      · exact h.elim
      · rename_i d t
        exact ⟨ti, _, hn, h, .inr ⟨hk, by simp⟩⟩
    · rw [hk, cond_true] at h
      obtain ⟨h3, h4⟩ := takeD_ok _ _ _ h
      exact ⟨ti, _, hn, h4, .inl ⟨hk, by simpa using h3, by simp [List.map_take]⟩⟩
theorem sound_load (ht : TabOk P tab) {T : Nat} {x : Operand} (ho : o.op = .load T x) (h : loadVC tab g T (lk x) k) : Sound P o lk next g k := by
  have run : ∀ (w : World) (act : Act) (a : Addr) (v : Value), act.eval x = .pointer (some a) → (loadVar T a).run P w = .ok v w → (execOp act.eval o).run P w = .ok (.value v) w := fun w act a v ha hv => by
    simp [execOp, ho, ha, Instr.loadAt, Instr.sureAddr, hv]
  unfold loadVC at h
  split at h
  · rename_i hh off hx
    split at h
    · rename_i T' sz cs l hg
      obtain ⟨ti, a, h1, h2, h3, h4⟩ := partA_ok ht h
      refine Sound.plain h2 fun g2 hg2 r A w act hc hv => ?_
      have := hv x (by simp [ho, Op.operands])
      rw [hx] at this
      generalize hvv : act.eval x = v at this
      cases this with
      | ptr _ _ b n cap hb =>
        obtain ⟨b', n', cap', e1, _, _, e2⟩ := hc.var (h := hh) ((hg2 hh (by simp)).trans hg)
        rw [hb] at e1
        simp only [Option.some.injEq, Loc.mk.injEq] at e1
        obtain ⟨rfl, rfl, rfl⟩ := e1
        obtain ⟨v, k1, k2⟩ := load_known ht h1 (off := off) (o := 0) (b := b) h4 (r := r) (A := A) (w := w) (fun j a ha => by rw [Nat.zero_add]; exact (e2 j a ha).2)
        rw [Nat.zero_add] at k1
        exact ⟨v, run w act _ v hvv k1, k2⟩
    · exact h.elim
  · rename_i hh sz i off hx
    split at h
    · rename_i T' sz' es l hg
      cases hb : Nat.beq sz sz'
      · rw [hb] at h; exact h.elim
      rw [hb, cond_true] at h
      obtain rfl := Nat.eq_of_beq_eq_true hb
      obtain ⟨e, he, h⟩ := h
      obtain ⟨hle, h⟩ := dropD_ok _ _ _ h
      obtain ⟨ti, a, h1, h2, h4⟩ := partD_ok h
      refine Sound.plain h2 fun g2 hg2 r A w act hc hv => ?_
      have := hv x (by simp [ho, Op.operands])
      rw [hx] at this
      generalize hvv : act.eval x = v at this
      cases this with
      | eptr _ _ _ _ b n cap hb =>
        obtain ⟨hs, ⟨e1, rfl⟩ | ⟨b', cap', e1, _, e2⟩⟩ := hc.elems (h := hh) ((hg2 hh (by simp)).trans hg)
        · simp at he
        rw [hb] at e1
        simp only [Option.some.injEq, Loc.mk.injEq] at e1
        obtain ⟨rfl, rfl, rfl⟩ := e1
        obtain ⟨v, k1, k2⟩ := load_known ht h1 (off := 0) (o := i * sz + off) (b := b) h4 (r := r) (A := A) (w := w) (fun j a ha => by
          simp only [List.getElem?_map, Option.map_eq_some_iff, List.getElem?_drop] at ha
          obtain ⟨d, hd, rfl⟩ := ha
          obtain ⟨v, k1, k2⟩ := e2 i e he _ d hd
          exact ⟨v, by rw [Nat.add_assoc]; exact k1, .dat k2⟩)
        exact ⟨v, run w act _ v hvv k1, k2⟩
    · exact h.elim
  · rename_i ds hx
    obtain ⟨ti, a, h1, h2, h4⟩ := partD_ok h
    refine Sound.plain h2 fun g2 hg2 r A w act hc hv => ?_
    have := hv x (by simp [ho, Op.operands])
    rw [hx] at this
    generalize hvv : act.eval x = v at this
    cases this with
    | dat hr =>
      cases hr with
      | ptr b off _ f ha hr =>
        obtain ⟨v, k1, k2⟩ := load_known ht h1 (off := 0) (o := off) (b := b) h4 (r := r) (A := A) (w := w) (fun j a ha' => by
          simp only [List.getElem?_map, Option.map_eq_some_iff] at ha'
          obtain ⟨d, hd, rfl⟩ := ha'
          exact ⟨f j, hc.view _ _ _ (ha j (List.getElem?_eq_some_iff.1 hd).1), .dat (hr j d hd)⟩)
        exact ⟨v, run w act _ v hvv k1, k2⟩
  · exact h.elim
end
end Go.Proofs.YtlioojekjnigiaeGreat.AM
/- Operations that make memory, or change it. -/
namespace Go.Proofs.YtlioojekjnigiaeGreat.AM
set_option linter.unusedVariables false
set_option linter.unusedSimpArgs false

section
variable {P : Program} {tab : Tab} {lk : Operand → AVal} {next : Nat} {g : Nat → Entry} {k : Kont} {o : Oper}

theorem cellsA_ok {r : Rho} {A : View} {v : Value} {a : AVal} {vs : List AVal} (h : cellsA a = some vs) (hv : VRel r A v a) : v.cells.size = vs.length ∧ ∀ j b, vs[j]? = some b → VRel r A (v.cells.getD j undef) b ∧ b.one = true := by
  have one : ∀ b, b.one = true → VRel r A v b → v.cells.size = 1 ∧ ∀ j c, [b][j]? = some c → VRel r A (v.cells.getD j undef) c ∧ c.one = true := fun b hb hv => by
    have h1 := hv.one hb
    have hc : v.cells = #[v] := by cases v <;> first | rfl | cases h1
    refine ⟨by rw [hc]; rfl, fun j c hj => ?_⟩
    match j with
    | 0 =>
      obtain rfl : b = c := by simpa using hj
      rw [hc]
      exact ⟨hv, hb⟩
    | j + 1 => simp at hj
  cases a with
  | any => cases h
  | tup => cases h
  | agg xs =>
    simp only [cellsA] at h
    cases hall : xs.all (·.one)
    · rw [hall] at h; cases h
    · rw [hall] at h
      cases h
      cases hv with
      | agg cs _ hn hx =>
        refine ⟨hn, fun j b hb => ⟨hx j b hb, ?_⟩⟩
        exact List.all_eq_true.1 hall b (List.mem_of_getElem? hb)
  | _ => cases h; exact one _ rfl hv

/-- A new row of variables. -/
theorem new_vars {r : Rho} {A : View} {w : World} (hc : Core r A w g) (hn : r next = none) (T n sz : Nat) (cells : Array Value) (vs : List AVal) (hs : cells.size = vs.length) (hl : vs.length = n * sz) (hm : n ≤ maxLen)
    (hv : ∀ j b, vs[j]? = some b → VRel r A (cells.getD j undef) b ∧ b.one = true) :
    RSub r (r.set next ⟨some w.heap.size, n, n⟩) ∧ (∀ h, h < next ∨ next + 1 ≤ h → (r.set next ⟨some w.heap.size, n, n⟩) h = r h) ∧ Core (r.set next ⟨some w.heap.size, n, n⟩) A (w.alloc (.cells cells T)) (over [(next, .vars T sz vs true)] g) ∧
      Fr w A (w.alloc (.cells cells T)) A (LiveB r g) ∧ ∀ b, LiveB (r.set next ⟨some w.heap.size, n, n⟩) (over [(next, .vars T sz vs true)] g) b → LiveB r g b ∨ w.heap.size ≤ b := by
  refine Core.new hc hn cells T n n _ ?_
  refine ⟨w.heap.size, n, n, cells, Rho.set_same, heap_alloc_new w _, by rw [hs, hl], hm, Nat.le_refl _, hl, fun j b hb => ⟨(hv j b hb).1.mono (Rho.set_sub hn) (Sub.refl A), (hv j b hb).2⟩, fun oo => ?_⟩
  cases hA : A w.heap.size oo with
  | none => rfl
  | some v => exact absurd (hc.view_lt hA) (Nat.lt_irrefl _)
theorem maxLen_one : 1 ≤ maxLen := by unfold maxLen; omega

theorem sound_box {T : Nat} {x : Operand} (ho : o.op = .box T x) (h : match cellsA (lk x) with
    | some vs => k (.ptr next 0) [(next, .vars T vs.length vs true)] 1 []
    | none => False) : Sound P o lk next g k := by
  split at h
  · rename_i vs hvs
    refine ⟨_, _, _, _, h, fun g2 _ _ r A w act hr hc hv => ?_⟩
    have hx := hv x (by simp [ho, Op.operands])
    obtain ⟨hs, hcell⟩ := cellsA_ok hvs hx
    obtain ⟨n1, n2, n3, n4, n5⟩ := new_vars hc (hr next (Nat.le_refl _) (by omega)) T 1 vs.length (act.eval x).cells vs hs (by omega) maxLen_one hcell
    refine Does.value (v := .pointer (some ⟨w.heap.size, 0, none⟩)) (w' := w.alloc (.cells (act.eval x).cells T)) ?_ ⟨_, A, n1, n2, n3, .ptr _ _ _ _ _ Rho.set_same, n4, n5⟩
    simp [execOp, ho, Instr.box, newVar, newRow]
  · exact h.elim
theorem sound_alloc (ht : TabOk P tab) {T : Nat} (ho : o.op = .alloc T) (h : match nth tab T with
    | some ti => match ti.zero with
      | some zs => bif zs.all (·.one) then k (.ptr next 0) [(next, .vars T zs.length zs true)] 1 [] else False
      | none => False
    | none => False) : Sound P o lk next g k := by
  split at h
  · rename_i ti hn
    split at h
    · rename_i zs hz
      cases hall : zs.all (·.one)
      · rw [hall] at h; exact h.elim
      rw [hall, cond_true] at h
      obtain ⟨z, hz1, hz2, hz3⟩ := (ht T ti hn).zero' hz
      refine ⟨_, _, _, _, h, fun g2 _ _ r A w act hr hc hv => ?_⟩
      obtain ⟨n1, n2, n3, n4, n5⟩ := new_vars hc (hr next (Nat.le_refl _) (by omega)) T 1 zs.length z.cells zs hz2 (by omega) maxLen_one (fun j b hb => ⟨hz3 j b hb r A, List.all_eq_true.1 hall b (List.mem_of_getElem? hb)⟩)
      refine Does.value (v := .pointer (some ⟨w.heap.size, 0, none⟩)) (w' := w.alloc (.cells z.cells T)) ?_ ⟨_, A, n1, n2, n3, .ptr _ _ _ _ _ Rho.set_same, n4, n5⟩
      simp [execOp, ho, Instr.alloc, hz1, newVar, newRow]
    · exact h.elim
  · exact h.elim

/-- Cells put over others. -/
theorem putA_ok : ∀ (off : Nat) (vs l l' : List AVal), putA off vs l = some l' → off + vs.length ≤ l.length ∧ l'.length = l.length ∧ ∀ j, l'[j]? = if off ≤ j ∧ j < off + vs.length then vs[j - off]? else l[j]?
  | 0, [], l, l', h => by
    have e : l = l' := by cases l <;> simpa [putA] using h
    subst e
    refine ⟨by simp, rfl, fun j => ?_⟩
    rw [if_neg (by simp)]
  | 0, v :: vs, [], l', h => by simp [putA] at h
  | 0, v :: vs, a :: t, l', h => by
    simp only [putA, Option.map_eq_some_iff] at h
    obtain ⟨t', ht, rfl⟩ := h
    obtain ⟨h1, h2, h3⟩ := putA_ok 0 vs t t' ht
    refine ⟨by simp at h1 ⊢; omega, by simp [h2], fun j => ?_⟩
    match j with
    | 0 => simp
    | j + 1 =>
      have := h3 j
      simp only [Nat.zero_add, Nat.zero_le, true_and, Nat.sub_zero] at this
      simp only [List.getElem?_cons_succ, List.length_cons, Nat.zero_add, Nat.zero_le, true_and, Nat.sub_zero, this]
      by_cases hj : j < vs.length
      · rw [if_pos hj, if_pos (by omega)]
      · rw [if_neg hj, if_neg (by omega)]
  | n + 1, vs, [], l', h => by cases vs <;> simp [putA] at h
  | n + 1, vs, a :: t, l', h => by
    have h' : (putA n vs t).map (a :: ·) = some l' := by cases vs <;> simpa [putA] using h
    rw [Option.map_eq_some_iff] at h'
    obtain ⟨t', ht, rfl⟩ := h'
    obtain ⟨h1, h2, h3⟩ := putA_ok n vs t t' ht
    refine ⟨by simp at h1 ⊢; omega, by simp [h2], fun j => ?_⟩
    match j with
    | 0 => simp
    | j + 1 =>
      simp only [List.getElem?_cons_succ, h3 j]
      by_cases hj : n ≤ j ∧ j < n + vs.length
      · rw [if_pos hj, if_pos (by omega)]; congr 1; omega
      · rw [if_neg hj, if_neg (by omega)]
theorem putD_ok : ∀ (off : Nat) (vs l l' : List D), putD off vs l = some l' → off + vs.length ≤ l.length ∧ l'.length = l.length ∧ ∀ j, l'[j]? = if off ≤ j ∧ j < off + vs.length then vs[j - off]? else l[j]?
  | 0, [], l, l', h => by
    have e : l = l' := by cases l <;> simpa [putD] using h
    subst e
    refine ⟨by simp, rfl, fun j => ?_⟩
    rw [if_neg (by simp)]
  | 0, v :: vs, [], l', h => by simp [putD] at h
  | 0, v :: vs, a :: t, l', h => by
    simp only [putD, Option.map_eq_some_iff] at h
    obtain ⟨t', ht, rfl⟩ := h
    obtain ⟨h1, h2, h3⟩ := putD_ok 0 vs t t' ht
    refine ⟨by simp at h1 ⊢; omega, by simp [h2], fun j => ?_⟩
    match j with
    | 0 => simp
    | j + 1 =>
      have := h3 j
      simp only [Nat.zero_add, Nat.zero_le, true_and, Nat.sub_zero] at this
      simp only [List.getElem?_cons_succ, List.length_cons, Nat.zero_add, Nat.zero_le, true_and, Nat.sub_zero, this]
      by_cases hj : j < vs.length
      · rw [if_pos hj, if_pos (by omega)]
      · rw [if_neg hj, if_neg (by omega)]
  | n + 1, vs, [], l', h => by cases vs <;> simp [putD] at h
  | n + 1, vs, a :: t, l', h => by
    have h' : (putD n vs t).map (a :: ·) = some l' := by cases vs <;> simpa [putD] using h
    rw [Option.map_eq_some_iff] at h'
    obtain ⟨t', ht, rfl⟩ := h'
    obtain ⟨h1, h2, h3⟩ := putD_ok n vs t t' ht
    refine ⟨by simp at h1 ⊢; omega, by simp [h2], fun j => ?_⟩
    match j with
    | 0 => simp
    | j + 1 =>
      simp only [List.getElem?_cons_succ, h3 j]
      by_cases hj : n ≤ j ∧ j < n + vs.length
      · rw [if_pos hj, if_pos (by omega)]; congr 1; omega
      · rw [if_neg hj, if_neg (by omega)]
/-- The world, as it is behind stores into a row. -/
theorem store_run {w : World} {b : Nat} {T : TypeId} {cells : Array Value} (hb : w.heap[b]? = some (.cells cells T (0, 0))) (off : Nat) (vs : List Value) (h1 : ∀ v ∈ vs, v.oneCell' = true) (hle : off + vs.length ≤ cells.size) :
    ∃ cells' w', (storeCells ⟨b, off, none⟩ vs).run P w = .ok () w' ∧ w'.heap[b]? = some (.cells cells' T (0, 0)) ∧ cells'.size = cells.size ∧ (∀ j, cells'.getD j undef = if off ≤ j ∧ j < off + vs.length then vs.getD (j - off) undef else cells.getD j undef) ∧ ∀ A, Fr w A w' A (fun x => x = b) := by
  have hst := run_storeCells_at P b off T vs 0 cells w hb (by simpa using hle) h1
  simp only [Nat.add_zero] at hst
  refine ⟨_, _, hst, setRow_heap w b cells _ T _ hb, by simp; omega, fun j => ?_, fun A => ?_⟩
  · by_cases hj : j < cells.size
    · by_cases h2 : off ≤ j ∧ j < off + vs.length
      · rw [if_pos h2]
        have e1 : ¬ j < min off cells.size := by omega
        simp [Array.getElem?_eq_getElem, List.getElem?_append, h2, e1, show ¬ j < off from by omega, show min off cells.size = off from by omega, show j - off < vs.length from by omega]
      · rw [if_neg h2]
        by_cases h3 : j < off
        · simp [List.getElem?_append, h3, hj, show j < min off cells.size from by omega]
        · have : off + vs.length ≤ j := by omega
          simp [List.getElem?_append, h3, hj, show min off cells.size = off from by omega, show ¬ j < off + vs.length from by omega, show ¬ j - off < vs.length from by omega, List.getElem?_drop, show off + vs.length + (j - off - vs.length) = j from by omega]
    · rw [if_neg (by omega)]
      simp [hj, show ¬ (j < min off cells.size + (vs.length + (cells.size - (off + vs.length)))) from by omega]
  · exact ⟨rfl, rfl, rfl, by simp, fun x hx hne => setRow_other w b x _ hne, Sub.refl A, fun _ _ _ => rfl⟩
end
end Go.Proofs.YtlioojekjnigiaeGreat.AM
/- Stores, and structs and slices that are built. -/
namespace Go.Proofs.YtlioojekjnigiaeGreat.AM
set_option linter.unusedVariables false
set_option linter.unusedSimpArgs false

section
variable {P : Program} {tab : Tab} {lk : Operand → AVal} {next : Nat} {g : Nat → Entry} {k : Kont} {o : Oper}

theorem dataOf_ok {r : Rho} {A : View} {v : Value} {a : AVal} {d : D} (h : dataOf a = some d) (hv : VRel r A v a) : Rep A v d := by
  cases a <;> simp only [dataOf, Option.some.injEq, reduceCtorEq] at h
  · subst h; cases hv with | dat h => exact h
  · subst h; cases hv; exact .bool _
  · subst h
    cases hv with
    | nil a ha => exact .list a 0 0 [] (fun _ _ => undef) (Nat.le_refl _) (by simp) (fun h => absurd rfl h) (by simp)
theorem dataAll_ok : ∀ {vs : List AVal} {ds : List D}, dataAll vs = some ds → ds.length = vs.length ∧ ∀ (j : Nat) (d : D), ds[j]? = some d → ∃ a, vs[j]? = some a ∧ dataOf a = some d
  | [], ds, h => by
    simp only [dataAll, Option.some.injEq] at h
    subst h
    simp
  | a :: t, ds, h => by
    simp only [dataAll] at h
    split at h
    · rename_i d ds' h1 h2
      cases h
      obtain ⟨k1, k2⟩ := dataAll_ok h2
      refine ⟨by simp [k1], fun j d' hj => ?_⟩
      match j with
      | 0 =>
        obtain rfl : d = d' := by simpa using hj
        exact ⟨a, rfl, h1⟩
      | j + 1 => exact k2 j d' (by simpa using hj)
    · cases h
/-- Nothing else is written to. -/
theorem live_block {r : Rho} {A : View} {w : World} {g : Nat → Entry} (hc : Core r A w g) {h b n cap : Nat} (hl : (g h).live = true) (hb : r h = some ⟨some b, n, cap⟩) : r.blk h = some b := by simp [Rho.blk, hb]

theorem sound_store (ht : TabOk P tab) {T : Nat} {x y : Operand} (ho : o.op = .store T x y) (h : storeVC tab g T (lk x) (lk y) k) : Sound P o lk next g k := by
  unfold storeVC at h
  split at h
  · exact h.elim
  rename_i vs hvs
  split at h
  · exact h.elim
  rename_i ti hn
  cases hb : Nat.beq vs.length ti.size
  · rw [hb] at h; exact h.elim
  rw [hb, cond_true] at h
  have hsz := Nat.eq_of_beq_eq_true hb
  have run : ∀ (w w' : World) (act : Act) (b off : Nat), act.eval x = .pointer (some ⟨b, off, none⟩) → (act.eval y).cells.size = ti.size → (storeCells ⟨b, off, none⟩ (act.eval y).cells.toList).run P w = .ok () w' → (execOp act.eval o).run P w = .ok .skip w' := fun w w' act b off hx hy hst => by
    simp [execOp, ho, hx, Instr.storeAt, Instr.sureAddr, storeVar, (ht T ti hn).size, hy, hst]
  split at h
  · rename_i hh off hx
    split at h
    · rename_i T' sz cs hg
      split at h
      · rename_i cs' hput
        refine ⟨_, _, _, _, h, fun g2 _ hg2 r A w act hr hc hv => ?_⟩
        have hvx := hv x (by simp [ho, Op.operands])
        have hvy := hv y (by simp [ho, Op.operands])
        obtain ⟨hys, hyc⟩ := cellsA_ok hvs hvy
        rw [hx] at hvx
        generalize hvv : act.eval x = v at hvx
        cases hvx with
        | ptr _ _ b n cap hbb =>
          have hg' : g2 hh = .vars T' sz cs true := (hg2 hh (by simp) (by omega)).trans hg
          have hl : (g2 hh).live = true := by rw [hg']; rfl
          have hent := hc.ent hh
          rw [hg'] at hent
          obtain ⟨b', n', cap', cells, e1, e2, e3, e4, e5, e6, e7, e8⟩ := hent
          rw [hbb] at e1
          simp only [Option.some.injEq, Loc.mk.injEq] at e1
          obtain ⟨rfl, rfl, rfl⟩ := e1
          obtain ⟨p1, p2, p3⟩ := putA_ok off vs cs cs' hput
          have hm : n * sz ≤ cap * sz := Nat.mul_le_mul_right _ e5
          have hone : ∀ v ∈ (act.eval y).cells.toList, v.oneCell' = true := fun v hv => by
            obtain ⟨j, hj, rfl⟩ := List.getElem_of_mem hv
            have hj' : j < vs.length := by simpa [← hys] using hj
            have := hyc j vs[j] (List.getElem?_eq_getElem hj')
            have h2 := this.1.one this.2
            simpa [show j < (act.eval y).cells.size by simpa using hj] using h2
          obtain ⟨cells', w', s1, s2, s3, s4, s5⟩ := store_run (P := P) e2 off (act.eval y).cells.toList hone (by simp; omega)
          obtain ⟨c1, c2, c3⟩ := Core.write hc hl (live_block hc hl hbb) (s5 A) (.vars T' sz cs' true) ⟨b, n, cap, cells', hbb, s2, by rw [s3, e3], e4, e5, by rw [p2, e6], fun j a ha => by
            rw [p3] at ha
            rw [s4]
            simp only [Array.length_toList, hys]
            by_cases hj : off ≤ j ∧ j < off + vs.length
            · rw [if_pos hj] at ha ⊢
              have := hyc _ a ha
              simpa using this
            · rw [if_neg hj] at ha ⊢
              exact e7 j a ha, e8⟩
          exact Does.skip (run w w' act b off hvv (by rw [hys, hsz]) s1) ⟨r, A, RSub.refl r, fun _ _ => rfl, c1, .any _, c2, c3⟩
      · exact h.elim
    · exact h.elim
  · rename_i hh sz i off hx
    split at h
    · rename_i T' sz' es hg
      split at h
      · rename_i ds hds
        cases hb2 : Nat.beq sz sz'
        · rw [hb2] at h; exact h.elim
        rw [hb2, cond_true] at h
        obtain rfl := Nat.eq_of_beq_eq_true hb2
        obtain ⟨e, he, h⟩ := h
        split at h
        · rename_i e' hput
          refine ⟨_, _, _, _, h, fun g2 _ hg2 r A w act hr hc hv => ?_⟩
          have hvx := hv x (by simp [ho, Op.operands])
          have hvy := hv y (by simp [ho, Op.operands])
          obtain ⟨hys, hyc⟩ := cellsA_ok hvs hvy
          rw [hx] at hvx
          generalize hvv : act.eval x = v at hvx
          cases hvx with
          | eptr _ _ _ _ b n cap hbb =>
            have hg' : g2 hh = .rows T' sz es true := (hg2 hh (by simp) (by omega)).trans hg
            have hl : (g2 hh).live = true := by rw [hg']; rfl
            have hent := hc.ent hh
            rw [hg'] at hent
            obtain ⟨e0, ⟨_, rfl⟩ | ⟨b', cap', cells, e1, e2, e3, e4, e5, e6, e7⟩⟩ := hent
            · simp at he
            rw [hbb] at e1
            simp only [Option.some.injEq, Loc.mk.injEq] at e1
            obtain ⟨rfl, rfl, rfl⟩ := e1
            obtain ⟨p1, p2, p3⟩ := putD_ok off ds e e' hput
            obtain ⟨d1, d2⟩ := dataAll_ok hds
            have hlt := (List.getElem?_eq_some_iff.1 he).1
            have hes := e0 e (List.mem_of_getElem? he)
            have hm : es.length * sz ≤ cap * sz := Nat.mul_le_mul_right _ e5
            have hi : (i + 1) * sz ≤ es.length * sz := Nat.mul_le_mul_right _ hlt
            rw [Nat.add_mul, Nat.one_mul] at hi
            have hone : ∀ v ∈ (act.eval y).cells.toList, v.oneCell' = true := fun v hv => by
              obtain ⟨j, hj, rfl⟩ := List.getElem_of_mem hv
              have hj' : j < vs.length := by simpa [← hys] using hj
              have := hyc j vs[j] (List.getElem?_eq_getElem hj')
              have h2 := this.1.one this.2
              simpa [show j < (act.eval y).cells.size by simpa using hj] using h2
            obtain ⟨cells', w', s1, s2, s3, s4, s5⟩ := store_run (P := P) e2 (i * sz + off) (act.eval y).cells.toList hone (by simp; omega)
            obtain ⟨c1, c2, c3⟩ := Core.write hc hl (live_block hc hl hbb) (s5 A) (.rows T' sz (es.set i e') true) ⟨fun x hx => by
              rcases List.mem_or_eq_of_mem_set hx with hx | rfl
              · exact e0 x hx
              · rw [p2]; exact hes, .inr ⟨b, cap, cells', by simpa using hbb, s2, by rw [s3, e3], e4, by simpa using e5, fun i2 x hx j d hd => by
              rw [s4]
              simp only [Array.length_toList, hys]
              have hjx : j < x.length := (List.getElem?_eq_some_iff.1 hd).1
              rw [List.getElem?_set] at hx
              by_cases hii : i = i2
              · subst hii
                rw [if_pos rfl, if_pos hlt] at hx
                obtain rfl : e' = x := by simpa using hx
                rw [p3] at hd
                by_cases hj : off ≤ j ∧ j < off + ds.length
                · rw [if_pos hj] at hd
                  rw [if_pos (by omega)]
                  obtain ⟨a, ha1, ha2⟩ := d2 _ d hd
                  have := dataOf_ok ha2 (hyc _ a ha1).1
                  have e9 : i * sz + j - (i * sz + off) = j - off := by omega
                  rw [e9]
                  simpa using this
                · rw [if_neg hj] at hd
                  rw [if_neg (by omega)]
                  exact e6 i e he j d hd
              · rw [if_neg hii] at hx
                have hxs := e0 x (List.mem_of_getElem? hx)
                have hno : ¬ (i * sz + off ≤ i2 * sz + j ∧ i2 * sz + j < i * sz + off + vs.length) := fun hcon => by
                  rcases Nat.lt_or_ge i2 i with h1 | h1
                  · have : (i2 + 1) * sz ≤ i * sz := Nat.mul_le_mul_right _ h1
                    rw [Nat.add_mul, Nat.one_mul] at this
                    omega
                  · have : (i + 1) * sz ≤ i2 * sz := Nat.mul_le_mul_right _ (by omega)
                    rw [Nat.add_mul, Nat.one_mul] at this
                    omega
                rw [if_neg hno]
                exact e6 i2 x hx j d hd, e7⟩⟩
            exact Does.skip (run w w' act b (i * sz + off) hvv (by rw [hys, hsz]) s1) ⟨r, A, RSub.refl r, fun _ _ => rfl, c1, .any _, c2, c3⟩
        · exact h.elim
      · exact h.elim
    · exact h.elim
  · exact h.elim

/-- Parts put over a zero value, as the model puts them. -/
theorem fill_ok {r : Rho} {A : View} {act : Act} {place : Nat → Option (Nat × Nat)} : ∀ (parts : List (Nat × Operand)) (cs : List AVal) (kk : List AVal → Prop), fillA place lk parts cs kk → ∃ cs', kk cs' ∧ cs'.length = cs.length ∧
    ∀ (r : Rho) (A : View) (act : Act), (∀ p ∈ parts, VRel r A (act.eval p.2) (lk p.2)) → ∀ cells : Array Value, cells.size = cs.length → (∀ j a, cs[j]? = some a → VRel r A (cells.getD j undef) a) →
      ∃ cells', Instr.fill place cells (parts.map fun p => (p.1, act.eval p.2)) = some cells' ∧ cells'.size = cs.length ∧ ∀ j a, cs'[j]? = some a → VRel r A (cells'.getD j undef) a
  | [], cs, kk, h => ⟨cs, h, rfl, fun r A act _ cells hs hc => ⟨cells, rfl, hs, hc⟩⟩
  | (i, x) :: rest, cs, kk, h => by
    simp only [fillA] at h
    split at h
    · exact h.elim
    rename_i off size hp
    split at h
    · exact h.elim
    rename_i vs hvs
    cases hb : Nat.beq vs.length size
    · rw [hb] at h; exact h.elim
    rw [hb, cond_true] at h
    have hsz := Nat.eq_of_beq_eq_true hb
    split at h
    · exact h.elim
    rename_i cs1 hput
    obtain ⟨p1, p2, p3⟩ := putA_ok off vs cs cs1 hput
    obtain ⟨cs', k1, k2, k3⟩ := fill_ok (r := r) (A := A) (act := act) rest cs1 kk h
    refine ⟨cs', k1, k2.trans p2, fun r A act hv cells hs hc => ?_⟩
    obtain ⟨hys, hyc⟩ := cellsA_ok hvs (hv (i, x) (by simp))
    have hfold : ∀ (l : List Value) (n : Nat) (cells : Array Value), ((l.zipIdx n).foldl (fun cs (p : Value × Nat) => cs.setIfInBounds (off + p.2) p.1) cells).size = cells.size ∧
        ∀ j, ((l.zipIdx n).foldl (fun cs (p : Value × Nat) => cs.setIfInBounds (off + p.2) p.1) cells).getD j undef = if off + n ≤ j ∧ j < off + n + l.length ∧ j < cells.size then l.getD (j - off - n) undef else cells.getD j undef := by
      intro l
      induction l with
      | nil => intro n cells; exact ⟨rfl, fun j => by rw [if_neg (by simp; omega)]; rfl⟩
      | cons c t ih =>
        intro n cells
        obtain ⟨i1, i2⟩ := ih (n + 1) (cells.setIfInBounds (off + n) c)
        simp only [List.zipIdx_cons, List.foldl_cons]
        refine ⟨by rw [i1]; simp, fun j => ?_⟩
        rw [i2]
        simp only [Array.size_setIfInBounds, List.length_cons]
        by_cases hj : j = off + n
        · subst hj
          rw [if_neg (by omega)]
          by_cases hlt : off + n < cells.size
          · rw [if_pos (by omega)]
            simp [hlt, show off + n - off - n = 0 from by omega]
          · rw [if_neg (by omega)]
            simp [hlt]
        · by_cases h1 : off + (n + 1) ≤ j ∧ j < off + (n + 1) + t.length ∧ j < cells.size
          · rw [if_pos h1, if_pos (by omega)]
            have : j - off - n = (j - off - (n + 1)) + 1 := by omega
            rw [this]
            simp
          · rw [if_neg h1, if_neg (by omega)]
            simp [Array.getElem?_setIfInBounds_ne (show off + n ≠ j from fun e => hj e.symm)]
    obtain ⟨f1, f2⟩ := hfold (act.eval x).cells.toList 0 cells
    obtain ⟨cells', g1, g2, g3⟩ := k3 r A act (fun p hp => hv p (by simp [hp])) _ (by rw [f1, hs, p2]) (fun j a ha => by
      rw [f2]
      simp only [Nat.add_zero, Nat.sub_zero, Array.length_toList, hys]
      rw [p3] at ha
      by_cases hj : off ≤ j ∧ j < off + vs.length
      · rw [if_pos hj] at ha
        rw [if_pos (by omega)]
        have := (hyc _ a ha).1
        simpa using this
      · rw [if_neg hj] at ha
        rw [if_neg (by omega)]
        exact hc j a ha)
    refine ⟨cells', ?_, g2.trans p2, g3⟩
    simp only [List.map_cons, Instr.fill, hp]
    have e1 : ¬ ((act.eval x).cells.size ≠ size) := by rw [hys, hsz]; simp
    have e2 : ¬ (off + (act.eval x).cells.size > cells.size) := by rw [hys, hs]; omega
    simp only [e1, e2, decide_false, Bool.or_false]
    rw [← Array.foldl_toList, Array.toList_zipIdx]
    exact g1
end
end Go.Proofs.YtlioojekjnigiaeGreat.AM
/- Structs and slices that are built, places within slices. -/
namespace Go.Proofs.YtlioojekjnigiaeGreat.AM
set_option linter.unusedVariables false
set_option linter.unusedSimpArgs false

section
variable {P : Program} {tab : Tab} {lk : Operand → AVal} {next : Nat} {g : Nat → Entry} {k : Kont} {o : Oper}

theorem fields_mapM (ht : TabOk P tab) (w : World) : ∀ (l : List Field), (∀ f ∈ l, ∃ ti, nth tab f.type = some ti) → ∃ ps : List (Nat × Nat), (l.mapM fun (f : Field) => do pure (f.offset, ← sizeOf f.type) : Sem (List (Nat × Nat))).run P w = .ok ps w ∧
      ps.length = l.length ∧ ∀ (i : Nat) (f : Field), l[i]? = some f → ∃ ti, nth tab f.type = some ti ∧ ps[i]? = some (f.offset, ti.size)
  | [], _ => ⟨[], by simp, rfl, fun i f h => by simp at h⟩
  | f :: t, h => by
    obtain ⟨ti, hti⟩ := h f (by simp)
    obtain ⟨ps, h1, h2, h3⟩ := fields_mapM ht w t fun x hx => h x (by simp [hx])
    refine ⟨(f.offset, ti.size) :: ps, ?_, by simp [h2], fun i x hx => ?_⟩
    · have h1' := h1
      simp at h1'
      simp [List.mapM_cons, (ht _ _ hti).size, h1']
    · match i with
      | 0 =>
        obtain rfl : f = x := by simpa using hx
        exact ⟨ti, hti, rfl⟩
      | i + 1 => exact h3 i x (by simpa using hx)
theorem fill_place {place place' : Nat → Option (Nat × Nat)} (h : ∀ i x, place i = some x → place' i = some x) : ∀ (l : List (Nat × Value)) (cells cells' : Array Value), Instr.fill place cells l = some cells' → Instr.fill place' cells l = some cells'
  | [], cells, cells', hh => hh
  | (i, v) :: rest, cells, cells', hh => by
    simp only [Instr.fill] at hh ⊢
    cases hp : place i with
    | none => rw [hp] at hh; cases hh
    | some x =>
      obtain ⟨off, size⟩ := x
      rw [hp] at hh
      rw [h i _ hp]
      simp only at hh ⊢
      split at hh
      · cases hh
      · rename_i hc
        rw [if_neg hc]
        exact fill_place h rest _ _ hh
theorem sound_build (ht : TabOk P tab) {T : Nat} {parts : Array (Nat × Operand)} (ho : o.op = .build T parts) (h : match nth tab T with
    | some ti => match ti.zero with
      | some zs => bif allIn tab ti.kind then fillA (placeOf tab ti.kind) lk parts.toList zs fun cs => k (.agg cs) [] 0 [] else False
      | none => False
    | none => False) : Sound P o lk next g k := by
  split at h
  · rename_i ti hn
    split at h
    · rename_i zs hz
      cases hall : allIn tab ti.kind
      · rw [hall] at h; exact h.elim
      rw [hall, cond_true] at h
      have hok := ht T ti hn
      obtain ⟨z, z1, z2, z3⟩ := hok.zero' hz
      obtain ⟨cs', k1, k2, k3⟩ := fill_ok (r := fun _ => none) (A := fun _ _ => none) (act := ⟨#[], []⟩) parts.toList zs _ h
      refine Sound.plain k1 fun g2 _ r A w act hc hv => ?_
      obtain ⟨cells, f1, f2, f3⟩ := k3 r A act (fun p hp => hv p.2 (by
        rw [ho]
        simp only [Op.operands, List.mem_toArray, List.mem_map]
        exact ⟨p, hp, rfl⟩)) z.cells z2 (fun j a ha => z3 j a ha r A)
      refine ⟨.agg cells, ?_, .agg _ _ (by rw [f2, k2]) f3⟩
      obtain ⟨d, hd, hk⟩ := hok.kind
      have hparts : (parts.map fun (i, x) => (i, act.eval x)).toList = parts.toList.map fun p => (p.1, act.eval p.2) := by simp
      cases hkk : ti.kind with
      | struct fs =>
        rw [hkk] at hk
        obtain ⟨fields, rfl, hfs⟩ := hk
        obtain ⟨ps, p1, p2, p3⟩ := fields_mapM ht w fields.toList (fun f hf => by
          rw [hkk] at hall
          simp only [allIn, List.all_eq_true] at hall
          have := hall (f.type, f.offset) (by rw [← hfs]; exact List.mem_map.2 ⟨f, hf, rfl⟩)
          exact Option.isSome_iff_exists.1 this)
        have hfill := fill_place (place' := (ps.toArray[·]?)) (fun i x hx => by
          rw [hkk] at hx
          simp only [placeOf] at hx
          split at hx
          · rename_i t off hnth
            split at hx
            · rename_i ti2 hti2
              cases hx
              rw [nth_get, ← hfs, List.getElem?_map, Option.map_eq_some_iff] at hnth
              obtain ⟨f, hf1, hf2⟩ := hnth
              simp only [Prod.mk.injEq] at hf2
              obtain ⟨rfl, rfl⟩ := hf2
              obtain ⟨ti3, q1, q2⟩ := p3 i f hf1
              rw [hti2] at q1
              cases q1
              simpa using q2
            · cases hx
          · cases hx) _ _ _ f1
        have pm : (fields.mapM fun f => do pure (f.offset, ← sizeOf f.type) : Sem (Array (Nat × Nat))).run P w = .ok ps.toArray w := by
          rw [← Array.toArray_toList (xs := fields), List.mapM_toArray]
          simp only [Sem.run_map, p1, Result.andThen_ok]
        simp only [execOp, ho, Instr.build, Sem.run_bind, z1, Result.andThen_ok, run_underlying hd, pm, hparts, hfill, Sem.run_pure]
      | array n e =>
        rw [hkk] at hk
        obtain rfl : d = .array n e := hk
        rw [hkk] at hall f1
        simp only [allIn] at hall
        obtain ⟨ti2, hti2⟩ := Option.isSome_iff_exists.1 hall
        have hfill := fill_place (place' := fun i => some (i * ti2.size, ti2.size)) (fun i x hx => by
          simp only [placeOf, hti2] at hx
          cases hb : Nat.blt i n
          · rw [hb] at hx; cases hx
          · rw [hb, cond_true] at hx; exact hx) _ _ _ f1
        simp only [execOp, ho, Instr.build, Sem.run_bind, z1, Result.andThen_ok, run_underlying hd, (ht e ti2 hti2).size, hparts, hfill, Sem.run_pure]
      | _ => rw [hkk] at hall; cases hall
    · exact h.elim
  · exact h.elim
theorem replL_size {α : Type} : ∀ (n : Nat) (l : List α), (replL n l).length = n * l.length
  | 0, l => by simp [replL]
  | n + 1, l => by simp [replL, replL_size n l, Nat.add_mul, Nat.add_comm]
theorem replL_get {α : Type} : ∀ (n : Nat) (l : List α) (j : Nat), j < n * l.length → (replL n l)[j]? = l[j % l.length]?
  | 0, l, j, h => by simp at h
  | n + 1, l, j, h => by
    simp only [replL]
    rw [List.getElem?_append]
    by_cases hj : j < l.length
    · rw [if_pos hj, Nat.mod_eq_of_lt hj]
    · rw [if_neg hj, replL_get n l (j - l.length) (by rw [Nat.add_mul] at h; omega)]
      congr 1
      rw [← Nat.mod_eq_sub_mod (by omega)]
/-- New cells, of nothing but zero values. -/
theorem zero_cells {r : Rho} {A : View} {z : Value} {zs : List AVal} (z2 : z.cells.size = zs.length) (z3 : ∀ j a, zs[j]? = some a → VRel r A (z.cells.getD j undef) a) (n : Nat) :
    ((Array.range (n * zs.length)).map (z.cells[· % z.cells.size]!)).size = (replL n zs).length ∧ ∀ j a, (replL n zs)[j]? = some a → VRel r A (((Array.range (n * zs.length)).map (z.cells[· % z.cells.size]!)).getD j undef) a := by
  refine ⟨by simp [replL_size], fun j a ha => ?_⟩
  have hlt : j < n * zs.length := by rw [← replL_size]; exact (List.getElem?_eq_some_iff.1 ha).1
  have hpos : 0 < zs.length := by
    rcases Nat.eq_zero_or_pos zs.length with h | h
    · rw [h] at hlt; simp at hlt
    · exact h
  rw [replL_get n zs j hlt] at ha
  have := z3 _ a ha
  have hm := Nat.mod_lt j hpos
  have e : ((Array.range (n * zs.length)).map (z.cells[· % z.cells.size]!)).getD j undef = z.cells.getD (j % zs.length) undef := by
    simp [hlt, z2, hm]
  rw [e]; exact this
theorem chunkD_ok : ∀ (n sz : Nat) (ds : List D) (kk : List (List D) → Prop), chunkD n sz ds kk → ∃ es, kk es ∧ es.length = n ∧ ds.length = n * sz ∧ (∀ e ∈ es, e.length = sz) ∧ ∀ i e, es[i]? = some e → ∀ j d, e[j]? = some d → ds[i * sz + j]? = some d
  | 0, sz, [], kk, h => ⟨[], h, rfl, by simp, by simp, by simp⟩
  | 0, sz, _ :: _, kk, h => by simp [chunkD] at h
  | n + 1, sz, ds, kk, h => by
    have h' : takeD sz ds fun _ => dropD sz ds fun rest => chunkD n sz rest fun es => kk (ds.take sz :: es) := by cases ds <;> exact h
    obtain ⟨h1, h2⟩ := takeD_ok _ _ _ h'
    obtain ⟨_, h3⟩ := dropD_ok _ _ _ h2
    obtain ⟨es, k1, k2, k3, k4, k5⟩ := chunkD_ok n sz _ _ h3
    simp only [List.length_drop] at k3
    refine ⟨_, k1, by simp [k2], by rw [Nat.add_mul]; omega, fun e he => ?_, fun i e he j d hd => ?_⟩
    · rcases List.mem_cons.1 he with rfl | he
      · simp; omega
      · exact k4 e he
    · match i with
      | 0 =>
        obtain rfl : ds.take sz = e := by simpa using he
        rw [List.getElem?_take] at hd
        split at hd
        · simpa using hd
        · cases hd
      | i + 1 =>
        have := k5 i e (by simpa using he) j d hd
        rw [List.getElem?_drop] at this
        rw [← this]
        congr 1
        rw [Nat.add_mul]
        omega
/-- A new row of elements that are data. -/
theorem new_rows {r : Rho} {A : View} {w : World} (hc : Core r A w g) (hn : r next = none) (T sz cap : Nat) (cells : Array Value) (es : List (List D)) (hs : cells.size = cap * sz) (hl : ∀ e ∈ es, e.length = sz) (hle : es.length ≤ cap) (hm : cap ≤ maxLen)
    (hv : ∀ i e, es[i]? = some e → ∀ j d, e[j]? = some d → Rep A (cells.getD (i * sz + j) undef) d) :
    RSub r (r.set next ⟨some w.heap.size, es.length, cap⟩) ∧ (∀ h, h < next ∨ next + 1 ≤ h → (r.set next ⟨some w.heap.size, es.length, cap⟩) h = r h) ∧ Core (r.set next ⟨some w.heap.size, es.length, cap⟩) A (w.alloc (.cells cells T)) (over [(next, .rows T sz es true)] g) ∧
      Fr w A (w.alloc (.cells cells T)) A (LiveB r g) ∧ ∀ b, LiveB (r.set next ⟨some w.heap.size, es.length, cap⟩) (over [(next, .rows T sz es true)] g) b → LiveB r g b ∨ w.heap.size ≤ b := by
  refine Core.new hc hn cells T es.length cap _ ?_
  refine ⟨hl, .inr ⟨w.heap.size, cap, cells, Rho.set_same, heap_alloc_new w _, hs, hm, hle, hv, fun oo => ?_⟩⟩
  cases hA : A w.heap.size oo with
  | none => rfl
  | some v => exact absurd (hc.view_lt hA) (Nat.lt_irrefl _)
theorem sound_buildSlice_some (ht : TabOk P tab) {T n e : Nat} {ti : TI} {parts : Array (Nat × Operand)} (ho : o.op = .buildSlice T n parts) (hnpos : 0 < n) (hd : P.underlying T = some (.slice e)) (hok : TIok P e ti) (h : match ti.zero with
    | some zs => bif Nat.ble (n * ti.size) 100000 && Nat.blt 0 ti.size && Nat.beq zs.length ti.size then
        fillA (fun i => bif Nat.blt i n then some (i * ti.size, ti.size) else none) lk parts.toList (replL n zs) fun cs => match dataAll cs with
          | some ds => chunkD n ti.size ds fun es => k (.row next) [(next, .rows e ti.size es true)] 1 []
          | none => bif cs.all (·.one) then k (.row next) [(next, .vars e ti.size cs true)] 1 [] else False
      else False
    | none => False) : Sound P o lk next g k := by
  have hparts : ∀ act : Act, (parts.map fun (i, x) => (i, act.eval x)).toList = parts.toList.map fun p => (p.1, act.eval p.2) := fun act => by simp
  split at h
  · rename_i zs hz
    cases hb : Nat.ble (n * ti.size) 100000 && Nat.blt 0 ti.size && Nat.beq zs.length ti.size
    · rw [hb] at h; exact h.elim
    rw [hb, cond_true] at h
    simp only [Bool.and_eq_true] at hb
    obtain ⟨⟨hb1, hb2⟩, hb3⟩ := hb
    have hle := Nat.le_of_ble_eq_true hb1
    have hpos : 0 < ti.size := by simpa [Nat.blt_eq] using hb2
    have hzl := Nat.eq_of_beq_eq_true hb3
    have hnm : n ≤ maxLen := by
      have : n * 1 ≤ n * ti.size := Nat.mul_le_mul_left _ hpos
      unfold maxLen; omega
    obtain ⟨z, z1, z2, z3⟩ := hok.zero' hz
    obtain ⟨cs', k1, k2, k3⟩ := fill_ok (r := fun _ => none) (A := fun _ _ => none) (act := ⟨#[], []⟩) parts.toList _ _ h
    rw [replL_size] at k2
    have core : ∀ (r : Rho) (A : View) (w : World) (act : Act), (∀ x, x ∈ o.op.operands → VRel r A (act.eval x) (lk x)) → ∃ cells : Array Value, (execOp act.eval o).run P w = .ok (.value (.slice (some ⟨w.heap.size, 0, none⟩) n n)) (w.alloc (.cells cells e)) ∧ cells.size = cs'.length ∧ ∀ j a, cs'[j]? = some a → VRel r A (cells.getD j undef) a := fun r A w act hv => by
      obtain ⟨q1, q2⟩ := zero_cells (r := r) (A := A) z2 (fun j a ha => z3 j a ha r A) n
      obtain ⟨cells, f1, f2, f3⟩ := k3 r A act (fun p hp => hv p.2 (by
        rw [ho]
        simp only [Op.operands, List.mem_toArray, List.mem_map]
        exact ⟨p, hp, rfl⟩)) _ q1 q2
      have hfill := fill_place (place' := fun i => some (i * ti.size, ti.size)) (fun i x hx => by
        cases hb : Nat.blt i n
        · rw [hb] at hx; cases hx
        · rw [hb, cond_true] at hx; exact hx) _ _ _ f1
      refine ⟨cells, ?_, by rw [f2, replL_size, k2], f3⟩
      have g1 : ¬ (n * ti.size > 2 ^ 24) := by omega
      have g2 : ¬ (n * ti.size = 0) := by
        have : 1 * 1 ≤ n * ti.size := Nat.mul_le_mul hnpos hpos
        omega
      rw [hzl] at hfill
      simp only [execOp, ho, Instr.buildSlice, Sem.run_bind, run_underlying hd, Result.andThen_ok, hok.size, g1, if_false, Sem.run_pure, g2, z1, hparts, hfill, newRow, run_newObj]
      rfl
    split at k1
    · rename_i ds hds
      obtain ⟨es, e1, e2, e3, e4, e5⟩ := chunkD_ok _ _ _ _ k1
      obtain ⟨d1, d2⟩ := dataAll_ok hds
      refine ⟨_, _, _, _, e1, fun g2 _ _ r A w act hr hc hv => ?_⟩
      obtain ⟨cells, c1, c2, c3⟩ := core r A w act hv
      obtain ⟨n1, n2, n3, n4, n5⟩ := new_rows hc (hr next (Nat.le_refl _) (by omega)) e ti.size n cells es (by rw [c2, ← d1, e3]) e4 (by omega) hnm (fun i x hx j d hd => by
        obtain ⟨a, ha1, ha2⟩ := d2 _ d (e5 i x hx j d hd)
        exact dataOf_ok ha2 (c3 _ a ha1))
      refine Does.value c1 ⟨_, A, n1, n2, n3, ?_, n4, n5⟩
      have := VRel.row (r := r.set next ⟨some w.heap.size, es.length, n⟩) (A := A) next w.heap.size es.length n Rho.set_same
      rw [e2] at this ⊢
      exact this
    · cases hall : cs'.all (·.one)
      · rw [hall] at k1; exact k1.elim
      rw [hall, cond_true] at k1
      refine ⟨_, _, _, _, k1, fun g2 _ _ r A w act hr hc hv => ?_⟩
      obtain ⟨cells, c1, c2, c3⟩ := core r A w act hv
      obtain ⟨n1, n2, n3, n4, n5⟩ := new_vars hc (hr next (Nat.le_refl _) (by omega)) e n ti.size cells cs' c2 (by rw [k2, hzl]) hnm (fun j b hb => ⟨c3 j b hb, List.all_eq_true.1 hall b (List.mem_of_getElem? hb)⟩)
      exact Does.value c1 ⟨_, A, n1, n2, n3, .row next _ _ _ Rho.set_same, n4, n5⟩
  · exact h.elim
theorem sound_buildSlice (ht : TabOk P tab) {T n : Nat} {parts : Array (Nat × Operand)} (h : match kindAt tab T with
    | .slice e => match nth tab e with
      | some ti => match n with
        | 0 => bif parts.toList.isEmpty then k .nil [] 0 [] else False
        | _ => match ti.zero with
          | some zs => bif Nat.ble (n * ti.size) 100000 && Nat.blt 0 ti.size && Nat.beq zs.length ti.size then
              fillA (fun i => bif Nat.blt i n then some (i * ti.size, ti.size) else none) lk parts.toList (replL n zs) fun cs => match dataAll cs with
                | some ds => chunkD n ti.size ds fun es => k (.row next) [(next, .rows e ti.size es true)] 1 []
                | none => bif cs.all (·.one) then k (.row next) [(next, .vars e ti.size cs true)] 1 [] else False
            else False
          | none => False
      | none => False
    | _ => False) (ho : o.op = .buildSlice T n parts) : Sound P o lk next g k := by
  split at h
  · rename_i e hk
    obtain ⟨d, hd, hkk⟩ := kindAt_ok ht hk (by simp)
    obtain rfl : d = .slice e := hkk
    split at h
    · rename_i ti hti
      have hok := ht e ti hti
      have hparts : ∀ act : Act, (parts.map fun (i, x) => (i, act.eval x)).toList = parts.toList.map fun p => (p.1, act.eval p.2) := fun act => by simp
      match n, ho, h with
      | 0, ho, h =>
        cases hemp : parts.toList.isEmpty
        · rw [hemp] at h; exact h.elim
        rw [hemp, cond_true] at h
        have hnil : parts.toList = [] := by simpa using hemp
        refine ⟨_, _, _, _, h, fun g2 _ _ r A w act hr hc hv => ?_⟩
        refine Does.value (v := .slice (some ⟨w.heap.size, 0, none⟩) 0 0) (w' := w.alloc (.cells #[] e)) ?_ ⟨r, A, RSub.refl r, fun _ _ => rfl, ?_, .nil _ (.inr ⟨_, rfl⟩), ?_, fun b hb => .inl hb⟩
        · have hr0 : Array.range 0 = #[] := rfl
          simp [execOp, ho, Instr.buildSlice, run_underlying hd, hok.size, hnil, hr0, Instr.fill, newRow]
        · have hf : Fr w A (w.alloc (.cells #[] e)) A (fun _ => False) := ⟨rfl, rfl, rfl, by simp, fun b hb _ => heap_alloc_old w _ hb, Sub.refl A, fun _ _ _ => rfl⟩
          exact Core.step (ups := []) hc (RSub.refl r) (fun _ => False) hf (fun b oo v hA => by
            have h1 := hc.view b oo v hA
            rw [← h1]
            exact World.cell?_of_block (w := w) (heap_alloc_old w _ (cell_lt' h1))) (fun b hb => hb.elim) (fun x hx => by simp at hx) (fun x b hx => by simp at hx) (fun _ _ _ => rfl)
        · exact ⟨rfl, rfl, rfl, by simp, fun b hb _ => heap_alloc_old w _ hb, Sub.refl A, fun _ _ _ => rfl⟩
      | n' + 1, ho, h => exact sound_buildSlice_some ht ho (Nat.succ_pos _) hd hok h
    · exact h.elim
  · exact h.elim
end
end Go.Proofs.YtlioojekjnigiaeGreat.AM
/- Tests and sums; places; slices that are made. -/
namespace Go.Proofs.YtlioojekjnigiaeGreat.AM
set_option linter.unusedVariables false
set_option linter.unusedSimpArgs false

section
variable {P : Program} {tab : Tab} {lk : Operand → AVal} {next : Nat} {g : Nat → Entry} {k : Kont} {o : Oper}

theorem bytes_eq (a b : ByteArray) : (a.toList == b.toList) = decide (a = b) := by
  rw [ByteArray.toList_eq, ByteArray.toList_eq]
  by_cases h : a = b
  · subst h; simp
  · have : ¬ a.data.toList = b.data.toList := fun e => h (ByteArray.ext (Array.toList_inj.mp e))
    simp only [h, decide_false]
    exact beq_false_of_ne this
theorem vrel_int {r : Rho} {A : View} {v : Value} {kd : IntKind} {n : Int} (h : VRel r A v (.dat (.int kd n))) : v = .int kd n := by cases h with | dat h => cases h; rfl
theorem vrel_str {r : Rho} {A : View} {v : Value} {s : ByteArray} (h : VRel r A v (.dat (.str s))) : v = .string s := by cases h with | dat h => cases h; rfl
theorem vrel_bool {r : Rho} {A : View} {v : Value} {a : AVal} {b : Bool} (h : VRel r A v a) (hb : asB a = some b) : v = .bool b := by
  cases a with
  | kb b' =>
    simp only [asB, Option.some.injEq] at hb
    subst hb; cases h; rfl
  | dat d =>
    cases d <;> simp only [asB, Option.some.injEq, reduceCtorEq] at hb
    subst hb
    cases h with | dat h => cases h; rfl
  | _ => simp [asB] at hb
theorem sound_bin (ht : TabOk P tab) {bop : BinOp} {T U : Nat} {x y : Operand} (ho : o.op = .binOp bop T x y U) (h : binVC tab T bop (lk x) (lk y) fun a => k a [] 0 []) : Sound P o lk next g k := by
  have key : ∀ a, k a [] 0 [] → (∀ (r : Rho) (A : View) (w : World) (u v : Value), VRel r A u (lk x) → VRel r A v (lk y) → (eqGuard bop T x y u v).run P w = .ok () w ∧ ∃ z, (binOp bop T u v).run P w = .ok z w ∧ VRel r A z a) → Sound P o lk next g k := fun a hk hr => by
    refine Sound.plain hk fun g2 _ r A w act hc hv => ?_
    obtain ⟨e1, z, e2, e3⟩ := hr r A w _ _ (hv x (by simp [ho, Op.operands])) (hv y (by simp [ho, Op.operands]))
    exact ⟨z, by simp [execOp, ho, e1, e2], e3⟩
  have gi : ∀ (w : World) (ka kb : IntKind) (a b : Int), (eqGuard bop T x y (.int ka a) (.int kb b)).run P w = .ok () w := fun w ka kb a b => by cases bop <;> simp [eqGuard]
  have gs : ∀ (w : World) (a b : ByteArray), (eqGuard bop T x y (.string a) (.string b)).run P w = .ok () w := fun w a b => by cases bop <;> simp [eqGuard]
  have gb : ∀ (w : World) (a b : Bool), (eqGuard bop T x y (.bool a) (.bool b)).run P w = .ok () w := fun w a b => by cases bop <;> simp [eqGuard]
  unfold binVC at h
  split at h
  · rename_i ka a kb b hx hy
    obtain ⟨n, rfl, h⟩ := h
    refine key _ h fun r A w u v hu hv => ?_
    rw [hx] at hu; rw [hy] at hv
    obtain rfl := vrel_int hu
    obtain rfl := vrel_int hv
    have hn : ¬ ((n : Int) < 0) := by omega
    exact ⟨gi w _ _ _ _, _, by simp [binOp, Op.shift, hn], .dat (.int _ _)⟩
  · rename_i ka a kb b hx hy
    obtain ⟨n, rfl, h⟩ := h
    refine key _ h fun r A w u v hu hv => ?_
    rw [hx] at hu; rw [hy] at hv
    obtain rfl := vrel_int hu
    obtain rfl := vrel_int hv
    have hn : ¬ ((n : Int) < 0) := by omega
    exact ⟨gi w _ _ _ _, _, by simp [binOp, Op.shift, hn], .dat (.int _ _)⟩
  · rename_i bop bop2 x2 y2 ka a kb b hns hnr hx hy
    cases hkk : Nat.beq (kindNo ka) (kindNo kb)
    · rw [hkk] at h; exact h.elim
    rw [hkk, cond_true] at h
    obtain rfl := kind_of_no hkk
    have fin : ∀ d, k (.dat d) [] 0 [] → (∀ w, ∃ z, (binOp bop T (.int ka a) (.int ka b)).run P w = .ok z w ∧ ∀ A, Rep A z d) → Sound P o lk next g k := fun d hk hr => by
      refine key _ hk fun r A w u v hu hv => ?_
      rw [hx] at hu; rw [hy] at hv
      obtain rfl := vrel_int hu
      obtain rfl := vrel_int hv
      obtain ⟨z, z1, z2⟩ := hr w
      exact ⟨gi w _ _ _ _, z, z1, .dat (z2 A)⟩
    split at h
    · exact fin _ h fun w => ⟨_, by simp [binOp, Op.intArith], fun A => .int _ _⟩
    · exact fin _ h fun w => ⟨_, by simp [binOp, Op.intArith], fun A => .int _ _⟩
    · exact fin _ h fun w => ⟨_, by simp [binOp, Op.intArith], fun A => .int _ _⟩
    · obtain ⟨hne, h⟩ := h
      exact fin _ h fun w => ⟨_, by simp [binOp, Op.intDiv, hne], fun A => .int _ _⟩
    · obtain ⟨hne, h⟩ := h
      exact fin _ h fun w => ⟨_, by simp [binOp, Op.intDiv, hne], fun A => .int _ _⟩
    · exact fin _ h fun w => ⟨_, by simp only [binOp, Op.intBits, ne_eq, not_true_eq_false, if_false, Sem.run_pure], fun A => .int _ _⟩
    · exact fin _ h fun w => ⟨_, by simp [binOp, Op.intCmp], fun A => .bool _⟩
    · exact fin _ h fun w => ⟨_, by simp [binOp, Op.intCmp], fun A => .bool _⟩
    · exact fin _ h fun w => ⟨_, by simp [binOp, Op.intCmp], fun A => .bool _⟩
    · exact fin _ h fun w => ⟨_, by simp [binOp, Op.intCmp], fun A => .bool _⟩
    · exact fin _ h fun w => ⟨_, by simp [binOp, Op.intCmp], fun A => .bool _⟩
    · exact fin _ h fun w => ⟨_, by simp [binOp, Op.intCmp], fun A => .bool _⟩
    · exact h.elim
  · rename_i a b hx hy
    obtain ⟨hr, h⟩ := h
    refine key _ h fun r A w u v hu hv => ?_
    rw [hx] at hu; rw [hy] at hv
    obtain rfl := vrel_str hu
    obtain rfl := vrel_str hv
    have hlt : ¬ (((a.size + b.size : Nat) : Int) > IntKind.i64.max) := by
      have : IntKind.i64.max = 9223372036854775807 := by decide
      omega
    exact ⟨gs w _ _, _, by simp only [binOp, Op.stringOp, hlt, if_false, Sem.run_pure], .dat (.str _)⟩
  · rename_i a b hx hy
    refine key _ h fun r A w u v hu hv => ?_
    rw [hx] at hu; rw [hy] at hv
    obtain rfl := vrel_str hu
    obtain rfl := vrel_str hv
    exact ⟨gs w _ _, _, by simp only [binOp, Op.stringOp, Sem.run_pure, bytes_eq], .dat (.bool _)⟩
  · rename_i a b hx hy
    refine key _ h fun r A w u v hu hv => ?_
    rw [hx] at hu; rw [hy] at hv
    obtain rfl := vrel_str hu
    obtain rfl := vrel_str hv
    exact ⟨gs w _ _, _, by simp only [binOp, Op.stringOp, Sem.run_pure, bytes_eq], .dat (.bool _)⟩
  · rename_i a b hx hy
    refine key _ h fun r A w u v hu hv => ?_
    rw [hx] at hu; rw [hy] at hv
    obtain rfl := vrel_str hu
    obtain rfl := vrel_str hv
    exact ⟨gs w _ _, _, by simp only [binOp, Op.stringOp, Sem.run_pure], .dat (.bool _)⟩
  · rename_i a b hx hy
    refine key _ h fun r A w u v hu hv => ?_
    rw [hx] at hu; rw [hy] at hv
    obtain rfl := vrel_str hu
    obtain rfl := vrel_str hv
    exact ⟨gs w _ _, _, by simp only [binOp, Op.stringOp, Sem.run_pure, bytes_eq], .dat (.bool _)⟩
  · rename_i xs ys hx hy
    unfold eqAgg at h
    split at h
    · rename_i ti hn
      split at h
      · rename_i ks hks
        split at h
        · rename_i b hb
          obtain ⟨e1, e2⟩ := (ht T ti hn).eq ks hks
          refine key _ h fun r A w u v hu hv => ?_
          rw [hx] at hu; rw [hy] at hv
          cases hu with
          | agg cs _ hn1 h1 =>
            cases hv with
            | agg ds _ hn2 h2 =>
              exact ⟨run_eqGuard_agg w _ _ _ _ _ _ e1, .bool b, by rw [run_eql_struct, e2 r A cs ds xs ys b w hn1 hn2 h1 h2 hb]; rfl, .dat (.bool b)⟩
        · exact h.elim
      · exact h.elim
    · exact h.elim
  · rename_i xs ys hx hy
    unfold eqAgg at h
    split at h
    · rename_i ti hn
      split at h
      · rename_i ks hks
        split at h
        · rename_i b hb
          obtain ⟨e1, e2⟩ := (ht T ti hn).eq ks hks
          refine key _ h fun r A w u v hu hv => ?_
          rw [hx] at hu; rw [hy] at hv
          cases hu with
          | agg cs _ hn1 h1 =>
            cases hv with
            | agg ds _ hn2 h2 =>
              exact ⟨run_eqGuard_agg w _ _ _ _ _ _ e1, .bool (!b), by rw [run_neq_struct, e2 r A cs ds xs ys b w hn1 hn2 h1 h2 hb]; rfl, .dat (.bool _)⟩
        · exact h.elim
      · exact h.elim
    · exact h.elim
  all_goals first
    | exact h.elim
    | (rename_i hx
       unfold eqBool at h
       split at h
       · rename_i ti hn
         split at h
         · rename_i hk
           split at h
           · rename_i a' b' ha hb
             refine key _ h fun r A w u v hu hv => ?_
             rw [hx] at hu
             obtain rfl := vrel_bool hu ha
             obtain rfl := vrel_bool hv hb
             obtain ⟨d, hd, hkk⟩ := (ht T ti hn).kind
             rw [hk] at hkk
             obtain rfl : d = .bool := hkk
             refine ⟨gb w _ _, _, ?_, .dat (.bool _)⟩
             simp only [binOp, Op.equal, Op.maxDepth, Sem.run_bind, run_equalIn_bool w 9999 T a' b' hd, Result.andThen_ok, Sem.run_pure]
           · exact h.elim
         · exact h.elim
       · exact h.elim)
end
end Go.Proofs.YtlioojekjnigiaeGreat.AM
/- Places in slices, slices of slices, lengths, slices that are made, appending. -/
namespace Go.Proofs.YtlioojekjnigiaeGreat.AM
set_option linter.unusedVariables false
set_option linter.unusedSimpArgs false

section
variable {P : Program} {tab : Tab} {lk : Operand → AVal} {next : Nat} {g : Nat → Entry} {k : Kont} {o : Oper}

theorem rep_slice {A : View} {v : Value} {es : List (List D)} (h : Rep A v (.list es)) : ∃ a cap, v = .slice a es.length cap := by cases h; exact ⟨_, _, rfl⟩
theorem sound_indexAddr (ht : TabOk P tab) {t : Nat} {x n : Operand} (ho : o.op = .indexAddr t x n) (h : indexAddrVC tab g t (lk x) (lk n) k) : Sound P o lk next g k := by
  unfold indexAddrVC at h
  split at h
  rotate_left
  · exact h.elim
  rename_i kd ni hn
  have hvn : ∀ (r : Rho) (A : View) (act : Act), (∀ x, x ∈ o.op.operands → VRel r A (act.eval x) (lk x)) → act.eval n = .int kd ni := fun r A act hv => by
    have := hv n (by simp [ho, Op.operands])
    rw [hn] at this
    exact vrel_int this
  split at h
  · rename_i e hk
    obtain ⟨d, hd, hkk⟩ := kindAt_ok ht hk (by simp)
    obtain rfl : d = .slice e := hkk
    split at h
    · exact h.elim
    rename_i ti hti
    have hok := ht e ti hti
    have run : ∀ (w : World) (act : Act) (a : Addr) (len cap i : Nat), act.eval x = .slice (some a) len cap → act.eval n = .int kd (i : Int) → i < len → (execOp act.eval o).run P w = .ok (.value (.pointer (some (a.add (i * ti.size))))) w := fun w act a len cap i hx hn hi => by
      have h1 : (0 : Int) ≤ (i : Int) ∧ (i : Int) < (len : Int) := by omega
      simp [execOp, ho, hx, hn, Instr.indexAt, asIntOf, run_underlying hd, hok.size, hi, Nat.not_le.2 hi]
    split at h
    · rename_i es hx
      obtain ⟨i, e', rfl, he, hl, h⟩ := h
      refine Sound.plain h fun g2 _ r A w act hc hv => ?_
      have hx' := hv x (by simp [ho, Op.operands])
      rw [hx] at hx'
      generalize hvv : act.eval x = v at hx'
      cases hx' with
      | dat hr =>
        cases hr with
        | list a cap sz _ f hcap hs ha hr =>
          have hlt := (List.getElem?_eq_some_iff.1 he).1
          obtain ⟨b, off, rfl, hA⟩ := ha (fun e0 => by rw [e0] at hlt; simp at hlt)
          refine ⟨_, run w act _ _ _ i hvv (hvn r A act hv) hlt, ?_⟩
          rw [Addr.add_lit]
          have hsz : sz = ti.size := by rw [← hl]; exact (hs e' (List.mem_of_getElem? he)).symm
          refine .dat (.ptr b _ e' (f i) (fun j hj => ?_) (fun j d hd => hr i e' he j d hd))
          rw [← hsz]
          exact hA i j hlt (by rw [hsz, ← hl]; exact hj)
    · rename_i hh hx
      split at h
      · rename_i T' sz es l hg
        cases hb : Nat.beq sz ti.size
        · rw [hb] at h; exact h.elim
        rw [hb, cond_true] at h
        obtain rfl := Nat.eq_of_beq_eq_true hb
        obtain ⟨i, e', rfl, he, hl, h⟩ := h
        refine Sound.plain h fun g2 hg2 r A w act hc hv => ?_
        have hlt := (List.getElem?_eq_some_iff.1 he).1
        obtain ⟨_, ⟨_, rfl⟩ | ⟨b, cap, e1, e2, _⟩⟩ := hc.elems (h := hh) ((hg2 hh (by simp)).trans hg)
        · simp at hlt
        have hx' := hv x (by simp [ho, Op.operands])
        rw [hx] at hx'
        generalize hvv : act.eval x = v at hx'
        cases hx' with
        | row _ b' n' cap' hb' =>
          rw [hb'] at e1
          simp only [Option.some.injEq, Loc.mk.injEq] at e1
          obtain ⟨rfl, rfl, rfl⟩ := e1
          refine ⟨_, run w act _ _ _ i hvv (hvn r A act hv) hlt, ?_⟩
          rw [Addr.add_lit, Nat.zero_add]
          exact .eptr hh ti.size i 0 b' _ _ hb'
        | rowNil _ _ _ hb' => rw [hb'] at e1; simp at e1
      · rename_i T' sz cs l hg
        cases hb : Nat.beq sz ti.size
        · rw [hb] at h; exact h.elim
        rw [hb, cond_true] at h
        obtain rfl := Nat.eq_of_beq_eq_true hb
        obtain ⟨i, rfl, hi, h⟩ := h
        refine Sound.plain h fun g2 hg2 r A w act hc hv => ?_
        obtain ⟨b, n', cap, e1, e2, e3, e4⟩ := hc.var (h := hh) ((hg2 hh (by simp)).trans hg)
        have hsz : 0 < ti.size := by
          rcases Nat.eq_zero_or_pos ti.size with h0 | h0
          · rw [h0] at hi; simp at hi
          · exact h0
        rw [e2, Nat.mul_div_cancel _ hsz] at hi
        have hx' := hv x (by simp [ho, Op.operands])
        rw [hx] at hx'
        generalize hvv : act.eval x = v at hx'
        cases hx' with
        | row _ b' n2 cap' hb' =>
          rw [hb'] at e1
          simp only [Option.some.injEq, Loc.mk.injEq] at e1
          obtain ⟨rfl, rfl, rfl⟩ := e1
          refine ⟨_, run w act _ _ _ i hvv (hvn r A act hv) hi, ?_⟩
          rw [Addr.add_lit, Nat.zero_add]
          exact .ptr hh _ b' _ _ hb'
        | rowNil _ _ _ hb' => rw [hb'] at e1; simp at e1
      · exact h.elim
    · rename_i hh sz off len hx
      split at h
      · rename_i T' sz' es l hg
        cases hb : Nat.beq sz ti.size && Nat.beq sz' sz
        · rw [hb] at h; exact h.elim
        rw [hb, cond_true] at h
        simp only [Bool.and_eq_true] at hb
        obtain rfl := Nat.eq_of_beq_eq_true hb.1
        obtain ⟨i, rfl, hi, h⟩ := h
        refine Sound.plain h fun g2 hg2 r A w act hc hv => ?_
        have hx' := hv x (by simp [ho, Op.operands])
        rw [hx] at hx'
        generalize hvv : act.eval x = v at hx'
        cases hx' with
        | sub _ _ _ _ b n' cap a hb' hl hc' ha =>
          rw [ha (by omega)] at hvv
          refine ⟨_, run w act _ _ _ i hvv (hvn r A act hv) hi, ?_⟩
          rw [Addr.add_lit]
          have : off * ti.size + i * ti.size = (off + i) * ti.size + 0 := by rw [Nat.add_mul]; rfl
          rw [this]
          exact .eptr hh ti.size _ 0 b _ _ hb'
        | subNil _ _ _ hb' => exact absurd hi (Nat.not_lt_zero _)
      · exact h.elim
    · exact h.elim
  · rename_i cnt e hk
    obtain ⟨d, hd, hkk⟩ := kindAt_ok ht hk (by simp)
    obtain rfl : d = .array cnt e := hkk
    split at h
    · exact h.elim
    rename_i ti hti
    have hok := ht e ti hti
    have run : ∀ (w : World) (act : Act) (a : Addr) (i : Nat), act.eval x = .pointer (some a) → act.eval n = .int kd (i : Int) → i < cnt → (execOp act.eval o).run P w = .ok (.value (.pointer (some (a.add (i * ti.size))))) w := fun w act a i hx hn hi => by
      have h1 : (0 : Int) ≤ (i : Int) ∧ (i : Int) < (cnt : Int) := by omega
      simp [execOp, ho, hx, hn, Instr.indexAt, asIntOf, run_underlying hd, Instr.sureAddr, hok.size, hi, Nat.not_le.2 hi]
    split at h
    · rename_i hh off hx
      obtain ⟨i, rfl, hi, h⟩ := h
      refine Sound.plain h fun g2 hg2 r A w act hc hv => ?_
      have hx' := hv x (by simp [ho, Op.operands])
      rw [hx] at hx'
      generalize hvv : act.eval x = v at hx'
      cases hx' with
      | ptr _ _ b n' cap hb =>
        refine ⟨_, run w act _ i hvv (hvn r A act hv) hi, ?_⟩
        rw [Addr.add_lit]
        exact .ptr _ _ b n' cap hb
    · rename_i ds hx
      obtain ⟨i, rfl, hi, h⟩ := h
      obtain ⟨hle, h⟩ := dropD_ok _ _ _ h
      refine Sound.plain h fun g2 hg2 r A w act hc hv => ?_
      have hx' := hv x (by simp [ho, Op.operands])
      rw [hx] at hx'
      generalize hvv : act.eval x = v at hx'
      cases hx' with
      | dat hr =>
        cases hr with
        | ptr b off _ f ha hr =>
          refine ⟨_, run w act _ i hvv (hvn r A act hv) hi, ?_⟩
          rw [Addr.add_lit]
          refine .dat (.ptr b _ _ (fun j => f (i * ti.size + j)) (fun j hj => ?_) (fun j d hd => ?_))
          · rw [Nat.add_assoc]; exact ha _ (by simp at hj; omega)
          · exact hr _ d (by simpa [List.getElem?_drop] using hd)
    · exact h.elim
  · exact h.elim
theorem sound_index (ht : TabOk P tab) {t : Nat} {x n : Operand} (ho : o.op = .index t x n) (h : indexVC tab t (lk x) (lk n) k) : Sound P o lk next g k := by
  unfold indexVC at h
  split at h
  rotate_left
  · exact h.elim
  rename_i kd ni hn
  have hvn : ∀ (r : Rho) (A : View) (act : Act), (∀ x, x ∈ o.op.operands → VRel r A (act.eval x) (lk x)) → act.eval n = .int kd ni := fun r A act hv => by
    have := hv n (by simp [ho, Op.operands])
    rw [hn] at this
    exact vrel_int this
  split at h
  · rename_i s hk hx
    obtain ⟨d, hd, hkk⟩ := kindAt_ok ht hk (by simp)
    obtain rfl : d = .string := hkk
    obtain ⟨i, c, rfl, hc', h⟩ := h
    refine Sound.plain h fun g2 _ r A w act hc hv => ?_
    have hx' := hv x (by simp [ho, Op.operands])
    rw [hx] at hx'
    have e := vrel_str hx'
    exact ⟨_, by simp [execOp, ho, e, hvn r A act hv, Instr.index, asIntOf, run_underlying hd, hc'], .dat (.int _ _)⟩
  · rename_i cnt e xs hk hx
    obtain ⟨d, hd, hkk⟩ := kindAt_ok ht hk (by simp)
    obtain rfl : d = .array cnt e := hkk
    split at h
    · exact h.elim
    rename_i ti hti
    have hok := ht e ti hti
    obtain ⟨i, rfl, hi, h⟩ := h
    obtain ⟨a, hk, hp⟩ := part_run ht h
    refine Sound.plain hk fun g2 _ r A w act hc hv => ?_
    have hx' := hv x (by simp [ho, Op.operands])
    rw [hx] at hx'
    generalize hvv : act.eval x = v at hx'
    cases hx' with
    | agg cs _ hn1 hh =>
      obtain ⟨z, k1, k2⟩ := hp r A cs hn1 hh w
      have h1 : (0 : Int) ≤ (i : Int) ∧ (i : Int) < (cnt : Int) := by omega
      exact ⟨z, by simp [execOp, ho, hvv, hvn r A act hv, Instr.index, asIntOf, run_underlying hd, hi, Nat.not_le.2 hi, hok.size, k1], k2⟩
  · exact h.elim

/-- A slice's bounds. -/
theorem bounds_run (w : World) (len cap l h : Nat) (lo hi : Option Value) (b : Bool) (hlo : (lo = none ∧ l = 0) ∨ ∃ kd, lo = some (.int kd (l : Int))) (hhi : (hi = none ∧ h = len) ∨ ∃ kd, hi = some (.int kd (h : Int))) (hlh : l ≤ h) (hc : h ≤ cap) :
    (Instr.sliceBounds b len cap lo hi none).run P w = .ok (l, h, cap) w := by
  have h1 : (0 : Int) ≤ (h : Int) ∧ (h : Int) ≤ (cap : Int) := by omega
  have h2 : (0 : Int) ≤ (l : Int) ∧ (l : Int) ≤ (h : Int) := by omega
  rcases hlo with ⟨rfl, rfl⟩ | ⟨kd, rfl⟩ <;> rcases hhi with ⟨rfl, rfl⟩ | ⟨kd', rfl⟩ <;> simp [Instr.sliceBounds, Instr.sliceBound, asIntOf, hc, hlh, Nat.not_lt.2 hc, Nat.not_lt.2 hlh]
theorem rep_take_drop {A : View} {a : Option Addr} {cap : Nat} {es : List (List D)} (hr : Rep A (.slice a es.length cap) (.list es)) (l h : Nat) (hlh : l ≤ h) (hle : h ≤ es.length) (size : Nat) (hsz : l = 0 ∨ ∀ e ∈ es, e.length = size) : Rep A (.slice (if cap = l then a else a.map (·.add (l * size))) (h - l) (cap - l)) (.list ((es.take h).drop l)) := by
  generalize hgl : es.length = n at hr
  cases hr with
  | list _ _ sz _ f hcap hs ha hr =>
    have hlen : ((es.take h).drop l).length = h - l := by simp; omega
    rw [← hlen]
    refine .list _ _ sz _ (fun i j => f (l + i) j) (by rw [hlen]; omega) (fun e he => hs e (List.mem_of_mem_take (List.mem_of_mem_drop he))) (fun hne => ?_) (fun i e he j d hd => ?_)
    · have hpos : 0 < ((es.take h).drop l).length := List.length_pos_iff.2 hne
      rw [hlen] at hpos
      have hne2 : es ≠ [] := fun e0 => by subst e0; simp at hle; omega
      obtain ⟨b, off, rfl, hA⟩ := ha hne2
      have hcl : ¬ cap = l := by omega
      have hszz : l * sz = l * size := by
        rcases hsz with rfl | hsz
        · simp
        · obtain ⟨e, he⟩ := List.exists_mem_of_ne_nil es hne2
          rw [(hs e he).symm.trans (hsz e he)]
      refine ⟨b, off + l * size, by rw [if_neg hcl]; simp [Addr.add_lit], fun i j hi hj => ?_⟩
      rw [hlen] at hi
      have := hA (l + i) j (by omega) hj
      rw [← this]
      congr 1
      rw [Nat.add_mul]; omega
    · rw [List.getElem?_drop, List.getElem?_take] at he
      split at he
      · exact hr _ e he j d hd
      · cases he
end
end Go.Proofs.YtlioojekjnigiaeGreat.AM
/- Slices of slices, lengths, slices that are made, appending. -/
namespace Go.Proofs.YtlioojekjnigiaeGreat.AM
set_option linter.unusedVariables false
set_option linter.unusedSimpArgs false

section
variable {P : Program} {tab : Tab} {lk : Operand → AVal} {next : Nat} {g : Nat → Entry} {k : Kont} {o : Oper}

theorem optInt {r : Rho} {A : View} {act : Act} {x : Operand} {kd : IntKind} {n : Int} (h : lk x = .dat (.int kd n)) (hv : VRel r A (act.eval x) (lk x)) : act.eval x = .int kd n := by
  rw [h] at hv; exact vrel_int hv
/-- What the bounds of a slice's slice are. -/
theorem slice_some {P : Program} {tab : Tab} (ht : TabOk P tab) {t e : Nat} {ti : TI} (hk : kindAt tab t = .slice e) (hti : nth tab e = some ti) {x : Operand} {lo hi : Option Operand} (ho : o.op = .slice t x lo hi none) (w : World) (act : Act) (a : Option Addr) (len cap l h : Nat)
    (hx : act.eval x = .slice a len cap) (hlo : (lo = none ∧ l = 0) ∨ ∃ kd, lo.map act.eval = some (.int kd (l : Int))) (hhi : (hi = none ∧ h = len) ∨ ∃ kd, hi.map act.eval = some (.int kd (h : Int))) (hlh : l ≤ h) (hc : h ≤ cap) :
    (execOp act.eval o).run P w = .ok (.value (.slice (if cap = l then a else a.map (·.add (l * ti.size))) (h - l) (cap - l))) w := by
  obtain ⟨d, hd, hkk⟩ := kindAt_ok ht hk (by simp)
  obtain rfl : d = .slice e := hkk
  have hb := bounds_run (P := P) w len cap l h (lo.map act.eval) (hi.map act.eval) true (hlo.imp (fun hh => ⟨by rw [hh.1]; rfl, hh.2⟩) id) (hhi.imp (fun hh => ⟨by rw [hh.1]; rfl, hh.2⟩) id) hlh hc
  simp only [execOp, ho, Instr.sliceAt, Sem.run_bind, run_underlying hd, Result.andThen_ok, Instr.slice, hx, Option.map_none, hb, (ht e ti hti).size, Sem.run_pure]
theorem slice_str {P : Program} {tab : Tab} (ht : TabOk P tab) {t : Nat} (hk : kindAt tab t = .string) {x : Operand} {lo hi : Option Operand} (ho : o.op = .slice t x lo hi none) (w : World) (act : Act) (s : ByteArray) (l h : Nat)
    (hx : act.eval x = .string s) (hlo : (lo = none ∧ l = 0) ∨ ∃ kd, lo.map act.eval = some (.int kd (l : Int))) (hhi : (hi = none ∧ h = s.size) ∨ ∃ kd, hi.map act.eval = some (.int kd (h : Int))) (hlh : l ≤ h) (hc : h ≤ s.size) :
    (execOp act.eval o).run P w = .ok (.value (.string (s.extract l h))) w := by
  obtain ⟨d, hd, hkk⟩ := kindAt_ok ht hk (by simp)
  obtain rfl : d = .string := hkk
  have hb := bounds_run (P := P) w s.size s.size l h (lo.map act.eval) (hi.map act.eval) false (hlo.imp (fun hh => ⟨by rw [hh.1]; rfl, hh.2⟩) id) (hhi.imp (fun hh => ⟨by rw [hh.1]; rfl, hh.2⟩) id) hlh hc
  simp only [execOp, ho, Instr.sliceAt, Sem.run_bind, run_underlying hd, Result.andThen_ok, Instr.slice, hx, Option.map_none, Option.isSome_none, Bool.false_eq_true, if_false, hb, Sem.run_pure]

theorem sound_slice_data (ht : TabOk P tab) {t e : Nat} {ti : TI} (hk : kindAt tab t = .slice e) (hti : nth tab e = some ti) {x : Operand} {lo hi : Option Operand} (ho : o.op = .slice t x lo hi none) {es : List (List D)} (hx : lk x = .dat (.list es)) {l h : Nat}
    (hs : l = 0 ∨ ∀ e ∈ es, e.length = ti.size) (hlh : l ≤ h) (hle : h ≤ es.length) (hlo : (lo = none ∧ l = 0) ∨ ∃ y kd, lo = some y ∧ lk y = .dat (.int kd (l : Int))) (hhi : (hi = none ∧ h = es.length) ∨ ∃ y kd, hi = some y ∧ lk y = .dat (.int kd (h : Int)))
    (hkk : k (.dat (.list ((es.take h).drop l))) [] 0 []) : Sound P o lk next g k := by
  refine Sound.plain hkk fun g2 _ r A w act hc hv => ?_
  have hx' := hv x (by simp [ho, Op.operands])
  rw [hx] at hx'
  generalize hvv : act.eval x = v at hx'
  cases hx' with
  | dat hr =>
    obtain ⟨a, cap, rfl⟩ := rep_slice hr
    obtain ⟨_, hcap, _⟩ := hr.elems
    refine ⟨_, slice_some ht hk hti ho w act a _ cap l h hvv (hlo.imp id ?_) (hhi.imp id ?_) hlh (by omega), .dat (rep_take_drop hr l h hlh hle ti.size hs)⟩
    · rintro ⟨y, kd, rfl, hy⟩
      exact ⟨kd, by rw [Option.map_some, optInt hy (hv y (by simp [ho, Op.operands]))]⟩
    · rintro ⟨y, kd, rfl, hy⟩
      exact ⟨kd, by rw [Option.map_some, optInt hy (hv y (by simp [ho, Op.operands]))]⟩
theorem sound_slice_str (ht : TabOk P tab) {t : Nat} (hk : kindAt tab t = .string) {x : Operand} {lo hi : Option Operand} (ho : o.op = .slice t x lo hi none) {s : ByteArray} (hx : lk x = .dat (.str s)) {l h : Nat}
    (hlh : l ≤ h) (hle : h ≤ s.size) (hlo : (lo = none ∧ l = 0) ∨ ∃ y kd, lo = some y ∧ lk y = .dat (.int kd (l : Int))) (hhi : (hi = none ∧ h = s.size) ∨ ∃ y kd, hi = some y ∧ lk y = .dat (.int kd (h : Int)))
    (hkk : k (.dat (.str (s.extract l h))) [] 0 []) : Sound P o lk next g k := by
  refine Sound.plain hkk fun g2 _ r A w act hc hv => ?_
  have hx' := hv x (by simp [ho, Op.operands])
  rw [hx] at hx'
  refine ⟨_, slice_str ht hk ho w act s l h (vrel_str hx') (hlo.imp id ?_) (hhi.imp id ?_) hlh hle, .dat (.str _)⟩
  · rintro ⟨y, kd, rfl, hy⟩
    exact ⟨kd, by rw [Option.map_some, optInt hy (hv y (by simp [ho, Op.operands]))]⟩
  · rintro ⟨y, kd, rfl, hy⟩
    exact ⟨kd, by rw [Option.map_some, optInt hy (hv y (by simp [ho, Op.operands]))]⟩
theorem sound_slice_row (ht : TabOk P tab) {t e : Nat} {ti : TI} (hk : kindAt tab t = .slice e) (hti : nth tab e = some ti) {x : Operand} {lo hi : Option Operand} (ho : o.op = .slice t x lo hi none) {hh T : Nat} {es : List (List D)} {lv : Bool} (hx : lk x = .row hh) (hg : g hh = .rows T ti.size es lv) {l h : Nat}
    (hlh : l ≤ h) (hle : h ≤ es.length) (hlo : (lo = none ∧ l = 0) ∨ ∃ y kd, lo = some y ∧ lk y = .dat (.int kd (l : Int))) (hhi : (hi = none ∧ h = es.length) ∨ ∃ y kd, hi = some y ∧ lk y = .dat (.int kd (h : Int)))
    (hkk : k (.sub hh ti.size l (h - l)) [] 0 [hh]) : Sound P o lk next g k := by
  refine Sound.plain hkk fun g2 hg2 r A w act hc hv => ?_
  have hx' := hv x (by simp [ho, Op.operands])
  rw [hx] at hx'
  obtain ⟨_, he⟩ := hc.elems (h := hh) ((hg2 hh (by simp)).trans hg)
  have go : ∀ (a : Option Addr) (cap : Nat), act.eval x = .slice a es.length cap → es.length ≤ cap → (execOp act.eval o).run P w = .ok (.value (.slice (if cap = l then a else a.map (·.add (l * ti.size))) (h - l) (cap - l))) w := fun a cap hvv hcap => by
    refine slice_some ht hk hti ho w act a _ cap l h hvv (hlo.imp id ?_) (hhi.imp id ?_) hlh (by omega)
    · rintro ⟨y, kd, rfl, hy⟩
      exact ⟨kd, by rw [Option.map_some, optInt hy (hv y (by simp [ho, Op.operands]))]⟩
    · rintro ⟨y, kd, rfl, hy⟩
      exact ⟨kd, by rw [Option.map_some, optInt hy (hv y (by simp [ho, Op.operands]))]⟩
  generalize hvv : act.eval x = v at hx'
  cases hx' with
  | row _ b n cap hb =>
    rcases he with ⟨e1, rfl⟩ | ⟨b', cap', e1, e2, _⟩
    · rw [hb] at e1; simp at e1
    · rw [hb] at e1
      simp only [Option.some.injEq, Loc.mk.injEq] at e1
      obtain ⟨rfl, rfl, rfl⟩ := e1
      refine ⟨_, go _ cap hvv e2, .sub hh ti.size l (h - l) b _ cap _ hb (by omega) e2 fun hpos => ?_⟩
      rw [if_neg (by omega)]
      simp [Addr.add_lit]
  | rowNil _ a _ hb =>
    rcases he with ⟨e1, rfl⟩ | ⟨b', cap', e1, e2, _⟩
    · simp only [List.length_nil, Nat.le_zero_eq] at hle
      subst hle
      have hl0 : l = 0 := by omega
      subst hl0
      have := go a 0 hvv (Nat.le_refl _)
      exact ⟨_, this, by simpa using VRel.subNil hh ti.size a hb⟩
    · rw [hb] at e1; simp at e1

theorem sound_slice (ht : TabOk P tab) {t : Nat} {x : Operand} {lo hi mx : Option Operand} (h : match mx with
    | some _ => False
    | none => match lk x with
      | .row h => sliceRowVC tab g t h (lo.map lk) (hi.map lk) k
      | a => sliceVC tab t a (lo.map lk) (hi.map lk) k) (ho : o.op = .slice t x lo hi mx) : Sound P o lk next g k := by
  cases mx with
  | some _ => exact h.elim
  | none =>
  simp only at h
  split at h
  · rename_i hh hx
    unfold sliceRowVC at h
    split at h
    · rename_i e hk
      split at h
      · rename_i ti T sz es l hti hg
        cases hb : Nat.beq sz ti.size
        · rw [hb] at h; exact h.elim
        rw [hb, cond_true] at h
        obtain rfl := Nat.eq_of_beq_eq_true hb
        cases lo with
        | none => cases hi with
          | none => simp at h
          | some y =>
            simp only [Option.map_none, Option.map_some] at h
            split at h
            · rename_i hc; cases hc
            · rename_i _ hc
              simp only [Option.some.injEq] at hc
              obtain ⟨_, c, _, rfl, _, hle, hkk⟩ := h
              exact sound_slice_row ht hk hti ho hx hg (l := 0) (Nat.zero_le _) hle (.inl ⟨rfl, rfl⟩) (.inr ⟨y, _, rfl, hc⟩) hkk
            · rename_i hc _; cases hc
            · exact h.elim
        | some z => cases hi with
          | none =>
            simp only [Option.map_none, Option.map_some] at h
            split at h
            · rename_i hc _
              simp only [Option.some.injEq] at hc
              obtain ⟨l', h', rfl, hh', hlh, hle, hkk⟩ := h
              have : h' = es.length := by omega
              subst this
              exact sound_slice_row ht hk hti ho hx hg (h := es.length) hlh (Nat.le_refl _) (.inr ⟨z, _, rfl, hc⟩) (.inl ⟨rfl, rfl⟩) hkk
            · rename_i hc; cases hc
            · rename_i hc; cases hc
            · exact h.elim
          | some y =>
            simp only [Option.map_some] at h
            split at h
            · rename_i hc; cases hc
            · rename_i hc _; cases hc
            · rename_i hc hc2
              simp only [Option.some.injEq] at hc hc2
              obtain ⟨l', h', rfl, rfl, hlh, hle, hkk⟩ := h
              exact sound_slice_row ht hk hti ho hx hg hlh hle (.inr ⟨z, _, rfl, hc⟩) (.inr ⟨y, _, rfl, hc2⟩) hkk
            · exact h.elim
      · exact h.elim
    · exact h.elim
  · unfold sliceVC at h
    split at h
    · rename_i e es hk hx
      split at h
      · exact h.elim
      rename_i ti hti
      cases lo with
      | none => cases hi with
        | none => simp at h
        | some y =>
          simp only [Option.map_none, Option.map_some] at h
          split at h
          · rename_i hc; cases hc
          · rename_i _ hc
            simp only [Option.some.injEq] at hc
            obtain ⟨_, c, _, rfl, _, hle, hkk⟩ := h
            exact sound_slice_data ht hk hti ho hx (l := 0) (.inl rfl) (Nat.zero_le _) hle (.inl ⟨rfl, rfl⟩) (.inr ⟨y, _, rfl, hc⟩) (by simpa using hkk)
          · rename_i hc _; cases hc
          · exact h.elim
      | some z => cases hi with
        | none =>
          simp only [Option.map_none, Option.map_some] at h
          split at h
          · rename_i hc _
            simp only [Option.some.injEq] at hc
            obtain ⟨l', h', rfl, hh', hlh, hle, hsz, hkk⟩ := h
            have : h' = es.length := by omega
            subst this
            exact sound_slice_data ht hk hti ho hx (h := es.length) (.inr hsz) hlh (Nat.le_refl _) (.inr ⟨z, _, rfl, hc⟩) (.inl ⟨rfl, rfl⟩) (by simpa using hkk)
          · rename_i hc; cases hc
          · rename_i hc; cases hc
          · exact h.elim
        | some y =>
          simp only [Option.map_some] at h
          split at h
          · rename_i hc; cases hc
          · rename_i hc _; cases hc
          · rename_i hc hc2
            simp only [Option.some.injEq] at hc hc2
            obtain ⟨l', h', rfl, rfl, hlh, hle, hsz, hkk⟩ := h
            exact sound_slice_data ht hk hti ho hx (.inr hsz) hlh hle (.inr ⟨z, _, rfl, hc⟩) (.inr ⟨y, _, rfl, hc2⟩) hkk
          · exact h.elim
    · rename_i s hk hx
      cases lo with
      | none => cases hi with
        | none => simp at h
        | some y =>
          simp only [Option.map_none, Option.map_some] at h
          split at h
          · rename_i hc; cases hc
          · rename_i _ hc
            simp only [Option.some.injEq] at hc
            obtain ⟨_, c, _, rfl, _, hle, hkk⟩ := h
            exact sound_slice_str ht hk ho hx (l := 0) (Nat.zero_le _) hle (.inl ⟨rfl, rfl⟩) (.inr ⟨y, _, rfl, hc⟩) hkk
          · rename_i hc _; cases hc
          · exact h.elim
      | some z => cases hi with
        | none =>
          simp only [Option.map_none, Option.map_some] at h
          split at h
          · rename_i hc _
            simp only [Option.some.injEq] at hc
            obtain ⟨l', h', rfl, hh', hlh, hle, hkk⟩ := h
            have : h' = s.size := by omega
            subst this
            exact sound_slice_str ht hk ho hx (h := s.size) hlh (Nat.le_refl _) (.inr ⟨z, _, rfl, hc⟩) (.inl ⟨rfl, rfl⟩) hkk
          · rename_i hc; cases hc
          · rename_i hc; cases hc
          · exact h.elim
        | some y =>
          simp only [Option.map_some] at h
          split at h
          · rename_i hc; cases hc
          · rename_i hc _; cases hc
          · rename_i hc hc2
            simp only [Option.some.injEq] at hc hc2
            obtain ⟨l', h', rfl, rfl, hlh, hle, hkk⟩ := h
            exact sound_slice_str ht hk ho hx hlh hle (.inr ⟨z, _, rfl, hc⟩) (.inr ⟨y, _, rfl, hc2⟩) hkk
          · exact h.elim
    · exact h.elim
end
end Go.Proofs.YtlioojekjnigiaeGreat.AM
/- Appending. -/
namespace Go.Proofs.YtlioojekjnigiaeGreat.AM
set_option linter.unusedVariables false
set_option linter.unusedSimpArgs false

section
variable {P : Program} {tab : Tab} {lk : Operand → AVal} {next : Nat} {g : Nat → Entry} {k : Kont} {o : Oper}

theorem flat_length {es : List (List D)} {sz : Nat} (hs : ∀ e ∈ es, e.length = sz) : es.flatten.length = es.length * sz := by
  induction es with
  | nil => simp
  | cons e t ih =>
    rw [List.flatten_cons, List.length_append, ih fun x hx => hs x (by simp [hx]), hs e (by simp), List.length_cons, Nat.add_mul]
    omega
theorem flat_get {sz : Nat} : ∀ {es : List (List D)}, (∀ e ∈ es, e.length = sz) → ∀ {i : Nat} {e : List D}, es[i]? = some e → ∀ {j : Nat} {d : D}, e[j]? = some d → es.flatten[i * sz + j]? = some d
  | [], _, i, e, he, j, d, hd => by simp at he
  | x :: t, hs, 0, e, he, j, d, hd => by
    obtain rfl : x = e := by simpa using he
    have hj := (List.getElem?_eq_some_iff.1 hd).1
    rw [List.flatten_cons, List.getElem?_append, Nat.zero_mul, Nat.zero_add, if_pos hj]
    exact hd
  | x :: t, hs, i + 1, e, he, j, d, hd => by
    have hx := hs x (by simp)
    rw [List.flatten_cons, List.getElem?_append, if_neg (by rw [hx, Nat.add_mul]; omega)]
    have := flat_get (es := t) (fun y hy => hs y (by simp [hy])) (i := i) (by simpa using he) hd
    rw [← this]
    congr 1
    rw [hx, Nat.add_mul]; omega
theorem flat_inv {sz : Nat} : ∀ {es : List (List D)}, (∀ e ∈ es, e.length = sz) → ∀ {p : Nat} {d : D}, es.flatten[p]? = some d → ∃ (i j : Nat) (e : List D), p = i * sz + j ∧ es[i]? = some e ∧ e[j]? = some d
  | [], _, p, d, h => by simp at h
  | x :: t, hs, p, d, h => by
    have hx := hs x (by simp)
    rw [List.flatten_cons, List.getElem?_append] at h
    split at h
    · exact ⟨0, p, x, by simp, rfl, h⟩
    · rename_i hp
      obtain ⟨i, j, e, h1, h2, h3⟩ := flat_inv (es := t) (fun y hy => hs y (by simp [hy])) h
      exact ⟨i + 1, j, e, by rw [Nat.add_mul]; omega, by simpa using h2, h3⟩

/-- What lies in memory from a place on, and is known. -/
structure LiesAt (r : Rho) (A : View) (w : World) (size : Nat) (v : Value) (m : Nat) (N : List AVal) : Prop where
  len : N.length = m * size
  val : ∃ a cap, v = .slice a m cap ∧ (0 < m → ∃ b off, a = some ⟨b, off, none⟩ ∧ ∀ j x, N[j]? = some x → x.one = true ∧ ∃ u, w.cell? ⟨b, off + j, none⟩ = some u ∧ VRel r A u x)

theorem append_nil_like {w : World} {t ty e : TypeId} {i : TypeInfo} (ht : P.underlying t = some (.slice e)) (hi : P.info? e = some i) (g m c : Nat) (ad : Addr) (hm : 0 < m) (hmx : m ≤ maxLen) (hb : m * i.bytes ≤ 140737488355328) :
    (Builtin.append_ #[t, t] ty #[.slice (some ⟨g, 0, none⟩) 0 0, .slice (some ad) m c]).run P w = (Builtin.append_ #[t, t] ty #[.slice none 0 0, .slice (some ad) m c]).run P w := by
  have h1 : ¬ m = 0 := by omega
  have h2 : ¬ 281474976710656 < m * i.bytes := by omega
  have h3 : ¬ (9223372036854775807 : Int) < (m : Int) := by unfold maxLen at hmx; omega
  simp [Builtin.append_, run_underlying ht, sizeOf, typeInfo, hi, Builtin.lenOf, Builtin.firstCells, loadCells, loadCellsFrom, Builtin.nextslicecap, h1, hm, h2, h3]

/-- What a slice is that is appended to. -/
inductive Base (r : Rho) (A : View) (w : World) (g : Nat → Entry) (e size : Nat) : Value → Nat → List AVal → Heap → Prop
  | none (a : Option Addr) (ha : a = none ∨ ∃ b, a = some ⟨b, 0, none⟩) (K : Heap) (hK : ∀ x ∈ K, x.2 = .dead) : Base r A w g e size (.slice a 0 0) 0 [] K
  | some (h b n cap : Nat) (cells : Array Value) (cs : List AVal) (hl : (g h).live = true) (hb : r h = some ⟨some b, n, cap⟩) (hh : w.heap[b]? = some (.cells cells e (0, 0))) (hs : cells.size = cap * size) (hm : cap ≤ maxLen) (hn : n ≤ cap)
      (hc : cs.length = n * size) (hv : ∀ j a, cs[j]? = some a → VRel r A (cells.getD j undef) a ∧ a.one = true) (hA : ∀ o, A b o = Option.none) : Base r A w g e size (.slice (Option.some ⟨b, 0, Option.none⟩) n cap) n cs [(h, .dead)]

theorem Base.dead {r : Rho} {A : View} {w : World} {e size : Nat} {v : Value} {n : Nat} {cs : List AVal} {K : Heap} (h : Base r A w g e size v n cs K) : ∀ y ∈ K, y.2 = .dead := by
  cases h with
  | none a ha K hK => exact hK
  | some h b n cap cells cs => intro y hy; simp at hy; rw [hy]
theorem Base.len {r : Rho} {A : View} {w : World} {e size : Nat} {v : Value} {n : Nat} {cs : List AVal} {K : Heap} (h : Base r A w g e size v n cs K) : cs.length = n * size := by
  cases h with
  | none a ha K hK => simp
  | some h b n cap cells cs hl hb hh hs hm hn hc => exact hc
theorem known_one {r : Rho} {A : View} {v : Value} {a : AVal} (h : VRel r A v a ∧ a.one = true) : v.oneCell' = true := h.1.one h.2

/-- A zero value has the type's cells. -/
theorem zero_size (ht : TabOk P tab) {e : Nat} {ti : TI} (hti : nth tab e = some ti) {zs : List AVal} (hz : ti.zero = some zs) : zs.length = ti.size := (ht e ti hti).zsize zs hz
/-- Behind an append. -/
theorem append_post (ht : TabOk P tab) {t e : Nat} {ti : TI} (hk : kindAt tab t = .slice e) (hti : nth tab e = some ti) (hpos : 0 < ti.size) (hby : 0 < ti.bytes) (hz : ti.zero.isSome = true) {s x : Operand} {c : Call} (hcl : c = { callee := .builtin .append, args := #[s, x], argTypes := #[t, t] }) (ho : o.op = .call c)
    {r : Rho} {A : View} {w : World} {act : Act} (hc : Core r A w g) (hr : r next = none) {n : Nat} {olds : List AVal} {K : Heap} (hbase : Base r A w g e ti.size (act.eval s) n olds K) (hKn : ∀ y ∈ K, y.1 ≠ next) {m : Nat} {N : List AVal} (hsrc : LiesAt r A w ti.size (act.eval x) m N) (hroom : (n + m) * ti.bytes ≤ 140737488355328)
    (E : Entry) (hE : ∀ (r' : Rho) (w' : World) b' cap' (cells' : Array Value), r' next = some ⟨some b', n + m, cap'⟩ → w'.heap[b']? = some (.cells cells' e (0, 0)) → cells'.size = cap' * ti.size → cap' ≤ maxLen → n + m ≤ cap' →
      (∀ j a, (olds ++ N)[j]? = some a → VRel r' A (cells'.getD j undef) a ∧ a.one = true) → (∀ o, A b' o = none) → EntOk r' A w' next E)
    (hE0 : ∀ (r' : Rho) (w' : World), n + m = 0 → r' next = some ⟨none, 0, 0⟩ → EntOk r' A w' next E) (hlive : E.live = true) :
    Does P o act w (OpPost r A w g ((next, E) :: K) next 1 (.row next)) := by
  obtain ⟨d, hd, hkk⟩ := kindAt_ok ht hk (by simp)
  obtain rfl : d = .slice e := hkk
  obtain ⟨i, hi, hi1, hi2, hi3⟩ := (ht e ti hti).info
  obtain ⟨zs, hzs⟩ := Option.isSome_iff_exists.1 hz
  obtain ⟨z, hz1, hz2, _⟩ := hi3 zs hzs
  obtain ⟨a0, cap0, hx, hlie⟩ := hsrc.val
  have hnm : n + m ≤ 140737488355328 := Nat.le_trans (Nat.le_mul_of_pos_right _ hby) hroom
  have hnm' : n + m ≤ maxLen := by unfold maxLen; omega
  have run : ∀ (v : Value) (w' : World), (Builtin.append_ #[t, t] o.type #[act.eval s, act.eval x]).run P w = .ok v w' → (execOp act.eval o).run P w = .ok (.value v) w' := fun v w' h => by
    subst hcl
    simp only [execOp, ho, resolve, invoke, builtin, Sem.run_bind, Sem.run_pure, Result.andThen_ok, List.map_toArray, List.map_cons, List.map_nil, h]
  -- the keys of the old handles
  have hlv : ∀ h, h ∈ ((next, E) :: K).map (·.1) → h ≠ next → h ∈ K.map (·.1) := fun h hm hne => by
    simp only [List.map_cons, List.mem_cons] at hm
    exact hm.resolve_left hne
  have hover : ∀ h, h ∈ K.map (·.1) → (∀ y ∈ K, y.2 = .dead) → over ((next, E) :: K) g h = .dead := fun h hm hd => by
    obtain ⟨y, hy, rfl⟩ := List.mem_map.1 hm
    have : ∀ (K : Heap), (∀ y ∈ K, y.2 = .dead) → ∀ h ∈ K.map (·.1), over K g h = .dead := fun K => by
      induction K with
      | nil => intro _ h hh; cases hh
      | cons p t ih =>
        obtain ⟨h', e'⟩ := p
        intro hd h hh
        by_cases hhh : h' = h
        · subst hhh; rw [over_same]; exact hd (h', e') (by simp)
        · rw [over_ne hhh]
          refine ih (fun y hy => hd y (by simp [hy])) h ?_
          simp only [List.map_cons, List.mem_cons] at hh
          exact hh.resolve_left fun e => hhh e.symm
    rw [over_ne (Ne.symm (hKn y hy))]
    exact this K hd _ hm
  have hKd : ∀ y ∈ K, y.2 = .dead := hbase.dead
  -- the end of every way: the row lies in a block
  have fin : ∀ (b' cap' : Nat) (cells' : Array Value) (w' : World), (Builtin.append_ #[t, t] o.type #[act.eval s, act.eval x]).run P w = .ok (.slice (some ⟨b', 0, none⟩) (n + m) cap') w' → w'.heap[b']? = some (.cells cells' e (0, 0)) → cells'.size = cap' * ti.size → cap' ≤ maxLen → n + m ≤ cap' →
      (∀ j a, (olds ++ N)[j]? = some a → VRel r A (cells'.getD j undef) a ∧ a.one = true) → (∀ o, A b' o = none) →
      ((w.heap.size ≤ b' ∧ ∃ B, Fr w A w' A B ∧ ∀ x, B x → ∃ h, h ∈ K.map (·.1) ∧ (g h).live = true ∧ r.blk h = some x) ∨ (Fr w A w' A (fun x => x = b') ∧ ∃ h, h ∈ K.map (·.1) ∧ (g h).live = true ∧ r.blk h = some b')) →
      Does P o act w (OpPost r A w g ((next, E) :: K) next 1 (.row next)) := fun b' cap' cells' w' h1 h2 h3 h4 h5 h6 h7 h8 => by
    have hs : RSub r (r.set next ⟨some b', n + m, cap'⟩) := Rho.set_sub hr
    have hEn := hE (r.set next ⟨some b', n + m, cap'⟩) w' b' cap' cells' Rho.set_same h2 h3 h4 h5 (fun j a ha => ⟨(h6 j a ha).1.mono hs (Sub.refl A), (h6 j a ha).2⟩) h7
    obtain ⟨B, hf, hB⟩ : ∃ B, Fr w A w' A B ∧ ∀ x, B x → ∃ h, h ∈ K.map (·.1) ∧ (g h).live = true ∧ r.blk h = some x := by
      rcases h8 with ⟨_, B, hf, hB⟩ | ⟨hf, hB⟩
      · exact ⟨B, hf, hB⟩
      · exact ⟨_, hf, fun x hx => hx ▸ hB⟩
    have hsrcB : w.heap.size ≤ b' ∨ ∃ h0, h0 ∈ ((next, E) :: K).map (·.1) ∧ (g h0).live = true ∧ r.blk h0 = some b' := by
      rcases h8 with ⟨hh, _⟩ | ⟨_, h, hh, hl, hb⟩
      · exact .inl hh
      · exact .inr ⟨h, by simp only [List.map_cons, List.mem_cons]; exact .inr hh, hl, hb⟩
    refine Does.value (run _ _ h1) ⟨_, A, hs, fun h hh => Rho.set_ne (by omega), ?_, .row next b' _ cap' Rho.set_same, hf.weaken (fun x hx => let ⟨h, _, hl, hb⟩ := hB x hx; ⟨h, hl, hb⟩), ?_⟩
    · refine Core.step hc hs B hf (fun b oo v hA => ?_) (fun x hx => let ⟨h, hh, hl, hb⟩ := hB x hx; ⟨h, by simp only [List.map_cons, List.mem_cons]; exact .inr hh, hl, hb⟩) (fun h hh => ?_) (fun h b hh hl hb => ?_) (fun h hh hl => ?_)
      · have hv := hc.view b oo v hA
        have hnb : ¬ B b := fun hBb => by
          obtain ⟨h, _, hl, hb⟩ := hB b hBb
          have := ((hc.ent h).block hl hb).2 oo
          rw [this] at hA; cases hA
        rw [← hv]
        exact World.cell?_of_block (w := w) (hf.block b (cell_lt' hv) hnb)
      · by_cases hn : h = next
        · subst hn; rw [over_same]; exact hEn
        · rw [hover h (hlv h hh hn) hKd]; trivial
      · by_cases hn : h = next
        · subst hn
          obtain rfl : b' = b := by simpa [Rho.blk, Rho.set_same] using hb
          refine ⟨hsrcB, fun h2 hh2 hl2 hb2 => ?_⟩
          by_cases hn2 : h2 = h
          · exact hn2
          · rw [hover h2 (hlv h2 hh2 hn2) hKd] at hl2; cases hl2
        · rw [hover h (hlv h hh hn) hKd] at hl; cases hl
      · have hne : h ≠ next := fun e0 => hh (by subst e0; simp)
        simp only [Rho.blk, Rho.set_ne hne]
    · rintro b ⟨h, hl, hb⟩
      by_cases hn : h = next
      · subst hn
        obtain rfl : b' = b := by simpa [Rho.blk, Rho.set_same] using hb
        rcases hsrcB with h9 | ⟨h0, _, hl0, hb0⟩
        · exact .inr h9
        · exact .inl ⟨h0, hl0, hb0⟩
      · by_cases hm2 : h ∈ K.map (·.1)
        · rw [hover h hm2 hKd] at hl; cases hl
        · rw [over_ne (Ne.symm hn), over_keys hm2] at hl
          exact .inl ⟨h, hl, by simpa only [Rho.blk, Rho.set_ne hn] using hb⟩
  generalize hvs : act.eval s = vs at hbase run fin
  rcases Nat.eq_zero_or_pos m with hm0 | hmpos
  · -- nothing is appended
    subst hm0
    have hN : N = [] := by
      have := hsrc.len
      rw [Nat.zero_mul] at this
      exact List.eq_nil_of_length_eq_zero this
    subst hN
    cases hbase with
    | none a ha K hK =>
      have h1 : (Builtin.append_ #[t, t] o.type #[.slice a 0 0, act.eval x]).run P w = .ok (.slice a 0 0) w := by
        rw [hx]
        cases a0 <;> cases a <;> simp [Builtin.append_, run_underlying hd, sizeOf, typeInfo, hi, Builtin.lenOf, Builtin.firstCells, loadCells, loadCellsFrom, storeCells]
      have hs : RSub r (r.set next ⟨none, 0, 0⟩) := Rho.set_sub hr
      refine Does.value (run _ _ h1) ⟨_, A, hs, fun h hh => Rho.set_ne (by omega), ?_, .rowNil next a ha Rho.set_same, Fr.refl _ _ _, ?_⟩
      · refine Core.step hc hs (fun _ => False) (Fr.refl _ _ _) (fun b oo v hA => hc.view b oo v hA) (fun b hb => hb.elim) (fun h hh => ?_) (fun h b hh hl hb => ?_) (fun h hh hl => ?_)
        · by_cases hn : h = next
          · subst hn; rw [over_same]; exact hE0 _ _ rfl Rho.set_same
          · rw [hover h (hlv h hh hn) hKd]; trivial
        · by_cases hn : h = next
          · subst hn; simp [Rho.blk, Rho.set_same] at hb
          · rw [hover h (hlv h hh hn) hKd] at hl; cases hl
        · have hne : h ≠ next := fun e0 => hh (by subst e0; simp)
          simp only [Rho.blk, Rho.set_ne hne]
      · rintro b ⟨h, hl, hb⟩
        by_cases hn : h = next
        · subst hn; simp [Rho.blk, Rho.set_same] at hb
        · by_cases hm2 : h ∈ K.map (·.1)
          · rw [hover h hm2 hKd] at hl; cases hl
          · rw [over_ne (Ne.symm hn), over_keys hm2] at hl
            exact .inl ⟨h, hl, by simpa only [Rho.blk, Rho.set_ne hn] using hb⟩
    | some h b n cap cells cs hl hb hh hs hm hn hc2 hv hA =>
      have h1 : (Builtin.append_ #[t, t] o.type #[.slice (some ⟨b, 0, none⟩) n cap, act.eval x]).run P w = .ok (.slice (some ⟨b, 0, none⟩) (n + 0) cap) w := by
        rw [hx]
        cases a0 <;> simp [Builtin.append_, run_underlying hd, sizeOf, typeInfo, hi, Builtin.lenOf, Builtin.firstCells, loadCells, loadCellsFrom, storeCells, hn]
      exact fin b cap cells w h1 hh hs hm hn (by simpa using hv) hA (.inr ⟨Fr.refl _ _ _, h, by simp, hl, by simp [Rho.blk, hb]⟩)
  · obtain ⟨bx, offx, rfl, hcells⟩ := hlie hmpos
    have hNl := hsrc.len
    have hval : ∀ j x, N[j]? = some x → w.cell? ⟨bx, offx + j, none⟩ = some (place w bx offx j) ∧ VRel r A (place w bx offx j) x ∧ x.one = true := fun j y hy => by
      obtain ⟨h1, u, h2, h3⟩ := hcells j y hy
      have : place w bx offx j = u := by simp [place, h2]
      rw [this]; exact ⟨h2, h3, h1⟩
    -- the cells that are appended
    have hnews : ∀ (j : Nat) (u : Value), ((List.range (m * ti.size)).map (place w bx offx))[j]? = some u → ∃ y, N[j]? = some y ∧ u = place w bx offx j := fun j u hu => by
      simp only [List.getElem?_map, Option.map_eq_some_iff] at hu
      obtain ⟨q, hq, rfl⟩ := hu
      obtain ⟨h1, h2⟩ := List.getElem?_eq_some_iff.1 hq
      simp at h1 h2
      subst h2
      exact ⟨N[j]'(by rw [hNl]; exact h1), List.getElem?_eq_getElem _, rfl⟩
    have lies : ∀ (v : Value) (n' : Nat) (ys : List Value), w.ownsRow 0 e ti.size v n' ys → n' + m ≤ n + m → ∃ gg cap w', (Builtin.append_ #[t, t] o.type #[v, .slice (some ⟨bx, offx, none⟩) m cap0]).run P w = .ok (.slice (some ⟨gg, 0, none⟩) (n' + m) cap) w' ∧
        w'.ownsRow 0 e ti.size (.slice (some ⟨gg, 0, none⟩) (n' + m) cap) (n' + m) (ys ++ (List.range (m * ti.size)).map (place w bx offx)) ∧ w.grownBy w' v.ownBlock ∧ (v.ownBlock = some gg ∨ gg = w.heap.size) ∧ gg < w'.heap.size := fun v n' ys hown hle =>
      run_append_lies (P := P) w t o.type 0 e i z ti.size ti.bytes hd hi hz1 hi1 hi2 (by rw [hz2, ← zero_size ht hti hzs]) hpos v n' ys hown ⟨bx, offx, none⟩ m cap0 _ (by simp) (fun j u hu => by
        obtain ⟨y, hy, rfl⟩ := hnews j u hu
        rw [Addr.add_lit]
        exact (hval j y hy).1) (fun u hu => by
        obtain ⟨j, hj, rfl⟩ := List.getElem_of_mem hu
        obtain ⟨y, hy, he⟩ := hnews j _ (List.getElem?_eq_getElem hj)
        rw [he]
        exact (hval j y hy).2.1.one (hval j y hy).2.2) hmpos (by omega) (Nat.le_trans (Nat.mul_le_mul_right _ hle) hroom) (Nat.zero_le _) _ rfl
    have split : ∀ (gg cap : Nat) (w' : World) (n' : Nat) (ys : List Value), ys.length = n' * ti.size → w'.ownsRow 0 e ti.size (.slice (some ⟨gg, 0, none⟩) (n' + m) cap) (n' + m) (ys ++ (List.range (m * ti.size)).map (place w bx offx)) →
        ∃ cells' : Array Value, w'.heap[gg]? = some (.cells cells' e (0, 0)) ∧ cells'.size = cap * ti.size ∧ cap ≤ maxLen ∧ n' + m ≤ cap ∧ (∀ j, j < n' * ti.size → cells'.getD j undef = ys.getD j undef) ∧ ∀ j, j < m * ti.size → cells'.getD (n' * ti.size + j) undef = place w bx offx j := fun gg cap w' n' ys hys hown => by
      rcases hown.2 with ⟨h1, _⟩ | ⟨g', cap', cur, h1, _, h2, h3, h4, h5, h6⟩
      · cases h1
      · cases h1
        have hle : (n' + m) * ti.size ≤ cap * ti.size := Nat.mul_le_mul_right _ h3
        rw [Nat.add_mul] at hle
        have get : ∀ j, j < (n' + m) * ti.size → cur.getD j undef = (ys ++ (List.range (m * ti.size)).map (place w bx offx)).getD j undef := fun j hj => by
          rw [← h6]
          rw [Nat.add_mul] at hj
          simp [List.getD_eq_getElem?_getD, List.getElem?_take, Nat.add_mul, hj, show j < cur.size by omega]
        refine ⟨cur, h2, h5, h4, h3, fun j hj => ?_, fun j hj => ?_⟩
        · rw [get j (by rw [Nat.add_mul]; omega)]
          simp [List.getD_eq_getElem?_getD, List.getElem?_append, hys, hj]
        · rw [get _ (by rw [Nat.add_mul]; omega)]
          simp [List.getD_eq_getElem?_getD, List.getElem?_append, hys, hj]
    have known : ∀ (cells' : Array Value) (n' : Nat) (olds : List AVal), olds.length = n' * ti.size → (∀ j a, olds[j]? = some a → VRel r A (cells'.getD j undef) a ∧ a.one = true) → (∀ j, j < m * ti.size → cells'.getD (n' * ti.size + j) undef = place w bx offx j) → ∀ j a, (olds ++ N)[j]? = some a → VRel r A (cells'.getD j undef) a ∧ a.one = true := fun cells' n' olds hol h1 h2 j a ha => by
      rw [List.getElem?_append] at ha
      split at ha
      · exact h1 j a ha
      · rename_i hj
        have hjN := (List.getElem?_eq_some_iff.1 ha).1
        have := h2 (j - olds.length) (by rw [← hNl]; exact hjN)
        rw [← hol, show olds.length + (j - olds.length) = j by omega] at this
        rw [this]
        exact ⟨(hval _ a ha).2.1, (hval _ a ha).2.2⟩
    have free : ∀ o, A w.heap.size o = none := fun oo => by
      cases hA : A w.heap.size oo with
      | none => rfl
      | some v => exact absurd (hc.view_lt hA) (Nat.lt_irrefl _)
    rw [hx] at fin
    cases hbase with
    | none a ha K hK =>
      obtain ⟨gg, cap, w', h1, h2, h3, h4, h5⟩ := lies (.slice none 0 0) 0 [] (World.ownsRow_nil _ _ _ _) (Nat.le_refl _)
      have hgg : gg = w.heap.size := h4.resolve_left (by simp [Value.ownBlock])
      subst hgg
      obtain ⟨cells', c1, c2, c3, c4, c5, c6⟩ := split _ cap w' 0 [] (by simp) h2
      have h1' : (Builtin.append_ #[t, t] o.type #[.slice a 0 0, .slice (some ⟨bx, offx, none⟩) m cap0]).run P w = .ok (.slice (some ⟨w.heap.size, 0, none⟩) (0 + m) cap) w' := by
        rcases ha with rfl | ⟨b, rfl⟩
        · exact h1
        · rw [append_nil_like hd hi b m cap0 _ hmpos (by omega) (by rw [hi2]; rw [Nat.zero_add] at hroom; exact hroom)]
          exact h1
      refine fin _ cap cells' w' h1' c1 c2 c3 c4 (known cells' 0 [] (by simp) (by simp) c6) free (.inl ⟨Nat.le_refl _, fun _ => False, ⟨h3.os, h3.tape, h3.output, h3.size, fun b hb _ => h3.block b hb (by simp [Value.ownBlock]), Sub.refl A, fun _ _ _ => rfl⟩, fun x hx => hx.elim⟩)
    | some h b n cap0' cells cs hl hb hh hs hm hn hc2 hv hA =>
      have hle0 : n * ti.size ≤ cap0' * ti.size := Nat.mul_le_mul_right _ hn
      have hown : w.ownsRow 0 e ti.size (.slice (some ⟨b, 0, none⟩) n cap0') n (cells.toList.take (n * ti.size)) := ⟨by simp; omega, .inr ⟨b, cap0', cells, rfl, Nat.zero_le _, hh, hn, hm, hs, rfl⟩⟩
      obtain ⟨gg, cap, w', h1, h2, h3, h4, h5⟩ := lies _ n _ hown (Nat.le_refl _)
      obtain ⟨cells', c1, c2, c3, c4, c5, c6⟩ := split gg cap w' n _ (by simp; omega) h2
      have hk' := known cells' n olds hc2 (fun j a ha => by
        have hj : j < n * ti.size := by rw [← hc2]; exact (List.getElem?_eq_some_iff.1 ha).1
        rw [c5 j hj]
        have := hv j a ha
        simpa [List.getD_eq_getElem?_getD, List.getElem?_take, hj, show j < cells.size by omega] using this) c6
      have hgrow : Fr w A w' A (fun x => x = b) := ⟨h3.os, h3.tape, h3.output, h3.size, fun x hx hne => h3.block x hx (by simpa [Value.ownBlock] using hne), Sub.refl A, fun _ _ _ => rfl⟩
      have hmem : ∃ h', h' ∈ ([(h, Entry.dead)] : Heap).map (·.1) ∧ (g h').live = true ∧ r.blk h' = some b := ⟨h, by simp, hl, by simp [Rho.blk, hb]⟩
      rcases h4 with h4 | rfl
      · have hgb : gg = b := by simpa [Value.ownBlock] using h4.symm
        subst hgb
        exact fin _ cap cells' w' h1 c1 c2 c3 c4 hk' hA (.inr ⟨hgrow, hmem⟩)
      · exact fin _ cap cells' w' h1 c1 c2 c3 c4 hk' free (.inl ⟨Nat.le_refl _, _, hgrow, fun x hx => hx ▸ hmem⟩)
end
end Go.Proofs.YtlioojekjnigiaeGreat.AM
/- Appending, lengths, the greater one, conversions, slices that are made. -/
namespace Go.Proofs.YtlioojekjnigiaeGreat.AM
set_option linter.unusedVariables false
set_option linter.unusedSimpArgs false

section
variable {P : Program} {tab : Tab} {lk : Operand → AVal} {next : Nat} {g : Nat → Entry} {k : Kont} {o : Oper}

theorem sound_len (ht : TabOk P tab) {t e : Nat} {x : Operand} {c : Call} (hcl : c = { callee := .builtin .len, args := #[x], argTypes := #[t] }) (ho : o.op = .call c) (hk : kindAt tab t = .slice e) (h : lenVC g (lk x) k) : Sound P o lk next g k := by
  obtain ⟨d, hd, hkk⟩ := kindAt_ok ht hk (by simp)
  obtain rfl : d = .slice e := hkk
  have hops : x ∈ o.op.operands := by subst hcl; simp [ho, Op.operands, Call.operands]
  have run : ∀ (w : World) (act : Act) (a : Option Addr) (n cap : Nat), act.eval x = .slice a n cap → (execOp act.eval o).run P w = .ok (.value (.int .i64 (n : Int))) w := fun w act a n cap hx => by
    subst hcl
    simp [execOp, ho, resolve, invoke, builtin, Builtin.len_, run_underlying hd, hx, goInt]
  unfold lenVC at h
  split at h
  · rename_i hx
    refine Sound.plain h fun g2 _ r A w act hc hv => ?_
    have hv' := hv x hops
    rw [hx] at hv'
    generalize hvv : act.eval x = v at hv'
    cases hv' with
    | nil a ha => exact ⟨_, run w act a 0 0 hvv, .dat (.int _ _)⟩
  · rename_i es hx
    refine Sound.plain h fun g2 _ r A w act hc hv => ?_
    have hv' := hv x hops
    rw [hx] at hv'
    generalize hvv : act.eval x = v at hv'
    cases hv' with
    | dat hr =>
      obtain ⟨a, cap, rfl⟩ := rep_slice hr
      exact ⟨_, run w act a _ cap hvv, .dat (.int _ _)⟩
  · rename_i hh hx
    split at h
    · rename_i T sz es l hg
      refine Sound.plain h fun g2 hg2 r A w act hc hv => ?_
      obtain ⟨_, he⟩ := hc.elems (h := hh) ((hg2 hh (by simp)).trans hg)
      have hv' := hv x hops
      rw [hx] at hv'
      generalize hvv : act.eval x = v at hv'
      cases hv' with
      | row _ b n cap hb =>
        rcases he with ⟨e1, rfl⟩ | ⟨b', cap', e1, _⟩
        · rw [hb] at e1; simp at e1
        · rw [hb] at e1
          simp only [Option.some.injEq, Loc.mk.injEq] at e1
          obtain ⟨rfl, rfl, rfl⟩ := e1
          exact ⟨_, run w act _ _ cap hvv, .dat (.int _ _)⟩
      | rowNil _ a ha hb =>
        rcases he with ⟨e1, rfl⟩ | ⟨b', cap', e1, _⟩
        · exact ⟨_, run w act _ _ _ hvv, .dat (.int _ _)⟩
        · rw [hb] at e1; simp at e1
    · rename_i T sz cs l hg
      cases hb : Nat.blt 0 sz
      · rw [hb] at h; exact h.elim
      rw [hb, cond_true] at h
      have hsz : 0 < sz := by simpa [Nat.blt_eq] using hb
      refine Sound.plain h fun g2 hg2 r A w act hc hv => ?_
      obtain ⟨b, n', cap, e1, e2, e3, e4⟩ := hc.var (h := hh) ((hg2 hh (by simp)).trans hg)
      have hv' := hv x hops
      rw [hx] at hv'
      generalize hvv : act.eval x = v at hv'
      cases hv' with
      | row _ b2 n2 cap2 hb2 =>
        rw [hb2] at e1
        simp only [Option.some.injEq, Loc.mk.injEq] at e1
        obtain ⟨rfl, rfl, rfl⟩ := e1
        refine ⟨_, run w act _ _ _ hvv, ?_⟩
        rw [e2, Nat.mul_div_cancel _ hsz]
        exact .dat (.int _ _)
      | rowNil _ a ha hb2 => rw [hb2] at e1; simp at e1
    · exact h.elim
  · rename_i hh sz off len hx
    refine Sound.plain h fun g2 _ r A w act hc hv => ?_
    have hv' := hv x hops
    rw [hx] at hv'
    generalize hvv : act.eval x = v at hv'
    cases hv' with
    | sub => exact ⟨_, run w act _ _ _ hvv, .dat (.int _ _)⟩
    | subNil => exact ⟨_, run w act _ _ _ hvv, .dat (.int _ _)⟩
  · exact h.elim
theorem sound_lenStr (ht : TabOk P tab) {t : Nat} {x : Operand} {c : Call} (hcl : c = { callee := .builtin .len, args := #[x], argTypes := #[t] }) (ho : o.op = .call c) (hk : kindAt tab t = .string) (h : lenStrVC (lk x) k) : Sound P o lk next g k := by
  obtain ⟨d, hd, hkk⟩ := kindAt_ok ht hk (by simp)
  obtain rfl : d = .string := hkk
  have hops : x ∈ o.op.operands := by subst hcl; simp [ho, Op.operands, Call.operands]
  unfold lenStrVC at h
  split at h
  · rename_i s hx
    refine Sound.plain h fun g2 _ r A w act hc hv => ?_
    have hv' := hv x hops
    rw [hx] at hv'
    have := vrel_str hv'
    subst hcl
    exact ⟨_, by simp [execOp, ho, resolve, invoke, builtin, Builtin.len_, run_underlying hd, this, goInt], .dat (.int _ _)⟩
  · exact h.elim
theorem sound_max {x y : Operand} {ts : Array TypeId} {c : Call} (m : Bool) (hcl : c = { callee := .builtin (bif m then .max else .min), args := #[x, y], argTypes := ts }) (ho : o.op = .call c) (h : maxVC m (lk x) (lk y) k) : Sound P o lk next g k := by
  unfold maxVC at h
  split at h
  · rename_i ka a kb b hx hy
    refine Sound.plain h fun g2 _ r A w act hc hv => ?_
    have hvx := hv x (by subst hcl; simp [ho, Op.operands, Call.operands])
    have hvy := hv y (by subst hcl; simp [ho, Op.operands, Call.operands])
    rw [hx] at hvx; rw [hy] at hvy
    have e1 := vrel_int hvx
    have e2 := vrel_int hvy
    subst hcl
    cases m
    · exact ⟨_, by simp [execOp, ho, resolve, invoke, builtin, Builtin.min_, Builtin.min2, e1, e2], .dat (.int _ _)⟩
    · exact ⟨_, by simp [execOp, ho, resolve, invoke, builtin, Builtin.max_, Builtin.max2, e1, e2], .dat (.int _ _)⟩
  · exact h.elim
theorem sound_convert (ht : TabOk P tab) {src dst : Nat} {x : Operand} (ho : o.op = .convert src dst x) (hs : ∃ d, P.underlying src = some d) (h : convertVC tab dst (lk x) k) : Sound P o lk next g k := by
  obtain ⟨ds, hds⟩ := hs
  unfold convertVC at h
  split at h
  · rename_i kd ks n hk hx
    obtain ⟨d, hd, hkk⟩ := kindAt_ok ht hk (by simp)
    obtain rfl : d = .int kd := hkk
    refine Sound.plain h fun g2 _ r A w act hc hv => ?_
    have hvx := hv x (by simp [ho, Op.operands])
    rw [hx] at hvx
    have e1 := vrel_int hvx
    exact ⟨_, by cases ds <;> simp [execOp, ho, convert, run_underlying hds, run_underlying hd, e1, Conv.intToInt], .dat (.int _ _)⟩
  · rename_i s hk hx
    obtain ⟨d, hd, hkk⟩ := kindAt_ok ht hk (by simp)
    obtain rfl : d = .string := hkk
    refine Sound.plain h fun g2 _ r A w act hc hv => ?_
    have hvx := hv x (by simp [ho, Op.operands])
    rw [hx] at hvx
    have e1 := vrel_str hvx
    exact ⟨_, by cases ds <;> simp [execOp, ho, convert, run_underlying hds, run_underlying hd, e1], .dat (.str _)⟩
  · exact h.elim
end
end Go.Proofs.YtlioojekjnigiaeGreat.AM
/- Slices that are made; appending, as it is asked. -/
namespace Go.Proofs.YtlioojekjnigiaeGreat.AM
set_option linter.unusedVariables false
set_option linter.unusedSimpArgs false

section
variable {P : Program} {tab : Tab} {lk : Operand → AVal} {next : Nat} {g : Nat → Entry} {k : Kont} {o : Oper}

theorem wrap_nat (n : Nat) (h : n ≤ 140737488355328) : IntKind.i64.wrap (n : Int) = n := by
  have h1 : ((n : Int) % 18446744073709551616) = n := Int.emod_eq_of_lt (by omega) (by omega)
  have h2 : IntKind.i64.signed = true := rfl
  have h3 : (2 : Int) ^ IntKind.i64.bits = 18446744073709551616 := by decide
  have h4 : (2 : Int) ^ (IntKind.i64.bits - 1) = 9223372036854775808 := by decide
  simp only [IntKind.wrap, h2, h3, h4, h1, Bool.true_and]
  rw [if_neg]
  simp
  omega
theorem make_run (ht : TabOk P tab) {t e : Nat} {ti : TI} (hk : kindAt tab t = .slice e) (hti : nth tab e = some ti) {l c : Operand} (ho : o.op = .makeSlice t l c) {zs : List AVal} (hz : ti.zero = some zs) (w : World) (act : Act) (n cap : Nat)
    (hl : act.eval l = .int .i64 (n : Int)) (hc : act.eval c = .int .i64 (cap : Int)) (hle : n ≤ cap) (hroom : cap * (ti.bytes + 1) ≤ 140737488355328) : ∃ z : Value, z.cells.size = zs.length ∧ (∀ j a, zs[j]? = some a → ∀ r A, VRel r A (z.cells.getD j undef) a) ∧
      ∃ cells : Array Value, (execOp act.eval o).run P w = .ok (.value (.slice (some ⟨w.heap.size, 0, none⟩) n cap)) (w.alloc (.cells cells e)) ∧ cells.size = cap * zs.length ∧ ∀ j, j < cap * zs.length → cells.getD j undef = z.cells.getD (j % zs.length) undef := by
  obtain ⟨d, hd, hkk⟩ := kindAt_ok ht hk (by simp)
  obtain rfl : d = .slice e := hkk
  have hok := ht e ti hti
  obtain ⟨i, hi, hi1, hi2, hi3⟩ := hok.info
  obtain ⟨z, z1, z2, z3⟩ := hok.zero' hz
  have hcap : cap ≤ 140737488355328 := Nat.le_trans (Nat.le_mul_of_pos_right _ (by omega)) hroom
  have hzl := hok.zsize zs hz
  have w1 := wrap_nat n (by omega)
  have w2 := wrap_nat cap hcap
  have hb : ti.bytes * cap ≤ 140737488355328 := by
    have : cap * (ti.bytes + 1) = ti.bytes * cap + cap := by rw [Nat.mul_add, Nat.mul_comm]; omega
    omega
  have hb' : ¬ (281474976710656 : Int) < (ti.bytes : Int) * (cap : Int) := by
    have : ((ti.bytes * cap : Nat) : Int) ≤ 140737488355328 := by omega
    rw [Int.natCast_mul] at this
    omega
  have hcond : ¬ ((cap : Int) < 0) := by omega
  have hcond2 : ¬ ((n : Int) < 0) := by omega
  have hcond3 : ¬ ((n : Int) > (cap : Int)) := by omega
  refine ⟨z, z2, fun j a ha => z3 j a ha, (Array.range (cap * ti.size)).map (if cap * ti.size = 0 then fun _ => undef else (z.cells[· % z.cells.size]!)), ?_, by simp [hzl], fun j hj => ?_⟩
  · have hti' : (typeInfo e).run P w = .ok i w := by simp [typeInfo, hi]
    by_cases h0 : cap * ti.size = 0
    · have hr0 : (Array.range 0) = #[] := rfl
      simp [execOp, ho, Instr.makeSlice, run_underlying hd, hl, hc, asInt, asIntOf, hti', w1, w2, hi2, hb', hcond, hcond2, hle, Nat.not_lt.2 hle, hok.size, h0, newRow, hr0]
    · simp [execOp, ho, Instr.makeSlice, run_underlying hd, hl, hc, asInt, asIntOf, hti', w1, w2, hi2, hb', hcond, hcond2, hle, Nat.not_lt.2 hle, hok.size, h0, z1, newRow]
  · have hpos : 0 < zs.length := by
      rcases Nat.eq_zero_or_pos zs.length with h | h
      · rw [h] at hj; simp at hj
      · exact h
    have h0 : ¬ cap * ti.size = 0 := by rw [← hzl]; omega
    rw [if_neg h0, ← hzl]
    have hm := Nat.mod_lt j hpos
    simp [hj, z2, hm]
theorem new_empty {r : Rho} {A : View} {w : World} {g : Nat → Entry} {next : Nat} (hc : Core r A w g) (hn : r next = none) (T sz cap : Nat) (cells : Array Value) (hs : cells.size = cap * sz) (hm : cap ≤ maxLen) :
    RSub r (r.set next ⟨some w.heap.size, 0, cap⟩) ∧ (∀ h, h < next ∨ next + 1 ≤ h → (r.set next ⟨some w.heap.size, 0, cap⟩) h = r h) ∧ Core (r.set next ⟨some w.heap.size, 0, cap⟩) A (w.alloc (.cells cells T)) (over [(next, .vars T sz [] true)] g) ∧
      Fr w A (w.alloc (.cells cells T)) A (LiveB r g) ∧ ∀ b, LiveB (r.set next ⟨some w.heap.size, 0, cap⟩) (over [(next, .vars T sz [] true)] g) b → LiveB r g b ∨ w.heap.size ≤ b := by
  refine Core.new hc hn cells T 0 cap _ ?_
  refine ⟨w.heap.size, 0, cap, cells, Rho.set_same, heap_alloc_new w _, hs, hm, Nat.zero_le _, by simp, fun j a ha => by simp at ha, fun oo => ?_⟩
  cases hA : A w.heap.size oo with
  | none => rfl
  | some v => exact absurd (hc.view_lt hA) (Nat.lt_irrefl _)
theorem sound_makeSlice (ht : TabOk P tab) {t : Nat} {l c : Operand} (ho : o.op = .makeSlice t l c) (h : makeSliceVC tab next t (sameTmp l c) (lk l) (lk c) k) : Sound P o lk next g k := by
  unfold makeSliceVC at h
  split at h
  · rename_i e hk
    split at h
    · rename_i ti hti
      split at h
      · rename_i zs hz
        split at h
        · rename_i ds hds
          cases hb : Nat.blt 0 ti.size && Nat.beq ds.length ti.size
          · rw [hb] at h; exact h.elim
          rw [hb, cond_true] at h
          simp only [Bool.and_eq_true] at hb
          have hdl := Nat.eq_of_beq_eq_true hb.2
          have hpos : 0 < ti.size := by simpa [Nat.blt_eq] using hb.1
          obtain ⟨d1, d2⟩ := dataAll_ok hds
          have mk : ∀ (n cap : Nat), n ≤ cap → cap * (ti.bytes + 1) ≤ 140737488355328 → (∀ (r : Rho) (A : View) (act : Act), (∀ x, x ∈ o.op.operands → VRel r A (act.eval x) (lk x)) → act.eval l = .int .i64 (n : Int) ∧ act.eval c = .int .i64 (cap : Int)) →
              k (.row next) [(next, .rows e ti.size (List.replicate n ds) true)] 1 [] → Sound P o lk next g k := fun n cap hle hroom hv' hkk => by
            refine ⟨_, _, _, _, hkk, fun g2 _ _ r A w act hr hc hv => ?_⟩
            obtain ⟨e1, e2⟩ := hv' r A act hv
            obtain ⟨z, z2, z3, cells, c1, c2, c3⟩ := make_run ht hk hti ho hz w act n cap e1 e2 hle hroom
            have hcap : cap ≤ 140737488355328 := Nat.le_trans (Nat.le_mul_of_pos_right _ (by omega)) hroom
            have hlen : (List.replicate n ds).length = n := by simp
            obtain ⟨n1, n2, n3, n4, n5⟩ := new_rows hc (hr next (Nat.le_refl _) (by omega)) e ti.size cap cells (List.replicate n ds) (by rw [c2, ← hdl, d1]) (fun x hx => by rw [(List.mem_replicate.1 hx).2, hdl]) (by simpa using hle) (by unfold maxLen; omega) (fun i x hx j d hd => by
              obtain ⟨h1, h2⟩ := List.getElem?_eq_some_iff.1 hx
              simp only [List.getElem_replicate] at h2
              subst h2
              have hj := (List.getElem?_eq_some_iff.1 hd).1
              rw [hlen] at h1
              have hlt : i * ti.size + j < cap * zs.length := by
                have h3 : (i + 1) * ti.size ≤ cap * ti.size := Nat.mul_le_mul_right _ (by omega)
                rw [Nat.add_mul] at h3
                rw [← d1, hdl]; omega
              have hmod : (i * ti.size + j) % zs.length = j := by
                rw [← d1, hdl, Nat.mul_comm, Nat.mul_add_mod, Nat.mod_eq_of_lt (by omega)]
              rw [c3 _ hlt, hmod]
              obtain ⟨a, ha1, ha2⟩ := d2 j d hd
              exact dataOf_ok ha2 (z3 j a ha1 r A))
            refine Does.value c1 ⟨_, A, n1, n2, n3, ?_, n4, n5⟩
            have := VRel.row (r := r.set next ⟨some w.heap.size, (List.replicate n ds).length, cap⟩) (A := A) next w.heap.size _ cap Rho.set_same
            rw [hlen] at this ⊢
            exact this
          have mkV : ∀ (cap : Nat), cap * (ti.bytes + 1) ≤ 140737488355328 → (∀ (r : Rho) (A : View) (act : Act), (∀ x, x ∈ o.op.operands → VRel r A (act.eval x) (lk x)) → act.eval l = .int .i64 ((0 : Nat) : Int) ∧ act.eval c = .int .i64 (cap : Int)) →
              k (.row next) [(next, .vars e ti.size [] true)] 1 [] → Sound P o lk next g k := fun cap hroom hv' hkk => by
            refine ⟨_, _, _, _, hkk, fun g2 _ _ r A w act hr hc hv => ?_⟩
            obtain ⟨e1, e2⟩ := hv' r A act hv
            obtain ⟨z, z2, z3, cells, c1, c2, c3⟩ := make_run ht hk hti ho hz w act 0 cap e1 e2 (Nat.zero_le _) hroom
            have hcap : cap ≤ 140737488355328 := Nat.le_trans (Nat.le_mul_of_pos_right _ (by omega)) hroom
            obtain ⟨n1, n2, n3, n4, n5⟩ := new_empty hc (hr next (Nat.le_refl _) (by omega)) e ti.size cap cells (by rw [c2, ← hdl, d1]) (by unfold maxLen; omega)
            refine Does.value c1 ⟨_, A, n1, n2, n3, ?_, n4, n5⟩
            exact VRel.row (r := r.set next ⟨some w.heap.size, 0, cap⟩) (A := A) next w.heap.size _ cap Rho.set_same
          split at h
          · rename_i n cc hl hcc
            cases hs : sameTmp l c
            · rw [hs, cond_false] at h
              split at h
              · obtain ⟨m, rfl, hr, h⟩ := h
                have hv0 : ∀ (r : Rho) (A : View) (act : Act), (∀ x, x ∈ o.op.operands → VRel r A (act.eval x) (lk x)) → act.eval l = .int .i64 ((0 : Nat) : Int) ∧ act.eval c = .int .i64 (m : Int) := fun r A act hv => ⟨optInt hl (hv l (by simp [ho, Op.operands])), optInt hcc (hv c (by simp [ho, Op.operands]))⟩
                cases h2 : twoNil zs
                · rw [h2, cond_false] at h
                  exact mk 0 m (Nat.zero_le _) hr hv0 h
                · rw [h2, cond_true] at h
                  exact mkV m hr hv0 h
              · exact h.elim
            · rw [hs, cond_true] at h
              have hlc : l = c := by
                unfold sameTmp at hs
                split at hs
                · rw [Nat.eq_of_beq_eq_true hs]
                · rw [Bool.and_eq_true, decide_eq_true_eq] at hs
                  rw [kind_of_no hs.1, hs.2]
                · cases hs
              subst hlc
              obtain ⟨m, rfl, hr, h⟩ := h
              exact mk m m (Nat.le_refl _) hr (fun r A act hv => ⟨optInt hl (hv l (by simp [ho, Op.operands])), optInt hl (hv l (by simp [ho, Op.operands]))⟩) h
          · exact h.elim
        · exact h.elim
      · exact h.elim
    · exact h.elim
  · exact h.elim

/-- What a slice's elements are known to be lies in memory. -/
theorem src_ok {x : AVal} {size : Nat} {kk : List (List D) → List Nat → Prop} {kv : List AVal → List Nat → Prop} (h : srcVC size g x kk kv) (hsz : 0 < size) :
    (∃ es rd, kk es rd ∧ ∀ g2, (∀ h ∈ rd, g2 h = g h) → ∀ (r : Rho) (A : View) (w : World) (v : Value), Core r A w g2 → VRel r A v x → (∀ e ∈ es, e.length = size) → LiesAt r A w size v es.length (es.flatten.map .dat)) ∨
    (∃ cs rd, kv cs rd ∧ ∀ g2, (∀ h ∈ rd, g2 h = g h) → ∀ (r : Rho) (A : View) (w : World) (v : Value), Core r A w g2 → VRel r A v x → cs.length % size = 0 → LiesAt r A w size v (cs.length / size) cs) := by
  have dat : ∀ (es : List (List D)) (A : View) (w : World) (r : Rho) (v : Value) (g2 : Nat → Entry), Core r A w g2 → Rep A v (.list es) → (∀ e ∈ es, e.length = size) → LiesAt r A w size v es.length (es.flatten.map .dat) := fun es A w r v g2 hc hr hs => by
    obtain ⟨a, cap, rfl⟩ := rep_slice hr
    obtain ⟨_, hcap, sz, hsz', hel⟩ := hr.elems
    refine ⟨by rw [List.length_map, flat_length hs], a, cap, rfl, fun hpos => ?_⟩
    have hne : es ≠ [] := List.length_pos_iff.1 hpos
    obtain ⟨b, off, rfl, hA⟩ := hel hne
    have hszz : sz = size := by
      obtain ⟨e, he⟩ := List.exists_mem_of_ne_nil es hne
      exact (hsz' e he).symm.trans (hs e he)
    subst hszz
    refine ⟨b, off, rfl, fun j y hy => ?_⟩
    simp only [List.getElem?_map, Option.map_eq_some_iff] at hy
    obtain ⟨d, hd, rfl⟩ := hy
    obtain ⟨i, q, e, rfl, h1, h2⟩ := flat_inv hs hd
    obtain ⟨u, k1, k2⟩ := hA i e h1 q d h2
    exact ⟨rfl, u, by rw [← Nat.add_assoc]; exact hc.view _ _ _ k1, .dat k2⟩
  have rows : ∀ (h T sz : Nat) (es : List (List D)) (lv : Bool) (g2 : Nat → Entry) (r : Rho) (A : View) (w : World) (off len : Nat) (v : Value), Core r A w g2 → g2 h = .rows T sz es lv → VRel r A v (.sub h sz off len) → (∀ e ∈ (es.drop off).take len, e.length = size) → LiesAt r A w size v len (((es.drop off).take len).flatten.map .dat) ∧ ((es.drop off).take len).length = len := fun h T sz es lv g2 r A w off len v hc hg hv hs => by
    obtain ⟨hss, he⟩ := hc.elems hg
    cases hv with
    | sub _ _ _ _ b n cap a hb hl hcp ha =>
      rcases he with ⟨e1, rfl⟩ | ⟨b', cap', e1, e2, e3⟩
      · rw [hb] at e1; simp at e1
      rw [hb] at e1
      simp only [Option.some.injEq, Loc.mk.injEq] at e1
      obtain ⟨rfl, rfl, rfl⟩ := e1
      have hlen : ((es.drop off).take len).length = len := by simp; omega
      refine ⟨⟨by rw [List.length_map, flat_length hs, hlen], a, _, rfl, fun hpos => ⟨b, off * sz, ha hpos, fun j y hy => ?_⟩⟩, hlen⟩
      simp only [List.getElem?_map, Option.map_eq_some_iff] at hy
      obtain ⟨d, hd, rfl⟩ := hy
      obtain ⟨i, q, e, rfl, h1, h2⟩ := flat_inv hs hd
      have hszz : sz = size := by
        have hm := List.mem_of_getElem? h1
        exact (hss e (List.mem_of_mem_drop (List.mem_of_mem_take hm))).symm.trans (hs e hm)
      subst hszz
      rw [List.getElem?_take] at h1
      split at h1
      · rw [List.getElem?_drop] at h1
        obtain ⟨u, k1, k2⟩ := e3 (off + i) e h1 q d h2
        exact ⟨rfl, u, by rw [← Nat.add_assoc, ← Nat.add_mul]; exact k1, .dat k2⟩
      · cases h1
    | subNil _ _ a hb =>
      exact ⟨⟨by simp, a, 0, rfl, fun hpos => absurd hpos (Nat.lt_irrefl _)⟩, by simp⟩
  unfold srcVC at h
  split at h
  · exact .inl ⟨_, _, h, fun g2 _ r A w v hc hv hs => by cases hv with | nil a ha => exact ⟨by simp, a, 0, rfl, fun hpos => absurd hpos (Nat.lt_irrefl _)⟩⟩
  · exact .inl ⟨_, _, h, fun g2 _ r A w v hc hv hs => by cases hv with | dat hr => exact dat _ A w r v g2 hc hr hs⟩
  · rename_i hh
    split at h
    · rename_i T sz es lv hg
      refine .inl ⟨_, _, h, fun g2 hg2 r A w v hc hv hs => ?_⟩
      have hg' := (hg2 hh (by simp)).trans hg
      obtain ⟨hss, he⟩ := hc.elems hg'
      have hv' : VRel r A v (.sub hh sz 0 es.length) := by
        cases hv with
        | row _ b n cap hb =>
          rcases he with ⟨e1, rfl⟩ | ⟨b', cap', e1, e2, e3⟩
          · rw [hb] at e1; simp at e1
          rw [hb] at e1
          simp only [Option.some.injEq, Loc.mk.injEq] at e1
          obtain ⟨rfl, rfl, rfl⟩ := e1
          have := VRel.sub (A := A) hh sz 0 es.length b es.length cap (some ⟨b, 0, none⟩) hb (by omega) e2 (by simp)
          simpa using this
        | rowNil _ a ha hb =>
          rcases he with ⟨e1, rfl⟩ | ⟨b', cap', e1, e2, e3⟩
          · exact .subNil hh sz a hb
          · rw [hb] at e1; simp at e1
      have := (rows hh T sz es lv g2 r A w 0 es.length v hc hg' hv' (by simpa using hs)).1
      simpa using this
    · rename_i T sz cs lv hg
      cases hb : Nat.beq sz size
      · rw [hb] at h; exact h.elim
      rw [hb, cond_true] at h
      obtain rfl := Nat.eq_of_beq_eq_true hb
      refine .inr ⟨_, _, h, fun g2 hg2 r A w v hc hv hs => ?_⟩
      obtain ⟨b, n', cap, e1, e2, e3, e4⟩ := hc.var (h := hh) ((hg2 hh (by simp)).trans hg)
      cases hv with
      | row _ b2 n2 cap2 hb2 =>
        rw [hb2] at e1
        simp only [Option.some.injEq, Loc.mk.injEq] at e1
        obtain ⟨rfl, rfl, rfl⟩ := e1
        rw [e2, Nat.mul_div_cancel _ hsz]
        exact ⟨e2, _, _, rfl, fun _ => ⟨b2, 0, rfl, fun j y hy => by rw [Nat.zero_add]; exact e4 j y hy⟩⟩
      | rowNil _ a ha hb2 => rw [hb2] at e1; simp at e1
    · exact h.elim
  · rename_i hh sz off len
    split at h
    · rename_i T sz' es lv hg
      cases hb : Nat.beq sz sz'
      · rw [hb] at h; exact h.elim
      rw [hb, cond_true] at h
      obtain rfl := Nat.eq_of_beq_eq_true hb
      refine .inl ⟨_, _, h, fun g2 hg2 r A w v hc hv hs => ?_⟩
      obtain ⟨k1, k2⟩ := rows hh T sz es lv g2 r A w off len v hc ((hg2 hh (by simp)).trans hg) hv hs
      rw [k2]; exact k1
    · exact h.elim
  · exact h.elim
end
end Go.Proofs.YtlioojekjnigiaeGreat.AM
/- Appending, as it is asked. -/
namespace Go.Proofs.YtlioojekjnigiaeGreat.AM
set_option linter.unusedVariables false
set_option linter.unusedSimpArgs false

section
variable {P : Program} {tab : Tab} {lk : Operand → AVal} {next : Nat} {g : Nat → Entry} {k : Kont} {o : Oper}

theorem flat_map_get {es : List (List D)} {j : Nat} {a : AVal} (h : (es.flatten.map AVal.dat)[j]? = some a) : ∃ d, es.flatten[j]? = some d ∧ a = .dat d := by
  simp only [List.getElem?_map, Option.map_eq_some_iff] at h
  obtain ⟨d, hd, rfl⟩ := h
  exact ⟨d, hd, rfl⟩
/-- A row of elements that are data, cell by cell. -/
theorem rows_ent {r' : Rho} {A : View} {w' : World} {e size : Nat} {es : List (List D)} (hs : ∀ x ∈ es, x.length = size) {b' cap' : Nat} {cells' : Array Value} (h1 : r' next = some ⟨some b', es.length, cap'⟩) (h2 : w'.heap[b']? = some (.cells cells' e (0, 0))) (h3 : cells'.size = cap' * size) (h4 : cap' ≤ maxLen) (h5 : es.length ≤ cap')
    (h6 : ∀ j a, (es.flatten.map AVal.dat)[j]? = some a → VRel r' A (cells'.getD j undef) a ∧ a.one = true) (h7 : ∀ o, A b' o = none) : EntOk r' A w' next (.rows e size es true) := by
  refine ⟨hs, .inr ⟨b', cap', cells', h1, h2, h3, h4, h5, fun i x hx j d hd => ?_, h7⟩⟩
  have := (h6 (i * size + j) (.dat d) (by rw [List.getElem?_map, flat_get hs hx hd]; rfl)).1
  generalize cells'.getD (i * size + j) undef = vv at this
  cases this with | dat h => exact h
/-- What a row of data is to be appended to. -/
theorem base_rows {r : Rho} {A : View} {w : World} (hc : Core r A w g) {h e size : Nat} {es : List (List D)} (hg : g h = .rows e size es true) {v : Value} (hv : VRel r A v (.row h)) : ∃ K : Heap, (∀ y ∈ K, y.1 = h ∧ y.2 = .dead) ∧ Base r A w g e size v es.length (es.flatten.map .dat) K ∧ K = [(h, .dead)] := by
  have hent := hc.ent h
  rw [hg] at hent
  obtain ⟨h0, ⟨e1, rfl⟩ | ⟨b, cap, cells, e1, e2, e3, e4, e5, e6, e7⟩⟩ := hent
  · cases hv with
    | row _ b n cap hb => rw [hb] at e1; simp at e1
    | rowNil _ a ha hb => exact ⟨[(h, .dead)], by simp, .none a ha _ (by simp), rfl⟩
  · cases hv with
    | row _ b2 n cap2 hb =>
      rw [hb] at e1
      simp only [Option.some.injEq, Loc.mk.injEq] at e1
      obtain ⟨rfl, rfl, rfl⟩ := e1
      refine ⟨[(h, .dead)], by simp, .some h b2 _ cap2 cells _ (by rw [hg]; rfl) hb e2 e3 e4 e5 (by rw [List.length_map, flat_length h0]) (fun j a ha => ?_) e7, rfl⟩
      obtain ⟨d, hd, rfl⟩ := flat_map_get ha
      obtain ⟨i, q, x, rfl, h1, h2⟩ := flat_inv h0 hd
      exact ⟨.dat (e6 i x h1 q d h2), rfl⟩
    | rowNil _ a ha hb => rw [hb] at e1; simp at e1
theorem base_vars {r : Rho} {A : View} {w : World} (hc : Core r A w g) {h e size : Nat} {cs : List AVal} (hg : g h = .vars e size cs true) {v : Value} (hv : VRel r A v (.row h)) : ∃ n, cs.length = n * size ∧ Base r A w g e size v n cs [(h, .dead)] := by
  have hent := hc.ent h
  rw [hg] at hent
  obtain ⟨b, n, cap, cells, e1, e2, e3, e4, e5, e6, e7, e8⟩ := hent
  cases hv with
  | row _ b2 n2 cap2 hb =>
    rw [hb] at e1
    simp only [Option.some.injEq, Loc.mk.injEq] at e1
    obtain ⟨rfl, rfl, rfl⟩ := e1
    exact ⟨n2, e6, .some h b2 n2 cap2 cells cs (by rw [hg]; rfl) hb e2 e3 e4 e5 e6 e7 e8⟩
  | rowNil _ a ha hb => rw [hb] at e1; simp at e1
theorem sound_append (ht : TabOk P tab) {t e : Nat} {ti : TI} (hk : kindAt tab t = .slice e) (hti : nth tab e = some ti) (hpos : 0 < ti.size) (hby : 0 < ti.bytes) (hz : ti.zero.isSome = true) {s x : Operand} {c : Call} (hcl : c = { callee := .builtin .append, args := #[s, x], argTypes := #[t, t] }) (ho : o.op = .call c)
    (h : appendVC e ti.size ti.bytes next g (lk s) (lk x) k) : Sound P o lk next g k := by
  have hos : s ∈ o.op.operands := by subst hcl; simp [ho, Op.operands, Call.operands]
  have hox : x ∈ o.op.operands := by subst hcl; simp [ho, Op.operands, Call.operands]
  unfold appendVC at h
  rcases src_ok h hpos with ⟨xs, rd, h, hsrc⟩ | ⟨cs, rd, h, hsrc⟩
  · split at h
    · rename_i hs
      obtain ⟨hsz, hroom, h⟩ := h
      refine ⟨_, _, _, _, h, fun g2 hg2 _ r A w act hr hc hv => ?_⟩
      have hvs := hv s hos
      rw [hs] at hvs
      have hb : Base r A w g2 e ti.size (act.eval s) 0 [] [] := by
        generalize act.eval s = v at hvs
        cases hvs with | nil a ha => exact .none a ha [] (by simp)
      refine append_post ht hk hti hpos hby hz hcl ho hc (hr next (Nat.le_refl _) (by omega)) hb (by simp) (hsrc g2 hg2 r A w _ hc (hv x hox) hsz) hroom _ (fun r' w' b' cap' cells' h1 h2 h3 h4 h5 h6 h7 => ?_) (fun r' w' h0 h1 => ?_) rfl
      · exact rows_ent hsz (by simpa using h1) h2 h3 h4 (by simpa using h5) (by simpa using h6) h7
      · exact ⟨hsz, .inl ⟨h1, List.eq_nil_of_length_eq_zero (by omega)⟩⟩
    · rename_i hh hs
      split at h
      · rename_i T sz es hg
        cases hb : Nat.beq T e && Nat.beq sz ti.size
        · rw [hb] at h; exact h.elim
        rw [hb, cond_true] at h
        simp only [Bool.and_eq_true] at hb
        obtain rfl := Nat.eq_of_beq_eq_true hb.1
        obtain rfl := Nat.eq_of_beq_eq_true hb.2
        obtain ⟨hsz, hroom, h⟩ := h
        refine ⟨_, _, _, _, h, fun g2 hg2 hg3 r A w act hr hc hv => ?_⟩
        have hvs := hv s hos
        rw [hs] at hvs
        have hrn := hr next (Nat.le_refl _) (by omega)
        have hne : hh ≠ next := fun e0 => by
          subst e0
          generalize act.eval s = v at hvs
          cases hvs with
          | row _ b n cap hb => rw [hrn] at hb; cases hb
          | rowNil _ a ha hb => rw [hrn] at hb; cases hb
        have hg' := (hg3 hh (by simp) (by omega)).trans hg
        have h0 : ∀ x ∈ es, x.length = ti.size := (hc.elems hg').1
        obtain ⟨K, hK, hbase, rfl⟩ := base_rows hc hg' hvs
        have h01 : ∀ y ∈ es ++ xs, y.length = ti.size := fun y hy => by
          rcases List.mem_append.1 hy with hy | hy
          · exact h0 y hy
          · exact hsz y hy
        refine append_post ht hk hti hpos hby hz hcl ho hc hrn hbase (by simpa using hne) (hsrc g2 hg2 r A w _ hc (hv x hox) hsz) hroom _ (fun r' w' b' cap' cells' h1 h2 h3 h4 h5 h6 h7 => ?_) (fun r' w' h9 h1 => ?_) rfl
        · exact rows_ent h01 (by simpa using h1) h2 h3 h4 (by simpa using h5) (by simpa using h6) h7
        · exact ⟨h01, .inl ⟨h1, by rw [List.eq_nil_of_length_eq_zero (l := es) (by omega), List.eq_nil_of_length_eq_zero (l := xs) (by omega)]; rfl⟩⟩
      · exact h.elim
    · exact h.elim
  · split at h
    · rename_i hs
      cases hb : Nat.blt 0 cs.length && Nat.beq (cs.length % ti.size) 0
      · rw [hb] at h; exact h.elim
      rw [hb, cond_true] at h
      simp only [Bool.and_eq_true] at hb
      have hcl0 : 0 < cs.length := by simpa [Nat.blt_eq] using hb.1
      have hmod := Nat.eq_of_beq_eq_true hb.2
      have hdiv : cs.length = cs.length / ti.size * ti.size := by rw [Nat.mul_comm]; exact (Nat.mul_div_cancel' (Nat.dvd_of_mod_eq_zero hmod)).symm
      obtain ⟨hroom, h⟩ := h
      refine ⟨_, _, _, _, h, fun g2 hg2 _ r A w act hr hc hv => ?_⟩
      have hvs := hv s hos
      rw [hs] at hvs
      have hb : Base r A w g2 e ti.size (act.eval s) 0 [] [] := by
        generalize act.eval s = v at hvs
        cases hvs with | nil a ha => exact .none a ha [] (by simp)
      refine append_post ht hk hti hpos hby hz hcl ho hc (hr next (Nat.le_refl _) (by omega)) hb (by simp) (hsrc g2 hg2 r A w _ hc (hv x hox) hmod) (by simpa using hroom) _ (fun r' w' b' cap' cells' h1 h2 h3 h4 h5 h6 h7 => ?_) (fun r' w' h0 h1 => ?_) rfl
      · exact ⟨b', _, cap', cells', h1, h2, h3, h4, h5, by rw [Nat.zero_add]; exact hdiv, h6, h7⟩
      · exfalso
        have : 0 < cs.length / ti.size := Nat.pos_of_ne_zero fun e0 => by rw [e0] at hdiv; omega
        omega
    · rename_i hh hs
      split at h
      · rename_i T sz cs0 hg
        cases hb : Nat.beq T e && Nat.beq sz ti.size && Nat.blt 0 cs.length && Nat.beq (cs.length % ti.size) 0
        · rw [hb] at h; exact h.elim
        rw [hb, cond_true] at h
        simp only [Bool.and_eq_true] at hb
        obtain ⟨⟨⟨hb1, hb2⟩, hb3⟩, hb4⟩ := hb
        obtain rfl := Nat.eq_of_beq_eq_true hb1
        obtain rfl := Nat.eq_of_beq_eq_true hb2
        have hcl0 : 0 < cs.length := by simpa [Nat.blt_eq] using hb3
        have hmod := Nat.eq_of_beq_eq_true hb4
        have hdiv : cs.length = cs.length / ti.size * ti.size := by rw [Nat.mul_comm]; exact (Nat.mul_div_cancel' (Nat.dvd_of_mod_eq_zero hmod)).symm
        obtain ⟨hroom, h⟩ := h
        refine ⟨_, _, _, _, h, fun g2 hg2 hg3 r A w act hr hc hv => ?_⟩
        have hvs := hv s hos
        rw [hs] at hvs
        have hrn := hr next (Nat.le_refl _) (by omega)
        have hne : hh ≠ next := fun e0 => by
          subst e0
          generalize act.eval s = v at hvs
          cases hvs with
          | row _ b n cap hb => rw [hrn] at hb; cases hb
          | rowNil _ a ha hb => rw [hrn] at hb; cases hb
        have hg' := (hg3 hh (by simp) (by omega)).trans hg
        obtain ⟨n, hn, hbase⟩ := base_vars hc hg' hvs
        have hdn : cs0.length / ti.size = n := by rw [hn, Nat.mul_div_cancel _ hpos]
        refine append_post ht hk hti hpos hby hz hcl ho hc hrn hbase (by simpa using hne) (hsrc g2 hg2 r A w _ hc (hv x hox) hmod) (by rw [← hdn]; exact hroom) _ (fun r' w' b' cap' cells' h1 h2 h3 h4 h5 h6 h7 => ?_) (fun r' w' h9 h1 => ?_) rfl
        · exact ⟨b', _, cap', cells', h1, h2, h3, h4, h5, by rw [List.length_append, hn, Nat.add_mul, ← hdiv], h6, h7⟩
        · exfalso
          have : 0 < cs.length / ti.size := Nat.pos_of_ne_zero fun e0 => by rw [e0] at hdiv; omega
          omega
      · exact h.elim
    · exact h.elim
end
end Go.Proofs.YtlioojekjnigiaeGreat.AM
