/- What is leaned on: part 3. -/
import Derived.Test.YtlioojekjnigiaeGreatQ2
import Derived.ProofKit
import Derived.OpenShut
import Derived.ChangeOld
import Derived.SizedLaws
import Derived.Deep.Slices
import Derived.Below
import Derived.RangeFuncNested
import Derived.RangeFuncBound
import Derived.RangeFuncCalls
import Derived.RangeFuncLeaves
import Derived.RangeFuncBox
import Derived.Maps.AppendAt
import Derived.Shelf.Abstract
import Derived.Shelf.RegionOpen
import Derived.WalkKit
import Derived.OwnWalkIn
import Derived.TacticsInMore
import Derived.LoopNIn
import Derived.LoopIn
import Derived.Test.YtlioojekjnigiaeGreatRows
import Derived.WalkSpells
import Derived.StillTactics
import Derived.Laws.Pointers
import Derived.Deep.RegionHeld3
import Derived.Deep.RegionLaw
import Derived.Deep.AppendLies
import Derived.Deep.QuietTactic
import Derived.Deep.DrawnRows
import Derived.BigQuiet
import Derived.RowKit3
import Derived.Sort.Grow
import Derived.Laws.Cover1
import Derived.Shelf.SlSortCmp.NoneTotal
import Derived.Sort.Walk0
/- What is known, told otherwise: at a loop's beginning, behind a branch. -/
namespace Go.Proofs.YtlioojekjnigiaeGreat.AM
set_option linter.unusedVariables false
set_option linter.unusedSimpArgs false

section
variable {N : Nat}

theorem Into.here {s : St} {p : St → Prop} (h : p s) : Into N s p := fun _ _ _ r A _ _ hs => ⟨s, r, A, h, hs⟩
theorem Into.trans {s : St} {p q : St → Prop} (h : Into N s p) (k : ∀ s', p s' → Into N s' q) : Into N s q := fun w0 A0 B0 r A act w hs => by
  obtain ⟨s', r', A', h1, h2⟩ := h _ _ _ _ _ _ _ hs
  exact k s' h1 _ _ _ _ _ _ _ h2
theorem Into.mono {s : St} {p q : St → Prop} (h : Into N s p) (k : ∀ s', p s' → q s') : Into N s q := h.trans fun s' hs => Into.here (k s' hs)

/-- One thing that is known, told so. -/
inductive Fit (g : Nat → Entry) : AVal → AVal → Prop
  | any (b : AVal) : Fit g .any b
  | same {a b : AVal} (h : a = b) : Fit g a b
  | kb (b : Bool) : Fit g (.dat (.bool b)) (.kb b)
  | data {a b : AVal} (h : pureA (still g) 6 b = some a) : Fit g a b
  | agg {xs ys : List AVal} (hl : xs.length = ys.length) (h : ∀ (j : Nat) (a b : AVal), xs[j]? = some a → ys[j]? = some b → Fit g a b) : Fit g (.agg xs) (.agg ys)
  | tup {xs ys : List AVal} (hl : xs.length = ys.length) (h : ∀ (j : Nat) (a b : AVal), xs[j]? = some a → ys[j]? = some b → Fit g a b) : Fit g (.tup xs) (.tup ys)
theorem Fit.rel {r : Rho} {A : View} {w : World} {g : Nat → Entry} (hc : Core r A w g) {a b : AVal} (h : Fit g a b) {v : Value} (hv : VRel r A v b) : VRel r A v a := by
  induction h generalizing v with
  | any => exact .any v
  | same h => rw [h]; exact hv
  | kb b => cases hv; exact .dat (.bool b)
  | data h => exact pureA_ok (still_reads hc) 6 h hv
  | agg hl _ ih =>
    cases hv with
    | agg cs _ hn hx =>
      refine .agg cs _ (hn.trans hl.symm) fun j a ha => ?_
      have hj := (List.getElem?_eq_some_iff.1 ha).1
      have hb := List.getElem?_eq_getElem (hl ▸ hj)
      exact ih j a _ ha hb (hx j _ hb)
  | tup hl _ ih =>
    cases hv with
    | tup cs _ hn hx =>
      refine .tup cs _ (hn.trans hl.symm) fun j a ha => ?_
      have hj := (List.getElem?_eq_some_iff.1 ha).1
      have hb := List.getElem?_eq_getElem (hl ▸ hj)
      exact ih j a _ ha hb (hx j _ hb)
/-- Values, one by one, told so. -/
def fitAll (g : Nat → Entry) : List AVal → List AVal → Prop
  | [], [] => True
  | a :: t, b :: u => Fit g a b ∧ fitAll g t u
  | _, _ => False
theorem fitAll_get {g : Nat → Entry} : ∀ {xs ys : List AVal}, fitAll g xs ys → xs.length = ys.length ∧ ∀ (j : Nat) (a b : AVal), xs[j]? = some a → ys[j]? = some b → Fit g a b
  | [], [], _ => ⟨rfl, by simp⟩
  | a :: t, b :: u, h => by
    obtain ⟨k1, k2⟩ := fitAll_get h.2
    refine ⟨by simp [k1], fun j x y hx hy => ?_⟩
    match j with
    | 0 =>
      obtain rfl : a = x := by simpa using hx
      obtain rfl : b = y := by simpa using hy
      exact h.1
    | j + 1 => exact k2 j x y (by simpa using hx) (by simpa using hy)
  | [], _ :: _, h => h.elim
  | _ :: _, [], h => h.elim
theorem Fit.aggs {g : Nat → Entry} {xs ys : List AVal} (h : fitAll g xs ys) : Fit g (.agg xs) (.agg ys) := .agg (fitAll_get h).1 (fitAll_get h).2
theorem Fit.tups {g : Nat → Entry} {xs ys : List AVal} (h : fitAll g xs ys) : Fit g (.tup xs) (.tup ys) := .tup (fitAll_get h).1 (fitAll_get h).2

/-- All slots, told so. -/
def envFits (g : Nat → Entry) (f : Nat → Nat) (src : Env) : Env → Prop
  | [] => True
  | (t, a) :: rest => Fit g (a.ren f) (look src t) ∧ envFits g f src rest
/-- Variables, told so. -/
def cellsFit (g : Nat → Entry) (f : Nat → Nat) : List AVal → List AVal → Prop
  | [], [] => True
  | a :: t, b :: u => Fit g (a.ren f) b ∧ a.one = true ∧ cellsFit g f t u
  | _, _ => False
def entFits (g : Nat → Entry) (f : Nat → Nat) : Entry → Entry → Prop
  | .dead, _ => True
  | .vars T sz cs l, .vars T' sz' cs' l' => T = T' ∧ sz = sz' ∧ l = l' ∧ cellsFit g f cs cs'
  | .rows T sz es l, .rows T' sz' es' l' => T = T' ∧ sz = sz' ∧ l = l' ∧ es = es'
  | _, _ => False
def heapFits (g : Nat → Entry) (f : Nat → Nat) : Heap → Prop
  | [] => True
  | (h, e) :: t => entFits g f e (g (f h)) ∧ heapFits g f t
theorem cellsFit_get {g : Nat → Entry} {f : Nat → Nat} : ∀ {cs cs' : List AVal}, cellsFit g f cs cs' → cs.length = cs'.length ∧ ∀ (j : Nat) (a : AVal), cs[j]? = some a → a.one = true ∧ ∃ b, cs'[j]? = some b ∧ Fit g (a.ren f) b
  | [], [], _ => ⟨rfl, by simp⟩
  | a :: t, b :: u, h => by
    obtain ⟨h1, h2, h3⟩ := h
    obtain ⟨k1, k2⟩ := cellsFit_get h3
    refine ⟨by simp [k1], fun j x hj => ?_⟩
    match j with
    | 0 =>
      obtain rfl : a = x := by simpa using hj
      exact ⟨h2, b, rfl, h1⟩
    | j + 1 => exact k2 j x (by simpa using hj)
  | [], _ :: _, h => h.elim
  | _ :: _, [], h => h.elim
theorem heapFits_get {g : Nat → Entry} {f : Nat → Nat} : ∀ {H : Heap}, heapFits g f H → ∀ j, entFits g f (H.get j) (g (f j))
  | [], _, j => trivial
  | (h, e) :: t, hh, j => by
    by_cases hj : h = j
    · subst hj
      have : Heap.get ((h, e) :: t) h = e := by simp [Heap.get, Nat.beq_refl]
      rw [this]; exact hh.1
    · have : Heap.get ((h, e) :: t) j = Heap.get t j := by rw [over_get, over_ne hj, ← over_get]
      rw [this]; exact heapFits_get hh.2 j
theorem envFits_get {g : Nat → Entry} {f : Nat → Nat} {src : Env} : ∀ {e : Env}, envFits g f src e → ∀ t, Fit g ((look e t).ren f) (look src t)
  | [], _, t => .any _
  | (t', a) :: rest, h, t => by
    rw [look_cons]
    by_cases ht : t' = t
    · subst ht; rw [if_pos rfl]; exact h.1
    · rw [if_neg ht]; exact envFits_get h.2 t
def envHb (n : Nat) : Env → Bool
  | [] => true
  | (_, a) :: t => a.hb n && envHb n t
theorem envHb_get {n : Nat} : ∀ {e : Env}, envHb n e = true → ∀ t, (look e t).hb n = true
  | [], _, t => rfl
  | (t', a) :: rest, h, t => by
    simp only [envHb, Bool.and_eq_true] at h
    rw [look_cons]
    split
    · exact h.1
    · exact envHb_get h.2 t
/-- The handles that came in go on as they were. -/
def keepOk : Nat → Nat → List Nat → Bool
  | 0, _, _ => true
  | k + 1, i, h :: t => Nat.beq h i && keepOk k (i + 1) t
  | _ + 1, _, [] => false
theorem keepOk_get : ∀ {k i : Nat} {q : List Nat}, keepOk k i q = true → k ≤ q.length ∧ ∀ j, j < k → q[j]? = some (i + j)
  | 0, _, _, _ => ⟨Nat.zero_le _, fun j h => by omega⟩
  | k + 1, i, h :: t, hk => by
    simp only [keepOk, Bool.and_eq_true] at hk
    obtain rfl := Nat.eq_of_beq_eq_true hk.1
    obtain ⟨h1, h2⟩ := keepOk_get hk.2
    refine ⟨by simpa using h1, fun j hj => ?_⟩
    match j with
    | 0 => rfl
    | j + 1 =>
      rw [List.getElem?_cons_succ, h2 j (by omega)]
      congr 1
      omega
  | _ + 1, _, [], hk => by cases hk
/-- What is known, told by other handles: q's alone go on, as 0, 1, .. -/
theorem retell {r : Rho} {A : View} {w : World} {g : Nat → Entry} (hc : Core r A w g) (q : List Nat) (H : Heap) (hH : heapFits g (ren1 q 0) H) (hq : nodup q = true) (hb : heapHb q.length H = true) :
    ∃ r' : Rho, Core r' A w H.get ∧ (∀ (a b : AVal) (v : Value), a.hb q.length = true → Fit g (a.ren (ren1 q 0)) b → VRel r A v b → VRel r' A v a) ∧ (∀ h, q.length ≤ h → r' h = none) ∧ (∀ j, j < q.length → r' j = r (ren1 q 0 j)) ∧ ∀ b, LiveB r' H.get b → LiveB r g b := by
  let r' : Rho := fun j => if j < q.length then r (ren1 q 0 j) else none
  have hrc : ∀ j l, j < q.length → r (ren1 q 0 j) = some l → r' j = some l := fun j l hj h => by simp only [r', if_pos hj]; exact h
  have inj : ∀ i j, i < q.length → j < q.length → ren1 q 0 i = ren1 q 0 j → i = j := fun i j hi hj e => by
    have h1 := List.getElem?_eq_getElem hi
    have h2 := List.getElem?_eq_getElem hj
    rw [ren1_lt h1, ren1_lt h2] at e
    rw [e] at h1
    exact nodup_get hq i j _ h1 h2
  have lt : ∀ j, (H.get j).live = true → j < q.length := fun j hl => by
    rcases (heapHb_get hb j).1 with hj | hd
    · exact hj
    · rw [hd] at hl; cases hl
  have live : ∀ j, (H.get j).live = true → (g (ren1 q 0 j)).live = true := fun j hl => by
    have := heapFits_get hH j
    cases hj : H.get j with
    | dead => rw [hj] at hl; cases hl
    | vars T sz cs l =>
      rw [hj] at this hl
      cases hs2 : g (ren1 q 0 j) with
      | vars T' sz' cs' l' => rw [hs2] at this; obtain ⟨_, _, rfl, _⟩ := this; exact hl
      | dead => rw [hs2] at this; exact this.elim
      | rows => rw [hs2] at this; exact this.elim
    | rows T sz es l =>
      rw [hj] at this hl
      cases hs2 : g (ren1 q 0 j) with
      | rows T' sz' es' l' => rw [hs2] at this; obtain ⟨_, _, rfl, _⟩ := this; exact hl
      | dead => rw [hs2] at this; exact this.elim
      | vars => rw [hs2] at this; exact this.elim
  have blk : ∀ j b, j < q.length → r'.blk j = some b → r.blk (ren1 q 0 j) = some b := fun j b hj h => by
    simp only [Rho.blk, r', if_pos hj] at h
    exact h
  refine ⟨r', ⟨hc.view, fun j => ?_, fun j j' b hl hl' hb1 hb2 => ?_⟩, fun a b v ha hf hv => VRel.unren hrc a ha (hf.rel hc hv), fun h hh => ?_, fun j hj => if_pos hj, fun b hbb => ?_⟩
  · have hf := heapFits_get hH j
    obtain ⟨i1, i2⟩ := heapHb_get hb j
    rcases i1 with hj | hd
    rotate_left
    · exact (by rw [hd]; trivial)
    have hent := hc.ent (ren1 q 0 j)
    cases hjj : H.get j with
    | dead => trivial
    | vars T sz cs l =>
      rw [hjj] at hf i2
      simp only at i2
      cases hs2 : g (ren1 q 0 j) with
      | dead => rw [hs2] at hf; exact hf.elim
      | rows => rw [hs2] at hf; exact hf.elim
      | vars T' sz' cs' l' =>
        rw [hs2] at hf hent
        obtain ⟨rfl, rfl, rfl, hcf⟩ := hf
        obtain ⟨k1, k2⟩ := cellsFit_get hcf
        cases l with
        | true =>
          obtain ⟨b, n, cap, cells, e1, e2, e3, e4, e5, e6, e7, e8⟩ := hent
          refine ⟨b, n, cap, cells, hrc j _ hj e1, e2, e3, e4, e5, by rw [k1, e6], fun p a ha => ?_, e8⟩
          obtain ⟨ho, x, hx, hfit⟩ := k2 p a ha
          exact ⟨VRel.unren hrc a (hbL_get i2 p a ha) (hfit.rel hc (e7 p x hx).1), ho⟩
        | false =>
          obtain ⟨b, n, cap, e1, e2, e3, e4⟩ := hent
          refine ⟨b, n, cap, hrc j _ hj e1, e2, by rw [k1, e3], fun p a ha => ?_⟩
          obtain ⟨ho, x, hx, hfit⟩ := k2 p a ha
          obtain ⟨_, u, q1, q2⟩ := e4 p x hx
          exact ⟨ho, u, q1, VRel.unren hrc a (hbL_get i2 p a ha) (hfit.rel hc q2)⟩
    | rows T sz es l =>
      rw [hjj] at hf
      cases hs2 : g (ren1 q 0 j) with
      | dead => rw [hs2] at hf; exact hf.elim
      | vars => rw [hs2] at hf; exact hf.elim
      | rows T' sz' es' l' =>
        rw [hs2] at hf hent
        obtain ⟨rfl, rfl, rfl, rfl⟩ := hf
        exact EntOk.unren (f := ren1 q 0) (e := .rows T sz es l) hrc hj rfl hent
  · exact inj j j' (lt j hl) (lt j' hl') (hc.dis _ _ b (live j hl) (live j' hl') (blk j b (lt j hl) hb1) (blk j' b (lt j' hl') hb2))
  · simp only [r']
    rw [if_neg (Nat.not_lt.2 hh)]
  · obtain ⟨j, hl, hbj⟩ := hbb
    exact ⟨_, live j hl, blk j b (lt j hl) hbj⟩
/-- What is known is told otherwise: the handles q alone go on, as 0, 1, .. -/
theorem Into.to {s : St} (q : List Nat) (e : Env) (H : Heap) (he : envFits s.H.get (ren1 q 0) s.env e) (hH : heapFits s.H.get (ren1 q 0) H) (hq : (nodup q && keepOk (kOf N) 0 q) = true) (hb : (envHb q.length e && heapHb q.length H) = true) : Into N s fun s' => s' = ⟨e, q.length, H⟩ := fun w0 A0 B0 r A act w hs => by
  simp only [Bool.and_eq_true] at hb hq
  obtain ⟨r', h1, h2, h3, h4, h5⟩ := retell hs.core q H hH hq.1 hb.2
  obtain ⟨k1, k2⟩ := keepOk_get hq.2
  refine ⟨_, r', A, rfl, hs.defers, hs.size, fun t => h2 _ _ _ (envHb_get hb.1 t) (envFits_get he t) (hs.env t), h1, h3, hs.frame, fun b hbb => hs.own b (h5 b hbb), fun h hh => ?_, k1⟩
  have := k2 h hh
  rw [Nat.zero_add] at this
  rw [h4 h (Nat.lt_of_lt_of_le hh k1), ren1_lt this]
  exact hs.keep h hh
/-- A slice that is none is a row of none. -/
theorem Into.row {s : St} (t T sz : Nat) (h : look s.env t = .nil) : Into N s fun s' => s' = ⟨(t, .row s.next) :: s.env, s.next + 1, (s.next, .rows T sz [] true) :: s.H⟩ := fun w0 A0 B0 r A act w hs => by
  have hn := hs.fresh s.next (Nat.le_refl _)
  have hsub := Rho.set_sub (l := ⟨none, 0, 0⟩) hn
  have hg : Heap.get ((s.next, .rows T sz [] true) :: s.H) = over [(s.next, .rows T sz [] true)] s.H.get := funext fun x => over_app_get [(s.next, .rows T sz [] true)] s.H x
  refine ⟨_, r.set s.next ⟨none, 0, 0⟩, A, rfl, hs.defers, hs.size, fun x => ?_, ?_, fun x hx => ?_, hs.frame, fun b hb => ?_, fun x hx => (Rho.set_ne (by have := hs.low; omega)).trans (hs.keep x hx), Nat.le_succ_of_le hs.low⟩
  · rw [look_cons]
    by_cases hx : t = x
    · subst hx
      rw [if_pos rfl]
      have := hs.env t
      rw [h] at this
      generalize act.tmps.getD t undef = v at this
      cases this with | nil a ha => exact .rowNil _ a ha Rho.set_same
    · rw [if_neg hx]; exact (hs.env x).mono hsub (Sub.refl A)
  · rw [hg]
    refine Core.step hs.core hsub (fun _ => False) (Fr.refl _ _ _) (fun b oo v hA => hs.core.view b oo v hA) (fun b hb => hb.elim) (fun x hx => ?_) (fun x b hx hl hb => ?_) (fun x hx hl => ?_)
    · obtain rfl : x = s.next := by simpa using hx
      rw [over_same]
      exact ⟨by simp, .inl ⟨Rho.set_same, rfl⟩⟩
    · obtain rfl : x = s.next := by simpa using hx
      simp [Rho.blk, Rho.set_same] at hb
    · have hne : x ≠ s.next := by simpa using hx
      simp only [Rho.blk, Rho.set_ne hne]
  · have : s.next ≠ x := by simp only at hx; omega
    rw [Rho.set_ne (Ne.symm this)]
    exact hs.fresh x (by simp only at hx; omega)
  · rw [hg] at hb
    obtain ⟨x, hl, hbx⟩ := hb
    by_cases hx : x = s.next
    · subst hx; simp [Rho.blk, Rho.set_same] at hbx
    · rw [over_ne (Ne.symm hx)] at hl
      exact hs.own b ⟨x, hl, by simpa only [Rho.blk, Rho.set_ne hx] using hbx⟩
/-- A variable's cell that is a slice of none is a row of none. -/
theorem Into.rowAt {s : St} (h T0 sz0 : Nat) (cs : List AVal) (j T sz : Nat) (hh : s.H.get h = .vars T0 sz0 cs true) (hlt : h < s.next) (hj : cs[j]? = some .nil) : Into N s fun s' => s' = ⟨s.env, s.next + 1, (s.next, .rows T sz [] true) :: (h, .vars T0 sz0 (cs.set j (.row s.next)) true) :: s.H⟩ := fun w0 A0 B0 r A act w hs => by
  have hn := hs.fresh s.next (Nat.le_refl _)
  have hsub := Rho.set_sub (l := ⟨none, 0, 0⟩) hn
  have hg : Heap.get ((s.next, .rows T sz [] true) :: (h, .vars T0 sz0 (cs.set j (.row s.next)) true) :: s.H) = over [(s.next, .rows T sz [] true), (h, .vars T0 sz0 (cs.set j (.row s.next)) true)] s.H.get := funext fun x => over_app_get [(s.next, .rows T sz [] true), (h, .vars T0 sz0 (cs.set j (.row s.next)) true)] s.H x
  have hne : h ≠ s.next := Nat.ne_of_lt hlt
  have blk : ∀ x, x ≠ s.next → (r.set s.next ⟨none, 0, 0⟩).blk x = r.blk x := fun x hx => by simp only [Rho.blk, Rho.set_ne hx]
  have hent := hs.core.ent h
  rw [hh] at hent
  have hlive : (s.H.get h).live = true := by rw [hh]; rfl
  refine ⟨_, r.set s.next ⟨none, 0, 0⟩, A, rfl, hs.defers, hs.size, fun x => (hs.env x).mono hsub (Sub.refl A), ?_, fun x hx => ?_, hs.frame, fun b hb => ?_, fun x hx => (Rho.set_ne (by have := hs.low; omega)).trans (hs.keep x hx), Nat.le_succ_of_le hs.low⟩
  · rw [hg]
    refine Core.step hs.core hsub (fun _ => False) (Fr.refl _ _ _) (fun b oo v hA => hs.core.view b oo v hA) (fun b hb => hb.elim) (fun x hx => ?_) (fun x b hx hl hb => ?_) (fun x hx hl => ?_)
    · by_cases hxn : x = s.next
      · subst hxn
        rw [over_same]
        exact ⟨by simp, .inl ⟨Rho.set_same, rfl⟩⟩
      · obtain rfl : x = h := by simpa [hxn] using hx
        rw [over_ne (Ne.symm hxn), over_same]
        obtain ⟨b, n, cap, cells, e1, e2, e3, e4, e5, e6, e7, e8⟩ := hent
        refine ⟨b, n, cap, cells, hsub _ _ e1, e2, e3, e4, e5, by simpa using e6, fun i a ha => ?_, e8⟩
        by_cases hij : j = i
        · subst hij
          have hjl := (List.getElem?_eq_some_iff.1 hj).1
          rw [List.getElem?_set_self hjl] at ha
          obtain rfl : AVal.row s.next = a := by simpa using ha
          obtain ⟨k1, k2⟩ := e7 j _ hj
          generalize cells.getD j undef = v at k1
          cases k1 with | nil a0 ha0 => exact ⟨.rowNil _ a0 ha0 Rho.set_same, rfl⟩
        · rw [List.getElem?_set_ne hij] at ha
          exact ⟨(e7 i a ha).1.mono hsub (Sub.refl A), (e7 i a ha).2⟩
    · by_cases hxn : x = s.next
      · subst hxn
        simp [Rho.blk, Rho.set_same] at hb
      · obtain rfl : x = h := by simpa [hxn] using hx
        rw [blk x hxn] at hb
        refine ⟨.inr ⟨x, by simp, hlive, hb⟩, fun h2 hh2 hl2 hb2 => ?_⟩
        by_cases hn2 : h2 = s.next
        · subst hn2; simp [Rho.blk, Rho.set_same] at hb2
        · simpa [hn2] using hh2
    · have hxn : x ≠ s.next := fun e => hx (by simp [e])
      exact blk x hxn
  · have : s.next ≠ x := by simp only at hx; omega
    rw [Rho.set_ne (Ne.symm this)]
    exact hs.fresh x (by simp only at hx; omega)
  · rw [hg] at hb
    obtain ⟨x, hl, hbx⟩ := hb
    by_cases hx : x = s.next
    · subst hx; simp [Rho.blk, Rho.set_same] at hbx
    · rw [blk x hx] at hbx
      rw [over_ne (Ne.symm hx)] at hl
      by_cases hxh : x = h
      · subst hxh; exact hs.own b ⟨x, hlive, hbx⟩
      · rw [over_ne (Ne.symm hxh)] at hl
        exact hs.own b ⟨x, hl, hbx⟩
theorem EntOk.rename {r r' : Rho} {A : View} {w : World} {h h' : Nat} {e : Entry} (hr : RSub r r') (hh : r' h' = r h) (he : EntOk r A w h e) : EntOk r' A w h' e := by
  match e, he with
  | .dead, _ => trivial
  | .vars T sz cs true, ⟨b, n, cap, cells, h1, h2, h3, h4, h5, h6, h7, h8⟩ => exact ⟨b, n, cap, cells, hh.trans h1, h2, h3, h4, h5, h6, fun j a ha => ⟨(h7 j a ha).1.mono hr (Sub.refl A), (h7 j a ha).2⟩, h8⟩
  | .vars T sz cs false, ⟨b, n, cap, h1, h2, h3, h4⟩ => exact ⟨b, n, cap, hh.trans h1, h2, h3, fun j a ha => let ⟨k1, v, k2, k3⟩ := h4 j a ha; ⟨k1, v, k2, k3.mono hr (Sub.refl A)⟩⟩
  | .rows T sz es true, ⟨h0, .inl ⟨h1, h2⟩⟩ => exact ⟨h0, .inl ⟨hh.trans h1, h2⟩⟩
  | .rows T sz es true, ⟨h0, .inr ⟨b, cap, cells, h1, h2, h3, h4, h5, h6, h7⟩⟩ => exact ⟨h0, .inr ⟨b, cap, cells, hh.trans h1, h2, h3, h4, h5, h6, h7⟩⟩
  | .rows T sz es false, ⟨h0, .inl ⟨h1, h2⟩⟩ => exact ⟨h0, .inl ⟨hh.trans h1, h2⟩⟩
  | .rows T sz es false, ⟨h0, .inr ⟨b, cap, h1, h2, f, h3, h4⟩⟩ => exact ⟨h0, .inr ⟨b, cap, hh.trans h1, h2, f, h3, h4⟩⟩
theorem EntOk.loc {r : Rho} {A : View} {w : World} {h : Nat} {e : Entry} (he : EntOk r A w h e) (hl : e.live = true) : ∃ l, r h = some l := by
  match e, he with
  | .dead, _ => cases hl
  | .vars T sz cs true, ⟨b, n, cap, cells, h1, _⟩ => exact ⟨_, h1⟩
  | .vars T sz cs false, ⟨b, n, cap, h1, _⟩ => exact ⟨_, h1⟩
  | .rows T sz es true, ⟨h0, .inl ⟨h1, h2⟩⟩ => exact ⟨_, h1⟩
  | .rows T sz es true, ⟨h0, .inr ⟨b, cap, cells, h1, _⟩⟩ => exact ⟨_, h1⟩
  | .rows T sz es false, ⟨h0, .inl ⟨h1, h2⟩⟩ => exact ⟨_, h1⟩
  | .rows T sz es false, ⟨h0, .inr ⟨b, cap, h1, _⟩⟩ => exact ⟨_, h1⟩
/-- A row of one's own goes on by another handle. -/
theorem Into.alias {s : St} (t h : Nat) (e : Entry) (ht : look s.env t = .row h) (he : s.H.get h = e) (hl : e.live = true) (hlt : h < s.next) : Into N s fun s' => s' = ⟨(t, .row s.next) :: s.env, s.next + 1, (s.next, e) :: (h, .dead) :: s.H⟩ := fun w0 A0 B0 r A act w hs => by
  have hn := hs.fresh s.next (Nat.le_refl _)
  have hent := hs.core.ent h
  rw [he] at hent
  obtain ⟨loc, hloc⟩ := hent.loc hl
  have hsub := Rho.set_sub (l := loc) hn
  have hg : Heap.get ((s.next, e) :: (h, .dead) :: s.H) = over [(s.next, e), (h, .dead)] s.H.get := funext fun x => over_app_get [(s.next, e), (h, .dead)] s.H x
  have hne : h ≠ s.next := Nat.ne_of_lt hlt
  have blk : ∀ x, x ≠ s.next → (r.set s.next loc).blk x = r.blk x := fun x hx => by simp only [Rho.blk, Rho.set_ne hx]
  have bnx : (r.set s.next loc).blk s.next = r.blk h := by simp only [Rho.blk, Rho.set_same, hloc]
  have hlive : (s.H.get h).live = true := by rw [he]; exact hl
  refine ⟨_, r.set s.next loc, A, rfl, hs.defers, hs.size, fun x => ?_, ?_, fun x hx => ?_, hs.frame, fun b hb => ?_, fun x hx => (Rho.set_ne (by have := hs.low; omega)).trans (hs.keep x hx), Nat.le_succ_of_le hs.low⟩
  · rw [look_cons]
    by_cases hx : t = x
    · subst hx
      rw [if_pos rfl]
      have := hs.env t
      rw [ht] at this
      generalize act.tmps.getD t undef = v at this
      cases this with
      | row _ b n cap hb => rw [hloc] at hb; cases hb; exact .row _ b n cap Rho.set_same
      | rowNil _ a ha hb => rw [hloc] at hb; cases hb; exact .rowNil _ a ha Rho.set_same
    · rw [if_neg hx]; exact (hs.env x).mono hsub (Sub.refl A)
  · rw [hg]
    refine Core.step hs.core hsub (fun _ => False) (Fr.refl _ _ _) (fun b oo v hA => hs.core.view b oo v hA) (fun b hb => hb.elim) (fun x hx => ?_) (fun x b hx hl2 hb => ?_) (fun x hx hl2 => ?_)
    · by_cases hxn : x = s.next
      · subst hxn
        rw [over_same]
        exact hent.rename hsub (by rw [Rho.set_same, hloc])
      · obtain rfl : x = h := by simpa [hxn] using hx
        rw [over_ne (Ne.symm hxn), over_same]
        trivial
    · by_cases hxn : x = s.next
      · subst hxn
        rw [bnx] at hb
        refine ⟨.inr ⟨h, by simp, hlive, hb⟩, fun h2 hh2 hl3 hb2 => ?_⟩
        by_cases hn2 : h2 = s.next
        · exact hn2
        · obtain rfl : h2 = h := by simpa [hn2] using hh2
          rw [over_ne (Ne.symm hn2), over_same] at hl3
          cases hl3
      · obtain rfl : x = h := by simpa [hxn] using hx
        rw [over_ne (Ne.symm hxn), over_same] at hl2
        cases hl2
    · have hxn : x ≠ s.next := fun e => hx (by simp [e])
      exact blk x hxn
  · have : s.next ≠ x := by simp only at hx; omega
    rw [Rho.set_ne (Ne.symm this)]
    exact hs.fresh x (by simp only at hx; omega)
  · rw [hg] at hb
    obtain ⟨x, hl2, hbx⟩ := hb
    by_cases hx : x = s.next
    · subst hx
      rw [bnx] at hbx
      exact hs.own b ⟨h, hlive, hbx⟩
    · rw [blk x hx] at hbx
      rw [over_ne (Ne.symm hx)] at hl2
      by_cases hxh : x = h
      · subst hxh; rw [over_same] at hl2; cases hl2
      · rw [over_ne (Ne.symm hxh)] at hl2
        exact hs.own b ⟨x, hl2, hbx⟩
/-- A row of one's own stays from here on. -/
theorem Into.stay {s : St} (h : Nat) (e : Entry) (he : (match s.H.get h with
    | .vars T sz cs true => some (.vars T sz cs false)
    | .rows T sz es true => some (.rows T sz es false)
    | _ => none) = some e) : Into N s fun s' => s' = ⟨s.env, s.next, (h, e) :: s.H⟩ := fun w0 A0 B0 r A act w hs => by
  have hg : Heap.get ((h, e) :: s.H) = over [(h, e)] s.H.get := funext fun x => over_app_get [(h, e)] s.H x
  have hent := hs.core.ent h
  have hlf : e.live = false := by
    split at he
    · cases he; rfl
    · cases he; rfl
    · cases he
  have hll : (s.H.get h).live = true := by
    split at he
    · rename_i hx; rw [hx]; rfl
    · rename_i hx; rw [hx]; rfl
    · cases he
  -- the view with that row's cells
  let A2 : View := fun b o => if r.blk h = some b then w.cell? ⟨b, o, none⟩ else A b o
  have hfree : ∀ b, r.blk h = some b → ∀ o, A b o = none := fun b hb => (hent.block hll hb).2
  have hA : Sub A A2 := fun b o v hv => by
    simp only [A2]
    split
    · rename_i hb
      rw [hfree b hb] at hv; cases hv
    · exact hv
  have hview : ∀ b o v, A2 b o = some v → w.cell? ⟨b, o, none⟩ = some v := fun b o v hv => by
    simp only [A2] at hv
    split at hv
    · exact hv
    · exact hs.core.view b o v hv
  have hcore : Core r A2 w (over [(h, e)] s.H.get) := by
    refine ⟨hview, fun x => ?_, fun x y b hx hy hbx hby => ?_⟩
    · by_cases hxh : x = h
      · subst hxh
        rw [over_same]
        split at he
        · rename_i T sz cs hx
          cases he
          rw [hx] at hent
          obtain ⟨b, n, cap, cells, e1, e2, e3, e4, e5, e6, e7, e8⟩ := hent
          refine ⟨b, n, cap, e1, e5, e6, fun j a ha => ⟨(e7 j a ha).2, cells.getD j undef, ?_, (e7 j a ha).1.mono (RSub.refl r) hA⟩⟩
          have hlt : j < cells.size := by
            have := (List.getElem?_eq_some_iff.1 ha).1
            have hm : n * sz ≤ cap * sz := Nat.mul_le_mul_right _ e5
            omega
          simp only [A2]
          rw [if_pos (by simp [Rho.blk, e1])]
          exact cell_of e2 (getD_some hlt undef)
        · rename_i T sz es hx
          cases he
          rw [hx] at hent
          obtain ⟨k0, ⟨k1, k2⟩ | ⟨b, cap, cells, e1, e2, e3, e4, e5, e6, e7⟩⟩ := hent
          · exact ⟨k0, .inl ⟨k1, k2⟩⟩
          · refine ⟨k0, .inr ⟨b, cap, e1, e5, fun i j => cells.getD (i * sz + j) undef, fun i j hi hj => ?_, fun i x hx j d hd => (e6 i x hx j d hd).mono hA⟩⟩
            have hlt : i * sz + j < cells.size := by
              have h1 : (i + 1) * sz ≤ es.length * sz := Nat.mul_le_mul_right _ hi
              have h2 : es.length * sz ≤ cap * sz := Nat.mul_le_mul_right _ e5
              rw [Nat.add_mul] at h1
              omega
            simp only [A2]
            rw [if_pos (by simp [Rho.blk, e1])]
            exact cell_of e2 (getD_some hlt undef)
        · cases he
      · rw [over_ne (Ne.symm hxh)]
        refine EntOk.mono (RSub.refl r) hA (fun hl b hb => ⟨rfl, funext fun o => ?_⟩) (hs.core.ent x)
        simp only [A2]
        rw [if_neg fun hb2 => hxh (hs.core.dis x h b hl hll hb hb2)]
    · have nx : x ≠ h := fun e0 => by subst e0; rw [over_same, hlf] at hx; cases hx
      have ny : y ≠ h := fun e0 => by subst e0; rw [over_same, hlf] at hy; cases hy
      rw [over_ne (Ne.symm nx)] at hx
      rw [over_ne (Ne.symm ny)] at hy
      exact hs.core.dis x y b hx hy hbx hby
  refine ⟨_, r, A2, rfl, hs.defers, hs.size, fun t => (hs.env t).mono (RSub.refl r) hA, by rw [hg]; exact hcore, hs.fresh, ⟨hs.frame.os, hs.frame.tape, hs.frame.output, hs.frame.size, hs.frame.block, hs.frame.sub.trans hA, fun b hb hn => funext fun o => ?_⟩, fun b hb => ?_, hs.keep, hs.low⟩
  · simp only [A2]
    rw [if_neg fun hb2 => ?_]
    · rw [hs.frame.keep b hb hn]
    · rcases hs.own b ⟨h, hll, hb2⟩ with h1 | h1
      · omega
      · exact hn h1
  · rw [hg] at hb
    obtain ⟨x, hl, hbx⟩ := hb
    have nx : x ≠ h := fun e0 => by subst e0; rw [over_same, hlf] at hl; cases hl
    rw [over_ne (Ne.symm nx)] at hl
    exact hs.own b ⟨x, hl, hbx⟩
end
end Go.Proofs.YtlioojekjnigiaeGreat.AM
/- What came in, opened: data of their types. -/
namespace Go.Proofs.YtlioojekjnigiaeGreat.AM
set_option linter.unusedVariables false
set_option linter.unusedSimpArgs false

def szAt (tab : Tab) (T : Nat) : Nat := match nth tab T with
  | some ti => ti.size
  | none => 0
def byAt (tab : Tab) (T : Nat) : Nat := match nth tab T with
  | some ti => ti.bytes
  | none => 0
/-- Fields that lie side by side. -/
def contig (tab : Tab) : List (Nat × Nat) → Nat → Nat → Bool
  | [], o, n => Nat.beq o n
  | (t, off) :: fs, o, n => Nat.beq off o && contig tab fs (o + szAt tab t) n
/-- Types that can be opened. -/
def okT (tab : Tab) : Nat → Nat → Bool
  | 0, _ => false
  | n + 1, T => match nth tab T with
    | none => false
    | some ti => match ti.kind with
      | .bool | .int _ | .string => true
      | .slice e => (nth tab e).isSome && Nat.blt 0 (szAt tab e) && okT tab n e
      | .struct fs => contig tab fs 0 ti.size && fs.all fun f => (nth tab f.1).isSome && okT tab n f.1
      | .array c e => (nth tab e).isSome && Nat.beq (c * szAt tab e) ti.size && okT tab n e
      | _ => false
/-- Data of several types, side by side. -/
def WTs (wt : Nat → List D → Prop) : List Nat → List D → Prop
  | [], ds => ds = []
  | t :: ts, ds => ∃ xs ys, ds = xs ++ ys ∧ wt t xs ∧ WTs wt ts ys
/-- Data of a type. -/
def WT (tab : Tab) : Nat → Nat → List D → Prop
  | 0, _, _ => False
  | n + 1, T, ds => match nth tab T with
    | none => False
    | some ti => match ti.kind with
      | .bool => ∃ b, ds = [.bool b]
      | .int k => ∃ m, ds = [.int k m] ∧ (Lit.int k m).wf = true
      | .string => ∃ s, ds = [.str s] ∧ s.size ≤ 140737488351232
      | .slice e => ∃ es, ds = [.list es] ∧ es.length * byAt tab e ≤ 140737488351232 ∧ ∀ e' ∈ es, WT tab n e e'
      | .struct fs => WTs (WT tab n) (fs.map (·.1)) ds
      | .array c e => WTs (WT tab n) (List.replicate c e) ds
      | _ => False

section
variable {P : Program} {tab : Tab} {H : Type} {enc : TypeId × Value → H} {w : World} {base : Nat} {sp : Nat → Bool} {held : Bool}

/-- Cells and what they say. -/
def Reads1 (w : World) (cs : List Value) (ds : List D) : Prop := ds.length = cs.length ∧ ∀ (j : Nat) (d : D), ds[j]? = some d → ∃ v, cs[j]? = some v ∧ Rep (full w) v d
theorem szAt_ok (ht : TabOk P tab) {t : Nat} (h : (nth tab t).isSome = true) : P.cellsOf t = szAt tab t := by
  obtain ⟨ti, hti⟩ := Option.isSome_iff_exists.1 h
  obtain ⟨i, hi, hs, _⟩ := (ht t ti hti).info
  simp [Program.cellsOf, hi, szAt, hti, hs]
theorem byAt_ok (ht : TabOk P tab) {t : Nat} (h : (nth tab t).isSome = true) : P.bytesOf t = byAt tab t := by
  obtain ⟨ti, hti⟩ := Option.isSome_iff_exists.1 h
  obtain ⟨i, hi, _, hs, _⟩ := (ht t ti hti).info
  simp [Program.bytesOf, hi, byAt, hti, hs]
theorem contig_le : ∀ {fs : List (Nat × Nat)} {o n : Nat}, contig tab fs o n = true → o ≤ n
  | [], o, n, h => by simp only [contig] at h; exact Nat.le_of_eq (Nat.eq_of_beq_eq_true h)
  | (t, off) :: fs, o, n, h => by
    simp only [contig, Bool.and_eq_true] at h
    have := contig_le h.2
    omega
theorem segs {cs : List Value} {wt : Nat → List D → Prop} : ∀ (fs : List (Nat × Nat)) (o : Nat), contig tab fs o cs.length = true → (∀ f ∈ fs, ∃ xs, wt f.1 xs ∧ Reads1 w ((cs.drop f.2).take (szAt tab f.1)) xs) → ∃ ds, WTs wt (fs.map (·.1)) ds ∧ Reads1 w (cs.drop o) ds
  | [], o, h, _ => by
    simp only [contig] at h
    have := Nat.eq_of_beq_eq_true h
    exact ⟨[], rfl, by simp; omega, by simp⟩
  | (t, off) :: fs, o, h, hx => by
    simp only [contig, Bool.and_eq_true] at h
    obtain rfl := Nat.eq_of_beq_eq_true h.1
    obtain ⟨xs, h1, h2, h3⟩ := hx (t, off) (by simp)
    obtain ⟨ys, k1, k2, k3⟩ := segs fs (off + szAt tab t) h.2 fun f hf => hx f (by simp [hf])
    have hle := contig_le h.2
    simp only [List.length_take, List.length_drop] at h2 k2
    have h2' : xs.length = min (szAt tab t) (cs.length - off) := h2
    refine ⟨xs ++ ys, ⟨xs, ys, rfl, h1, k1⟩, by simp; omega, fun j d hj => ?_⟩
    by_cases hlt : j < xs.length
    · rw [List.getElem?_append_left hlt] at hj
      obtain ⟨v, q1, q2⟩ := h3 j d hj
      have hj2 : j < szAt tab t := by omega
      rw [List.getElem?_take, if_pos hj2] at q1
      exact ⟨v, q1, q2⟩
    · rw [List.getElem?_append_right (by omega)] at hj
      obtain ⟨v, q1, q2⟩ := k3 _ d hj
      rw [List.getElem?_drop] at q1
      refine ⟨v, ?_, q2⟩
      rw [List.getElem?_drop, ← q1]
      congr 1
      omega
theorem contig_array {e c n : Nat} (hn : c * szAt tab e = n) : contig tab ((List.range c).map fun i => (e, i * szAt tab e)) 0 n = true := by
  have key : ∀ (c s : Nat), contig tab ((List.range' s c).map fun i => (e, i * szAt tab e)) (s * szAt tab e) ((s + c) * szAt tab e) = true := by
    intro c
    induction c with
    | zero => intro s; simp [contig, Nat.beq_refl]
    | succ c ih =>
      intro s
      rw [List.range'_succ, List.map_cons]
      simp only [contig, Nat.beq_refl, Bool.true_and]
      have := ih (s + 1)
      rw [Nat.add_mul, Nat.one_mul] at this
      rw [show s + (c + 1) = s + 1 + c by omega]
      exact this
  have := key c 0
  rw [Nat.zero_mul, Nat.zero_add, hn] at this
  rw [List.range_eq_range']
  exact this
theorem mem_weightsAll {e : TypeId} : ∀ {ds : List (DataW H)} {i : Nat} {d : DataW H}, ds[i]? = some d → ∀ n ∈ d.weights P e, n ∈ DataW.weightsAll P e ds
  | [], i, d, h, n, hn => by simp at h
  | d0 :: ds, 0, d, h, n, hn => by
    obtain rfl : d0 = d := by simpa using h
    simp only [DataW.weightsAll, List.mem_append]
    exact .inl hn
  | d0 :: ds, i + 1, d, h, n, hn => by
    simp only [DataW.weightsAll, List.mem_append]
    exact .inr (mem_weightsAll (ds := ds) (i := i) (by simpa using h) n hn)
/-- What is read as data of a type, opened. -/
theorem open_wt (ht : TabOk P tab) : ∀ (n T fuel : Nat) (cs : List Value) (x : DataW H × List MemPlace), okT tab n T = true → DataW.trod enc P w base sp held fuel T cs = some x → (∀ m ∈ DataW.weights P T x.1, m ≤ reachBytes) → ∃ ds, WT tab n T ds ∧ Reads1 w cs ds := by
  intro n
  induction n with
  | zero => intro T fuel cs x h; cases h
  | succ n ih =>
    intro T fuel cs x hok h hw
    simp only [okT] at hok
    cases hti : nth tab T with
    | none => rw [hti] at hok; cases hok
    | some ti =>
      rw [hti] at hok
      simp only at hok
      simp only [WT, hti]
      obtain ⟨d, hd, hk⟩ := (ht T ti hti).kind
      have one : ∀ {v : Value} {d : D}, Rep (full w) v d → Reads1 w [v] [d] := fun {v d} hr => ⟨rfl, fun j d' hj => by
        match j with
        | 0 =>
          obtain rfl : d = d' := by simpa using hj
          exact ⟨v, rfl, hr⟩
        | j + 1 => simp at hj⟩
      cases hkk : ti.kind with
      | bool =>
        rw [hkk] at hk
        obtain rfl : d = .bool := hk
        obtain ⟨b, rfl, _⟩ := DataW.trod_bool hd h
        exact ⟨_, ⟨b, rfl⟩, one (.bool b)⟩
      | int k =>
        rw [hkk] at hk
        obtain rfl : d = .int k := hk
        obtain ⟨m, rfl, _, hwf⟩ := DataW.trod_int hd h
        exact ⟨_, ⟨m, rfl, hwf⟩, one (.int k m)⟩
      | string =>
        rw [hkk] at hk
        obtain rfl : d = .string := hk
        obtain ⟨s, rfl, rfl, _⟩ := DataW.trod_string hd h
        have := hw s.data.toList.length (by simp only [DataW.weights, List.mem_singleton])
        have hsz : s.data.toList.length = s.size := by rw [Array.length_toList]; rfl
        rw [hsz] at this
        exact ⟨_, ⟨s, rfl, this⟩, one (.str s)⟩
      | slice e =>
        rw [hkk] at hk
        simp only [hkk] at hok
        obtain rfl : d = .slice e := hk
        simp only [Bool.and_eq_true] at hok
        rcases DataW.trod_slice hd h with ⟨rfl, rfl⟩ | ⟨a, len, cap, elems, rest, m, _, rfl, rfl, _, hle, hcap, hlen, hel, _, _⟩
        · exact ⟨_, ⟨[], rfl, by simp, by simp⟩, one (.list none 0 0 [] (fun _ _ => undef) (Nat.le_refl _) (by simp) (fun h => absurd rfl h) (by simp))⟩
        · have hsz := szAt_ok ht hok.1.1
          have hpos : 0 < szAt tab e := by simpa [Nat.blt_eq] using hok.1.2
          have each : ∀ i, i < len → ∃ es : List D, WT tab n e es ∧ es.length = szAt tab e ∧ ∀ j d, es[j]? = some d → ∃ v, w.cell? ((a.add (i * szAt tab e)).add j) = some v ∧ Rep (full w) v d := by
            intro i hi
            have h1 := hel i hi
            have hi' : i < elems.length := by omega
            rw [List.getElem?_eq_getElem hi', Option.bind_eq_some_iff] at h1
            obtain ⟨cs', hc, htr⟩ := h1
            rw [hsz] at hc
            obtain ⟨_, hcl, hcc⟩ := World.cells?_some hc
            obtain ⟨es, k1, k2, k3⟩ := ih e m cs' _ hok.2 htr fun q hq => hw q (by
              simp only [DataW.weights, hd, List.mem_cons, List.mem_append]
              exact .inr (.inl (mem_weightsAll (i := i) (by simp [hi']) q hq)))
            refine ⟨es, k1, by rw [k2, hcl], fun j d hj => ?_⟩
            obtain ⟨v, q1, q2⟩ := k3 j d hj
            have hj' : j < szAt tab e := by
              have := (List.getElem?_eq_some_iff.1 q1).1
              omega
            exact ⟨v, by rw [hcc j hj', q1], q2⟩
          obtain ⟨F, hF⟩ := Go.Deep.choose_lt each
          have hEl : ((List.range len).map F).length = len := by simp
          have hEg : ∀ (i : Nat) (e' : List D), ((List.range len).map F)[i]? = some e' → i < len ∧ F i = e' := fun i e' h => by
            have hi : i < len := by
              have := (List.getElem?_eq_some_iff.1 h).1
              omega
            exact ⟨hi, by simpa [hi] using h⟩
          have hby := hw ((elems.length + rest.length) * P.bytesOf e) (by simp [DataW.weights, hd])
          rw [byAt_ok ht hok.1.1] at hby
          refine ⟨_, ⟨(List.range len).map F, rfl, ?_, fun e' he => ?_⟩, ?_⟩
          · rw [hEl]
            have : len * byAt tab e ≤ (elems.length + rest.length) * byAt tab e := Nat.mul_le_mul_right _ (by omega)
            unfold reachBytes at hby
            omega
          · obtain ⟨i, hi⟩ := List.getElem?_of_mem he
            obtain ⟨h1, rfl⟩ := hEg i e' hi
            exact (hF i h1).1
          · by_cases h0 : len = 0
            · subst h0
              exact one (Rep.list (some a) cap 0 [] (fun _ _ => undef) (Nat.zero_le _) (by simp) (fun h => absurd rfl h) (by simp))
            · obtain ⟨_, f1, f2⟩ := hF 0 (by omega)
              obtain ⟨v0, q1, _⟩ := f2 0 _ (List.getElem?_eq_getElem (by omega))
              have hspot := World.cell?_spot q1
              obtain ⟨b, off, spot⟩ := a
              obtain rfl : spot = none := by
                simp only [Addr.add] at hspot
                simpa using hspot
              have hadd : ∀ o i, (⟨b, o, none⟩ : Addr).add i = ⟨b, o + i, none⟩ := fun o i => by unfold Addr.add; split <;> simp_all
              have hr : Rep (full w) (.slice (some ⟨b, off, none⟩) len cap) (.list ((List.range len).map F)) := by
                refine rep_of_rows (b := b) (off := off) (sz := szAt tab e) hEl.symm (by omega) (fun e' he => ?_) (fun _ => rfl) fun i e' hi j d hj => ?_
                · obtain ⟨i, hi⟩ := List.getElem?_of_mem he
                  obtain ⟨h1, rfl⟩ := hEg i e' hi
                  exact (hF i h1).2.1
                · obtain ⟨h1, rfl⟩ := hEg i e' hi
                  obtain ⟨v, q1, q2⟩ := (hF i h1).2.2 j d hj
                  rw [hadd, hadd] at q1
                  exact ⟨v, q1, q2⟩
              exact one hr
      | struct fs =>
        rw [hkk] at hk
        simp only [hkk] at hok
        obtain ⟨fields, rfl, rfl⟩ := hk
        simp only [Bool.and_eq_true] at hok
        obtain ⟨xs, m, _, rfl, hl, hn, hf⟩ := DataW.trod_struct hd h
        have hT : P.cellsOf T = ti.size := by
          rw [szAt_ok ht (by rw [hti]; rfl)]
          simp [szAt, hti]
        refine segs _ 0 (by rw [hl, hT]; exact hok.1) fun f hf2 => ?_
        have hall := List.all_eq_true.1 hok.2 f hf2
        simp only [Bool.and_eq_true] at hall
        obtain ⟨i, hi⟩ := List.getElem?_of_mem hf2
        rw [List.getElem?_map, Option.map_eq_some_iff] at hi
        obtain ⟨g, hg, rfl⟩ := hi
        have hg' : fields[i]? = some g := by simpa using hg
        have h1 := hf i g hg'
        have hi' : i < xs.length := by rw [hn]; exact (Array.getElem?_eq_some_iff.1 hg').1
        rw [List.getElem?_eq_getElem hi', szAt_ok ht hall.1] at h1
        exact ih g.type m _ _ hall.2 h1 fun q hq => hw q (by
          simp only [DataW.weights, hd]
          exact DataW.weights_mem_each (j := i) (t := g.type) (by rw [List.getElem?_map, hg]; rfl) (by rw [List.getElem?_map, List.getElem?_eq_getElem hi']; rfl) q hq)
      | array c e =>
        rw [hkk] at hk
        simp only [hkk] at hok
        obtain rfl : d = .array c e := hk
        simp only [Bool.and_eq_true] at hok
        obtain ⟨xs, m, _, rfl, hl, hn, hf⟩ := DataW.trod_array hd h
        have hT : P.cellsOf T = ti.size := by
          rw [szAt_ok ht (by rw [hti]; rfl)]
          simp [szAt, hti]
        have hse := szAt_ok ht hok.1.1
        have := segs (w := w) (tab := tab) (cs := cs) (wt := WT tab n) ((List.range c).map fun i => (e, i * szAt tab e)) 0 (contig_array (by rw [hl, hT]; exact Nat.eq_of_beq_eq_true hok.1.2)) fun f hf2 => by
          rw [List.mem_map] at hf2
          obtain ⟨i, hi, rfl⟩ := hf2
          rw [List.mem_range] at hi
          have h1 := hf i hi
          have hi' : i < xs.length := by omega
          rw [List.getElem?_eq_getElem hi', hse] at h1
          exact ih e m _ _ hok.2 h1 fun q hq => hw q (by
            simp only [DataW.weights, hd]
            exact mem_weightsAll (i := i) (by rw [List.getElem?_map, List.getElem?_eq_getElem hi']; rfl) q hq)
        have hm : ((List.range c).map fun i => (e, i * szAt tab e)).map (·.1) = List.replicate c e := by
          rw [List.map_map]
          exact List.ext_getElem? fun i => by by_cases hi : i < c <;> simp [hi, List.getElem?_replicate]
        rw [hm] at this
        exact this
      | pointer e => simp only [hkk] at hok; cases hok
      | other => simp only [hkk] at hok; cases hok
end
end Go.Proofs.YtlioojekjnigiaeGreat.AM
/- A law that answers true whatever data it is handed: called with what came in, it answers true, and nothing of old is changed. -/
namespace Go.Proofs.YtlioojekjnigiaeGreat.AM
set_option linter.unusedVariables false
set_option linter.unusedSimpArgs false

def oneA : List D → AVal
  | [d] => .dat d
  | _ => .any
def argA (tab : Tab) (T : Nat) (ds : List D) : AVal := match nth tab T with
  | some ti => bif ti.kind.isAgg then .agg (ds.map .dat) else oneA ds
  | none => .any
def argsA (tab : Tab) : List Nat → List (List D) → List AVal
  | t :: ts, ds :: dss => argA tab t ds :: argsA tab ts dss
  | _, _ => []
def AllWT (tab : Tab) (n : Nat) : List Nat → List (List D) → Prop
  | [], [] => True
  | t :: ts, ds :: dss => WT tab n t ds ∧ AllWT tab n ts dss
  | _, _ => False

section
variable {P : Program} {tab : Tab} {H : Type} {enc : TypeId × Value → H} {W : World} {sp : Nat → Bool} {held : Bool}

theorem cell_not_agg {base : Nat} {t : TypeId} {d : TypeDesc} {cs : Array Value} (hd : P.underlying t = some d) (hk : (match d with | .bool | .int _ | .string | .slice _ => true | _ => false) = true) (h : Cell.okWide P W .any base t (.agg cs)) : False := by
  unfold Cell.okWide Cell.ok at h
  rw [hd] at h
  cases d <;> first | exact h | cases hk
theorem arg_rel (ht : TabOk P tab) {n T base : Nat} {v : Value} {d : DataW H} {ps : List MemPlace} (hok : okT tab n T = true) (hv : Value.okWide P W .any base T v) (h : DataW.Trod enc P W 0 sp held T v d ps) (hw : ∀ m ∈ DataW.weights P T d, m ≤ reachBytes) : ∃ ds, WT tab n T ds ∧ VRel (fun _ => none) (full W) v (argA tab T ds) := by
  obtain ⟨fuel, hf⟩ := h
  obtain ⟨ds, h1, h2, h3⟩ := open_wt ht n T fuel _ _ hok hf hw
  refine ⟨ds, h1, ?_⟩
  cases n with
  | zero => cases hok
  | succ n =>
    simp only [okT] at hok
    cases hti : nth tab T with
    | none => rw [hti] at hok; cases hok
    | some ti =>
      rw [hti] at hok
      simp only at hok
      simp only [argA, hti]
      obtain ⟨td, hd, hk⟩ := (ht T ti hti).kind
      have agg : (∃ cs, v = .agg cs) → VRel (fun _ => none) (full W) v (.agg (ds.map .dat)) := fun ⟨cs, e⟩ => by
        subst e
        simp only [Value.cells, Array.length_toList] at h2 h3
        refine .agg cs _ (by simp [h2]) fun j a ha => ?_
        rw [List.getElem?_map, Option.map_eq_some_iff] at ha
        obtain ⟨x, hx, rfl⟩ := ha
        obtain ⟨u, q1, q2⟩ := h3 j x hx
        rw [Array.getElem?_toList] at q1
        rw [Array.getD_eq_getD_getElem?, q1]
        exact .dat q2
      have one : (∀ cs, v ≠ .agg cs) → VRel (fun _ => none) (full W) v (oneA ds) := fun hne => by
        have hc : v.cells = #[v] := by
          cases v <;> first | rfl | exact absurd rfl (hne _)
        rw [hc] at h2 h3
        match ds, h2 with
        | [x], _ =>
          obtain ⟨u, q1, q2⟩ := h3 0 x rfl
          obtain rfl : v = u := by simpa using q1
          exact .dat q2
      cases hkk : ti.kind <;> simp only [hkk] at hok hk
      case pointer e => cases hok
      case other => cases hok
      case struct fs =>
        obtain ⟨fields, rfl, _⟩ := hk
        obtain ⟨cs, hcs, _⟩ := Go.WideShapes.okWide_struct hd hv
        exact agg ⟨cs, hcs⟩
      case array c e =>
        obtain rfl : td = .array c e := hk
        simp only [Value.okWide, hd] at hv
        obtain ⟨cs, hcs, _⟩ := hv
        exact agg ⟨cs, hcs⟩
      case bool =>
        obtain rfl : td = .bool := hk
        simp only [Value.okWide, hd] at hv
        exact one fun cs e => by subst e; exact cell_not_agg hd rfl hv
      case int k =>
        obtain rfl : td = .int k := hk
        simp only [Value.okWide, hd] at hv
        exact one fun cs e => by subst e; exact cell_not_agg hd rfl hv
      case string =>
        obtain rfl : td = .string := hk
        simp only [Value.okWide, hd] at hv
        exact one fun cs e => by subst e; exact cell_not_agg hd rfl hv
      case slice e =>
        obtain rfl : td = .slice e := hk
        simp only [Value.okWide, hd] at hv
        exact one fun cs e => by subst e; exact cell_not_agg hd rfl hv
theorem args_rel (ht : TabOk P tab) {n base : Nat} : ∀ {ts : List Nat} {vs : List Value} {ds : List (DataW H)} {ps : List MemPlace}, (ts.all (okT tab n) = true) → (∀ (j : Nat) t v, ts[j]? = some t → vs[j]? = some v → Value.okWide P W .any base t v) → DataW.TrodAll enc P W 0 sp held ts vs ds ps → (∀ m ∈ DataW.weightsEach P ts ds, m ≤ reachBytes) →
    ∃ dss, AllWT tab n ts dss ∧ vs.length = (argsA tab ts dss).length ∧ ∀ (j : Nat) (a : AVal), (argsA tab ts dss)[j]? = some a → ∃ v, vs[j]? = some v ∧ VRel (fun _ => none) (full W) v a
  | [], [], [], ps, _, _, _, _ => ⟨[], trivial, rfl, by simp [argsA]⟩
  | t :: ts, v :: vs, d :: ds, ps, hok, hv, h, hw => by
    obtain ⟨p, q, h1, h2, _⟩ := h
    simp only [List.all_cons, Bool.and_eq_true] at hok
    obtain ⟨xs, k1, k2⟩ := arg_rel ht hok.1 (hv 0 t v rfl rfl) h1 fun m hm => hw m (by simp only [DataW.weightsEach, List.mem_append]; exact .inl hm)
    obtain ⟨dss, k3, k4, k5⟩ := args_rel ht hok.2 (fun j t v h1 h2 => hv (j + 1) t v h1 h2) h2 fun m hm => hw m (by simp only [DataW.weightsEach, List.mem_append]; exact .inr hm)
    refine ⟨xs :: dss, ⟨k1, k3⟩, by simp [argsA, k4], fun j a ha => ?_⟩
    match j with
    | 0 =>
      obtain rfl : argA tab t xs = a := by simpa [argsA] using ha
      exact ⟨v, rfl, k2⟩
    | j + 1 => exact k5 j a (by simpa [argsA] using ha)
  | [], _ :: _, _, _, _, _, h, _ => h.elim
  | [], [], _ :: _, _, _, _, h, _ => h.elim
  | _ :: _, [], _, _, _, _, h, _ => h.elim
  | _ :: _, _ :: _, [], _, _, _, h, _ => h.elim
/-- A law that answers true. -/
theorem law_run (ht : TabOk P tab) {n base F : Nat} {ts : List Nat} {args : Array Value} {ds : List (DataW H)} {ps : List MemPlace} (hok : ts.all (okT tab n) = true) (hv : ∀ (j : Nat) t v, ts[j]? = some t → args[j]? = some v → Value.okWide P W .any base t v) (h : DataW.TrodAll enc P W 0 sp held ts args.toList ds ps) (hw : ∀ m ∈ DataW.weightsEach P ts ds, m ≤ reachBytes)
    (hlaw : ∀ dss, AllWT tab n ts dss → PCall P F (argsA tab ts dss) (.dat (.bool true))) : Calls P F args W fun e W' => e = .returned (.bool true) ∧ Go.RowKit.Below W.heap.size W W' := by
  obtain ⟨dss, h1, h2, h3⟩ := args_rel ht hok (fun j t v h1 h2 => hv j t v h1 (by simpa using h2)) h hw
  refine ((hlaw dss h1).2 (fun _ => none) (full W) W args (fun _ _ => rfl) ⟨fun b o v h => h, fun h => trivial, fun h h' b hl => by cases hl⟩ (by simpa using h2) fun j a ha => ?_).mono fun e W' he => ?_
  · obtain ⟨v, q1, q2⟩ := h3 j a ha
    rw [Array.getElem?_toList] at q1
    rw [Array.getD_eq_getD_getElem?, q1]
    exact q2
  · obtain ⟨v, r', A', x, H', n', rfl, ⟨rfl, rfl, rfl⟩, _, _, _, _, hvr, hfr, _⟩ := he
    cases hvr with
    | dat hr =>
      cases hr
      exact ⟨rfl, hfr.os, hfr.tape, hfr.output, hfr.size, fun k hk => hfr.block k hk fun ⟨_, hl, _⟩ => by cases hl⟩
end
end Go.Proofs.YtlioojekjnigiaeGreat.AM
/- Ids and entries, as data. -/
namespace Go.Proofs.YtlioojekjnigiaeGreat.AM
set_option linter.unusedVariables false
set_option linter.unusedSimpArgs false

structure Id where
  r : Int
  n : Int
theorem Id.ext' {a b : Id} (h1 : a.r = b.r) (h2 : a.n = b.n) : a = b := by cases a; cases b; simp_all
instance : DecidableEq Id := fun a b => if h : a.r = b.r ∧ a.n = b.n then .isTrue (Id.ext' h.1 h.2) else .isFalse fun e => h ⟨by rw [e], by rw [e]⟩
def Id.enc (x : Id) : List D := [.int .i64 x.r, .int .i64 x.n]
def Id.arg (x : Id) : AVal := .agg [.dat (.int .i64 x.r), .dat (.int .i64 x.n)]
structure Entry' where
  id : Id
  colors : Int
  text : ByteArray
  links : List Id
def Entry'.enc (e : Entry') : List D := [.int .i64 e.id.r, .int .i64 e.id.n, .int .i64 e.colors, .str e.text, .list (e.links.map Id.enc)]
def Entry'.arg (e : Entry') : AVal := .agg [.dat (.int .i64 e.id.r), .dat (.int .i64 e.id.n), .dat (.int .i64 e.colors), .dat (.str e.text), .dat (.list (e.links.map Id.enc))]
def dInt (n : Int) : AVal := .dat (.int .i64 n)
def dBool (b : Bool) : AVal := .dat (.bool b)

def Id.less (a b : Id) : Bool := if a.r = b.r then decide (a.n < b.n) else decide (a.r < b.r)
theorem less_ok (a b : Id) : PCall Tryz.prog 84 [a.arg, b.arg] (dBool (a.less b)) := by
  refine pcall_intro tab_all tab_mixed Tryz.func84 (by kernel_rfl) Tryz.ntmps84 rfl ?_
  conv => whnf
  refine ⟨fun h => ?_, fun h => ?_⟩
  · conv => whnf
    refine ⟨congrArg dBool ?_⟩
    have h : a.r ≠ b.r := by simpa using h
    simp [Id.less, h]
  · conv => whnf
    refine ⟨congrArg dBool ?_⟩
    have h : a.r = b.r := by simpa using h
    simp [Id.less, h]
theorem isRegion_ok (n : Int) : PCall Tryz.prog 105 [dInt n] (dBool (decide (n = 0) || decide (n = 1))) := by
  refine pcall_intro tab_all tab_mixed Tryz.func105 (by kernel_rfl) Tryz.ntmps105 rfl ?_
  conv => whnf
  refine ⟨fun h => ?_, fun h => ?_⟩
  · conv => whnf
    refine ⟨congrArg dBool ?_⟩
    have h : n = 0 := by simpa using h
    simp [h]
  · conv => whnf
    refine ⟨congrArg dBool ?_⟩
    have h : n ≠ 0 := by simpa using h
    simp only [h, decide_false, Bool.false_or]
    rfl
theorem AtIdx.ofMap {α : Type} {enc : α → List D} {l : List α} {i sz : Nat} {k : Nat → List D → Prop} (h : i < l.length) (hl : (enc l[i]).length = sz) (hk : k i (enc l[i])) : AtIdx (i : Nat) (l.map enc) sz k :=
  .mk i (enc l[i]) rfl (by simp [h]) hl hk
theorem Ret.bool {a b : Bool} (h : a = b) : Ret (.dat (.bool a)) (dBool b) := ⟨congrArg dBool h⟩
theorem Ret.int {a b : Int} (h : a = b) : Ret (.dat (.int .i64 a)) (dInt b) := ⟨congrArg dInt h⟩
theorem wrap_id {n : Int} (h1 : -9223372036854775808 ≤ n) (h2 : n ≤ 9223372036854775807) : IntKind.i64.wrap n = n := by
  simp only [IntKind.wrap, IntKind.bits, IntKind.signed, Bool.true_and]
  split <;> simp_all <;> omega
theorem wrap_up {i : Nat} (h : i + 1 ≤ 140737488355328) : ((i + 1 : Nat) : Int) = IntKind.i64.wrap ((i : Int) + 1) := by
  rw [wrap_id (by omega) (by omega)]
  rfl
def isIdx {α : Type} (p : α → Bool) : List α → Nat → Option Nat
  | [], _ => none
  | a :: t, i => if p a then some i else isIdx p t (i + 1)
def idxOf (o : Option Nat) : Int := match o with
  | some i => i
  | none => -1
theorem indexFunc_entry {cl : Nat} {ds : List D} {l : List Entry'} {p : Entry' → Bool} (hl : l.length ≤ 140737488355328) (hcl : ∀ x ∈ l, PCall Tryz.prog cl [x.arg, .dat (.ptr ds)] (dBool (p x))) :
    PCall Tryz.prog 88 [.dat (.list (l.map Entry'.enc)), .fn (.func cl) [] [.dat (.ptr ds)]] (dInt (idxOf (isIdx p l 0))) := by
  refine pcall_intro tab_all tab_mixed Tryz.func88 (by kernel_rfl) Tryz.ntmps88 rfl ?_
  conv => whnf
  refine LoopOk.mk (fun m s => ∃ i, i + m = l.length ∧ isIdx p l 0 = isIdx p (l.drop i) i ∧ s = ⟨[(8, dInt i), (7, dInt (l.map Entry'.enc).length), (1, .fn (.func cl) [] [.dat (.ptr ds)]), (0, .dat (.list (l.map Entry'.enc)))], 0, []⟩) l.length (Into.mono (Into.to [] [(8, dInt (0 : Nat)), (7, dInt (l.map Entry'.enc).length), (1, .fn (.func cl) [] [.dat (.ptr ds)]), (0, .dat (.list (l.map Entry'.enc)))] [] ⟨.same rfl, .same rfl, .same rfl, .same rfl, trivial⟩ trivial rfl rfl) fun s' h => ⟨0, by omega, rfl, h⟩) ?_
  rintro m s ⟨i, hi, hp, rfl⟩
  conv => whnf
  refine SeqOk.go ?_
  conv => whnf
  refine ⟨fun h => ?_, fun h => ?_⟩
  · conv => whnf
    have hi' : i < l.length := by simpa using h
    refine AtIdx.ofMap hi' rfl ?_
    conv => whnf
    refine .look _ _ (hcl l[i] (List.getElem_mem hi')) rfl rfl ?_
    conv => whnf
    rw [List.drop_eq_getElem_cons hi'] at hp
    refine ⟨fun h => ?_, fun h => ?_⟩
    · conv => whnf
      refine Ret.int ?_
      rw [hp]
      simp [isIdx, h, idxOf]
    · conv => whnf
      refine Into.mono (Into.to [] [(8, dInt (i + 1 : Nat)), (7, dInt (l.map Entry'.enc).length), (1, .fn (.func cl) [] [.dat (.ptr ds)]), (0, .dat (.list (l.map Entry'.enc)))] [] ⟨.same (congrArg dInt ?_), .same rfl, .same rfl, .same rfl, trivial⟩ trivial rfl rfl) fun s' h' => ⟨m - 1, by omega, i + 1, by omega, ?_, h'⟩
      · exact wrap_up (by omega)
      · rw [hp]
        simp [isIdx, h]
  · conv => whnf
    refine Ret.int ?_
    have hi' : l.length ≤ i := by simpa using h
    rw [hp, List.drop_eq_nil_of_le hi']
    rfl
end Go.Proofs.YtlioojekjnigiaeGreat.AM
/- Small helps of walks: tests that are known, loops that hide what comes behind, cuts. -/
namespace Go.Proofs.YtlioojekjnigiaeGreat.AM
set_option linter.unusedVariables false
set_option linter.unusedSimpArgs false

/-- What comes behind a loop, hidden while it is walked. -/
theorem LoopOk.hide {N : Nat} {body : (X → St → Prop) → St → Prop} {Q : X → St → Prop} {s : St} (h : ∀ Q', Q' = Q → LoopOk N body Q' s) : LoopOk N body Q s := h Q rfl
theorem BoolCase.yes {b : Bool} {t f : Prop} (h : b = true) (k : t) : BoolCase b t f := ⟨fun _ => k, fun h' => (by rw [h] at h'; cases h')⟩
theorem BoolCase.no {b : Bool} {t f : Prop} (h : b = false) (k : f) : BoolCase b t f := ⟨fun h' => (by rw [h] at h'; cases h'), fun _ => k⟩
/-- A bool that is known. -/
theorem PCall.kb {P : Program} {f : FuncId} {args : List AVal} {b : Bool} (h : PCall P f args (dBool b)) : PCall P f args (.kb b) := by
  refine ⟨h.1, fun r A w vs hr hc hs hv => (h.2 r A w vs hr hc hs hv).mono fun e w' he => ?_⟩
  obtain ⟨v, r', A', x, H', n', rfl, ⟨rfl, rfl, rfl⟩, k1, k2, k3, k4, k5, k6, k7⟩ := he
  refine ⟨v, r', A', .kb b, [], 0, rfl, ⟨rfl, rfl, rfl⟩, k1, k2, k3, k4, ?_, k6, k7⟩
  cases k5 with | dat hh => cases hh; exact .kb b
theorem SeqOk.cut' {N : Nat} {a b : (X → St → Prop) → St → Prop} {Q : X → St → Prop} {s : St} (s1 : St) (ha : a (fun e s' => match e with
      | .normal => Into N s' fun s2 => s2 = s1
      | .exit id => Q (.exit id) s'
      | .ret => Q .ret s') s) (hb : b Q s1) : SeqOk N a b Q s := .cut (fun s2 => s2 = s1) ha fun s2 h => by rw [h]; exact hb
theorem cond_yes {b : Bool} {t f : Prop} (hb : b = true) (h : t) : cond b t f := by rw [hb]; exact h
theorem ret_of (o : Option AVal) (x : AVal) : (∃ y, o = some y ∧ y = x) → (match o with
    | some y => fA y fun y => Ret y x
    | none => False) := by
  rintro ⟨y, rfl, rfl⟩
  show fA y _
  rw [fA_eq]
  exact ⟨rfl⟩
end Go.Proofs.YtlioojekjnigiaeGreat.AM
/- A library's range over a function, at ops: what comes of a slice, one by one, is gathered again. -/
namespace Go.Proofs.YtlioojekjnigiaeGreat.AM.Fo
open Go.RowKit Go.Shelf
set_option linter.unusedVariables false
set_option linter.unusedSimpArgs false
attribute [local go_sem] Oper.semAt_some
/-- An op's cells. -/
structure R6 where
  r : Int
  n : Int
  k : Int
  key : ByteArray
  val : ByteArray
  pa : Option Addr
  pn : Nat
  pc : Nat
def R6.cells (x : R6) : List Value := [.int .i64 x.r, .int .i64 x.n, .int .i64 x.k, .string x.key, .string x.val, .slice x.pa x.pn x.pc]
def R6.val' (x : R6) : Value := .agg #[.int .i64 x.r, .int .i64 x.n, .int .i64 x.k, .string x.key, .string x.val, .slice x.pa x.pn x.pc]
/-- They lie so. -/
structure At6 (W : World) (b o : Nat) (x : R6) : Prop where
  c0 : W.cell? ⟨b, o, none⟩ = some (.int .i64 x.r)
  c1 : W.cell? ⟨b, o + 1, none⟩ = some (.int .i64 x.n)
  c2 : W.cell? ⟨b, o + 2, none⟩ = some (.int .i64 x.k)
  c3 : W.cell? ⟨b, o + 3, none⟩ = some (.string x.key)
  c4 : W.cell? ⟨b, o + 4, none⟩ = some (.string x.val)
  c5 : W.cell? ⟨b, o + 5, none⟩ = some (.slice x.pa x.pn x.pc)
theorem At6.below {n₀ : Nat} {W W' : World} {b o : Nat} {x : R6} (h : At6 W b o x) (hb : b < n₀) (hB : Below n₀ W W') : At6 W' b o x :=
  ⟨(hB.cell (p := ⟨b, o, none⟩) hb).trans h.c0, (hB.cell (p := ⟨b, o + 1, none⟩) hb).trans h.c1, (hB.cell (p := ⟨b, o + 2, none⟩) hb).trans h.c2, (hB.cell (p := ⟨b, o + 3, none⟩) hb).trans h.c3, (hB.cell (p := ⟨b, o + 4, none⟩) hb).trans h.c4, (hB.cell (p := ⟨b, o + 5, none⟩) hb).trans h.c5⟩
set_option maxRecDepth 100000 in
set_option maxHeartbeats 4000000 in
/-- The closure of slices.Values. -/
theorem values1_in (F : Fence) (n : Nat) (h7 : F.fn 72) (hro : F.round = none) (hn : 1 ≤ n) (l Bs ob n₀ b off cap : Nat) (zs : List R6) (hreach : zs.length ≤ 1000000) (hb : b < n₀) (J Jx : List R6 → World → Prop)
    (hY : ∀ pre x W, J pre W → pre.length < zs.length → YieldAt F (n - 1) Tryz.prog l #[R6.val' x] W fun e W' =>
      (e = .returned (.bool true) ∧ J (pre ++ [x]) W' ∧ Below n₀ W W') ∨ (e = .returned (.bool false) ∧ Jx (pre ++ [x]) W'))
    (W : World) (hW : n₀ ≤ W.heap.size) (hBs : W.cell? ⟨Bs, ob, none⟩ = some (.slice (some ⟨b, off, none⟩) zs.length cap)) (hc : ∀ (j : Nat) (x : R6), zs[j]? = some x → At6 W b (off + j * 6) x)
    (hJ : AbidesFrom W.heap.size J) (h0 : J [] W) :
    CallsIn F n Tryz.prog 72 #[.func (.yield l) #[] #[], .pointer (some ⟨Bs, ob, none⟩)] W fun e W' => (∃ v, e = .returned v) ∧
      ((∃ ys, ys = zs ∧ J ys W') ∨ (∃ pre, (∃ k, k ≤ zs.length ∧ pre = zs.take k) ∧ Jx pre W')) := by
  refine callsIn_of_wp Tryz.func72 rfl h7 ?_ hro
  simp only [Tryz.ntmps72, List.size_toArray, List.length_cons, List.length_nil, Nat.reduceAdd, Nat.reduceSub, Array.replicate_succ, Array.replicate_zero, List.push_toArray, List.append_toArray, List.nil_append, List.cons_append]
  gi_wp2
  gi_loopw [7] (fun i wr => ∃ k : Nat, k ≤ zs.length ∧ i = .int .i64 k ∧ J (zs.take k) wr ∧ Below n₀ W wr)
    (fun i _ => zs.length - (intOf i).toNat)
  case atStart => exact ⟨0, Nat.zero_le _, rfl, h0, Below.refl _ _⟩
  case round =>
    obtain ⟨k, hk, rfl, hJs, hnx⟩ := hrel
    by_cases hlt : k < zs.length
    · have hx : zs[k]? = some zs[k] := List.getElem?_eq_getElem hlt
      have htk : zs.take (k + 1) = zs.take k ++ [zs[k]] := List.take_succ_eq_append_getElem hlt
      generalize zs[k] = x at hx htk
      obtain ⟨d0, d1, d2, d3, d4, d5⟩ := (hc k x hx).below hb hnx
      obtain ⟨fn, tmps, assign, body, hy, hR⟩ := hY _ x (wr.alloc (.cells #[.int .i64 x.r, .int .i64 x.n, .int .i64 x.k, .string x.key, .string x.val, .slice x.pa x.pn x.pc] 56)) (hJ _ wr _ none hJs (World.grownBy_alloc wr _ none) (fun r e => by cases e)) (by rw [List.length_take]; omega)
      unfold R6.val' at hy
      gi_wp2
      refine hR.mono ?_
      rintro e W3 (⟨rfl, hJ3, hk3⟩ | ⟨rfl, hJx3⟩)
      · gi_wp2
        go_roundw
        case rel => exact ⟨k + 1, by omega, by simp, by rw [htk]; exact hJ3, (hnx.alloc (by have := hnx.size; omega) _).trans hk3⟩
        case measure => simp [intOf]; omega
      · gi_wp2
        refine bodyPost_ret (results_none rfl _ _ _) rfl ?_
        exact ⟨⟨_, rfl⟩, .inr ⟨_, ⟨k + 1, by omega, htk.symm⟩, hJx3⟩⟩
    · obtain rfl : k = zs.length := by omega
      gi_wp2
      go_end0
      exact ⟨⟨_, rfl⟩, .inl ⟨_, rfl, by rw [List.take_length] at hJs; exact hJs⟩⟩
set_option maxRecDepth 100000 in
set_option maxHeartbeats 1000000 in
theorem values1_nil_in (F : Fence) (n : Nat) (h7 : F.fn 72) (hro : F.round = none) (l Bs ob cap : Nat) (a : Option Addr) (J : List R6 → World → Prop) (W : World) (hBs : W.cell? ⟨Bs, ob, none⟩ = some (.slice a 0 cap)) (h0 : J [] W) :
    CallsIn F n Tryz.prog 72 #[.func (.yield l) #[] #[], .pointer (some ⟨Bs, ob, none⟩)] W fun e W' => (∃ v, e = .returned v) ∧ J [] W' := by
  refine callsIn_of_wp Tryz.func72 rfl h7 ?_ hro
  simp only [Tryz.ntmps72, List.size_toArray, List.length_cons, List.length_nil, Nat.reduceAdd, Nat.reduceSub, Array.replicate_succ, Array.replicate_zero, List.push_toArray, List.append_toArray, List.nil_append, List.cons_append]
  gi_wp2
  gi_loopw [7] (fun i wr => i = .int .i64 0 ∧ J [] wr) (fun _ _ => 0)
  case atStart => exact ⟨rfl, h0⟩
  case round =>
    obtain ⟨rfl, hJs⟩ := hrel
    gi_wp2
    go_end0
    exact ⟨⟨_, rfl⟩, hJs⟩
/-- A slice value holds some, in a block below; or there are none. -/
def Ops6 (n₀ : Nat) (W : World) (sv : Value) (zs : List R6) : Prop :=
  (zs = [] ∧ ∃ a cap, sv = .slice a 0 cap) ∨ ∃ b off cap, sv = .slice (some ⟨b, off, none⟩) zs.length cap ∧ b < n₀ ∧ ∀ (j : Nat) (x : R6), zs[j]? = some x → At6 W b (off + j * 6) x
theorem Ops6.below {n₀ : Nat} {A B : World} (h : Below n₀ A B) {sv : Value} {zs : List R6} : Ops6 n₀ A sv zs → Ops6 n₀ B sv zs
  | .inl e => .inl e
  | .inr ⟨b, off, cap, e, hb, hc⟩ => .inr ⟨b, off, cap, e, hb, fun j x hj => (hc j x hj).below hb h⟩
theorem values_stops (F : Fence) (n : Nat) (h7 : F.fn 72) (hro : F.round = none) (hn : 1 ≤ n) (Bs ob n₀ : Nat) (sv : Value) (zs : List R6) (hreach : zs.length ≤ 1000000) (w : World) (hBs : Bs < w.heap.size) (hn₀ : n₀ ≤ w.heap.size)
    (hc : w.cell? ⟨Bs, ob, none⟩ = some sv) (hI : Ops6 n₀ w sv zs) :
    SeqStopsK F n Tryz.prog 72 #[.pointer (some ⟨Bs, ob, none⟩)] (fun x : R6 => #[R6.val' x]) (Below n₀) (fun ys => ys = zs) (fun pre => ∃ k, k ≤ zs.length ∧ pre = zs.take k) zs.length w := fun l J Jx W hW hJ _ hY h0 => by
  have hc' := (hW.cell (p := ⟨Bs, ob, none⟩) hBs).trans hc
  rcases hI.below (hW.mono hn₀) with ⟨rfl, a, cap, rfl⟩ | ⟨b, off, cap, rfl, hb, hcs⟩
  · exact (values1_nil_in F n h7 hro l Bs ob cap a J W hc' h0).mono fun e W' ⟨he, hj⟩ => ⟨he, .inl ⟨_, rfl, hj⟩⟩
  · exact values1_in F n h7 hro hn l Bs ob n₀ b off cap zs hreach hb J Jx hY W (Nat.le_trans hn₀ hW.size) hc' hcs hJ h0
end Go.Proofs.YtlioojekjnigiaeGreat.AM.Fo
/- A library's range over a function, at ops: gathered again. -/
namespace Go.Proofs.YtlioojekjnigiaeGreat.AM.Fo
open Go.RowKit Go.Shelf
set_option linter.unusedVariables false
set_option linter.unusedSimpArgs false
attribute [local go_sem] Oper.semAt_some
theorem infoOp : (Tryz.prog.info? 56).map (fun i => (i.zero, i.size, i.bytes)) = some (some (.agg #[.int .i64 0, .int .i64 0, .int .i64 0, .string ⟨#[]⟩, .string ⟨#[]⟩, .slice none 0 0]), 6, 80) := by kernel_rfl
theorem cells_new6 (w : World) (x : R6) (t : TypeId) : ∀ j u, x.cells[j]? = some u → (w.alloc (.cells x.cells.toArray t)).cell? ((⟨w.heap.size, 0, none⟩ : Addr).add j) = some u := by
  intro j u hj
  have hlt := (List.getElem?_eq_some_iff.1 hj).1
  have : ((⟨w.heap.size, 0, none⟩ : Addr).add j) = ⟨w.heap.size, j, none⟩ := by
    simp only [Addr.add, Nat.zero_add]
    split <;> simp_all
  rw [this]
  unfold World.cell?
  rw [World.alloc_heap_new]
  simpa using hj
theorem cells_one6 (x : R6) : ∀ u ∈ x.cells, u.oneCell' = true := by
  intro u hu
  simp only [R6.cells, List.mem_cons, List.not_mem_nil, or_false] at hu
  rcases hu with rfl | rfl | rfl | rfl | rfl | rfl <;> rfl
/-- A block of six cells. -/
def Box6 (W : World) (B : Nat) (x : R6) : Prop := W.heap[B]? = some (.cells x.cells.toArray 56 (0, 0))
theorem Box6.own (B : Nat) (x : R6) : Own (fun (_ : Unit) W => Box6 W B x) := fun _ X Y row h hg hr => by
  refine (hg.block B (Array.getElem?_eq_some_iff.1 h).1 (fun e => ?_)).trans h
  obtain ⟨o, ho, hc⟩ := hr B e.symm
  rw [show X.heap[B]? = _ from h] at ho
  cases ho
  cases hc
set_option maxRecDepth 100000 in
set_option maxHeartbeats 4000000 in
/-- slices.AppendSeq(nil, seq). -/
theorem appendSeq_in (F : Fence) (n : Nat) (h11 : F.fn 96) (h7 : F.fn 72) (hro : F.round = none) (hn : 3 ≤ n) (Bs ob : Nat) (sv : Value) (zs : List R6) (hreach : zs.length ≤ 1000000) (w : World) (hBs : Bs < w.heap.size)
    (hc : w.cell? ⟨Bs, ob, none⟩ = some sv) (hI : Ops6 w.heap.size w sv zs) :
    CallsIn F n Tryz.prog 96 #[.slice none 0 0, .func (.func 72) #[] #[.pointer (some ⟨Bs, ob, none⟩)]] w fun e w' =>
      ∃ v, e = .returned v ∧ w'.ownsRow w.heap.size 56 6 v zs.length (zs.flatMap R6.cells) ∧ Below w.heap.size w w' := by
  have h1 : 1 ≤ n := by omega
  refine callsIn_of_wp_marks Tryz.func96 rfl h11 ?_ hro
  simp only [Tryz.ntmps96, List.size_toArray, List.length_cons, List.length_nil, Nat.reduceAdd, Nat.reduceSub, Array.replicate_succ, Array.replicate_zero, List.push_toArray, List.append_toArray, List.nil_append, List.cons_append]
  obtain ⟨i0, hi, hz0, hz1, hz2⟩ := info_parts infoOp
  gi_wp2
  have bS := Boxed.new w 52 (.slice none 0 0)
  have hB0 : Below w.heap.size w (w.alloc (.cells #[.slice none 0 0] 52)) := (Below.refl _ w).alloc (Nat.le_refl _) _
  have hsz : (w.alloc (.cells #[.slice none 0 0] 52)).heap.size = w.heap.size + 1 := by simp
  obtain ⟨W0, hW0⟩ : ∃ W0, w.alloc (.cells #[.slice none 0 0] 52) = W0 := ⟨_, rfl⟩
  rw [hW0] at bS hB0 hsz ⊢
  have hown0 : W0.ownsRow w.heap.size 56 6 (.slice none 0 0) 0 [] := World.ownsRow_nil W0 _ _ _
  clear hW0
  refine wpIn_rangeFunc_ownH hro h1 (gf := 72) (lb := #[.pointer (some ⟨Bs, ob, none⟩)]) rfl h7 (enters_of Tryz.func72 (by kernel_rfl) rfl)
    (values_stops F (n - 1) h7 hro (by omega) Bs ob w.heap.size sv zs hreach W0 (by omega) (by omega) ((hB0.cell (p := ⟨Bs, ob, none⟩) hBs).trans hc) (hI.below hB0)) belowK_t (belowK_b (by omega)) (Below.refl _ _) (fun _ => rfl)
    (fun pre W => (∃ v, Boxed W w.heap.size 52 v ∧ W.ownsRow w.heap.size 56 6 v pre.length (pre.flatMap R6.cells) ∧ True) ∧ Below w.heap.size w W)
    (fun _ _ _ => False)
    (OwnFrom.and (Own.from (holdsRow_own w.heap.size w.heap.size 52 56 6 (fun pre : List R6 => pre.length) (fun pre => pre.flatMap R6.cells) (fun _ _ => True)) _) (ownFrom_below (Nat.le_refl _) (by omega)))
    (fun _ _ _ _ _ hs _ _ => hs)
    ⟨⟨_, bS, hown0, trivial⟩, hB0⟩
    (fun x a' W => ∃ Bx, w.heap.size < Bx ∧ Box6 W Bx x ∧ a' = { tmps := #[.slice none 0 0, .func (.func 72) #[] #[.pointer (some ⟨Bs, ob, none⟩)], .pointer (some ⟨w.heap.size, 0, none⟩), undef, .slice none 0 0, .pointer (some ⟨Bx, 0, none⟩), .func (.func 72) #[] #[.pointer (some ⟨Bs, ob, none⟩)], R6.val' x, undef, undef, undef, undef, undef], defers := [] })
    (fun x a' _ X Y row hs hg hr => by obtain ⟨Bx, h1, h2, h3⟩ := hs; exact ⟨Bx, h1, Box6.own Bx x () X Y row h2 hg (fun r e => (hr r e).2), h3⟩)
    ?assign ?body ?done ?stop
  case assign =>
    rintro l pre x W K ⟨⟨v, bV, hown, _⟩, hB1⟩ hK
    unfold R6.val' at hK ⊢
    gi_wp2
    exact hK _ _ ((KeepsOthers.alloc _ _).from _) ((Below.refl _ W).alloc hB1.size _) ⟨⟨v, bV.alloc _, hown.alloc _, trivial⟩, hB1.alloc hB1.size _⟩ ⟨W.heap.size, bV.lt, World.alloc_heap_new W _, rfl⟩
  case body =>
    rintro l pre x a' W hl ⟨r, hr⟩ ⟨⟨v, bV, hown, _⟩, hB1⟩ ⟨Bx, hBx, bX, rfl⟩ hlt
    have cV := bV.cell
    have fV := bV.frozen
    have hxc : ∀ j u, x.cells[j]? = some u → W.cell? ⟨Bx, j, none⟩ = some u := fun j u hj => by
      unfold World.cell?
      rw [show W.heap[Bx]? = _ from bX]
      simpa using hj
    have d0 := hxc 0 _ rfl
    have d1 := hxc 1 _ rfl
    have d2 := hxc 2 _ rfl
    have d3 := hxc 3 _ rfl
    have d4 := hxc 4 _ rfl
    have d5 := hxc 5 _ rfl
    have hsW := hB1.size
    unfold R6.val'
    gi_wp2_with (gi_at_builtin; refine wpListIn_append_own _ rfl _ _ 52 rfl w.heap.size 56 i0 _ 6 80 Tryz.underlying52 hi hz0 hz1 hz2 rfl (by decide) _ _ _ rfl (hown.alloc _) ⟨W.heap.size, 0, none⟩ 1 1 x.cells rfl rfl (cells_new6 W x 56) (cells_one6 x) (by unfold maxLen; omega) (by omega) (by simp; omega) ?_; intro v' w1 hown' hgrow _; obtain ⟨g', cap', rfl⟩ := ownsRow_succ hown'; obtain ⟨hv1, hv2, hr2, hk2, hb2⟩ := bV.appended (by decide) hown hsW (Nat.le_refl _) hown' hgrow; have hc1 := hv1.cell; have hf1 := hv1.frozen)
    exact ⟨hk2.from _, hb2, ⟨_, hv2, by simpa [List.flatMap_append] using hr2, trivial⟩, hB1.trans hb2⟩
  case done =>
    rintro D ys W hD rfl ⟨⟨v, bV, hown, _⟩, hB1⟩ hK
    have cS := bV.cell
    gi_wp2
    refine ⟨by simp, .inl ⟨_, _, rfl, run_takeDeferred hK, ?_⟩⟩
    exact ⟨_, results_tmp rfl _ _ _, _, rfl, ownsRow_putObj hown _ hK rfl, hB1.trans (belowK_b (w := w) (Nat.le_refl _) W D _ _ (by omega) hK rfl rfl)⟩
  case stop =>
    rintro D c pre W _ _ h _
    exact h.elim
end Go.Proofs.YtlioojekjnigiaeGreat.AM.Fo
/- What the walks lean on: worlds that only grow, blocks, rows, and regions whose order is left open. -/
namespace Go.Proofs.YtlioojekjnigiaeGreat
open Go.RowKit

/-- The world has grown: all that was there is as it was. -/
def Grow (w w' : World) : Prop := Below w.heap.size w w'
theorem Grow.refl (w : World) : Grow w w := Below.refl _ _
theorem Grow.size {w w' : World} (h : Grow w w') : w.heap.size ≤ w'.heap.size := Below.size h
theorem Grow.trans {a b c : World} (h : Grow a b) (k : Grow b c) : Grow a c := Below.trans h (Below.mono k (Below.size h))
theorem Grow.drew {a b : World} (h : Grow a b) : Grow a b.drew := Below.drew h
theorem Grow.drewN {a b : World} (h : Grow a b) (n : Nat) : Grow a (b.drewN n) := Below.trans h ⟨rfl, rfl, rfl, Nat.le_refl _, fun _ _ => rfl⟩
theorem Grow.alloc {a b : World} (h : Grow a b) (o : Obj) : Grow a (b.alloc o) := Below.alloc h (Below.size h) o
theorem Grow.setCell {a b : World} (h : Grow a b) {p : Addr} (hp : a.heap.size ≤ p.block) (u : Value) : Grow a (b.setCell p u) := Below.setCell h hp u
theorem cell_lt {w : World} {a : Addr} {v : Value} (h : w.cell? a = some v) : a.block < w.heap.size := World.block_lt_of_cell? w a h
theorem cell_grow {w w' : World} {a : Addr} {v : Value} (hb : Grow w w') (h : w.cell? a = some v) : w'.cell? a = some v :=
  (Below.cell hb (p := a) (cell_lt h)).trans h
theorem frozen_grow {w w' : World} {a : Addr} {v : Value} (hb : Grow w w') (h : w.cell? a = some v) : w'.frozen? a = w.frozen? a :=
  Below.frozen hb (p := a) (cell_lt h)

theorem block_grown {w w1 : World} {row : Option Nat} {b : Nat} {o o' : Obj} (hg : (w.alloc o').grownBy w1 row) (hne : some b ≠ row) (h : w.heap[b]? = some o) : w1.heap[b]? = some o := by
  have hlt := lt_of_block h
  rw [hg.block b (by simp; omega) hne, Below.heap_alloc _ _ _ hlt, h]
theorem cell_grown {w w1 : World} {row : Option Nat} {a : Addr} {v : Value} {o' : Obj} (hg : (w.alloc o').grownBy w1 row) (hne : some a.block ≠ row) (h : w.cell? a = some v) : w1.cell? a = some v := by
  have hlt := cell_lt h
  have e : w1.heap[a.block]? = w.heap[a.block]? := by rw [hg.block a.block (by simp; omega) hne, Below.heap_alloc _ _ _ hlt]
  exact (World.cell?_of_block (w := w) e).trans h
theorem own_ne {w : World} {base : Nat} {e : TypeId} {size : Nat} {v : Value} {n : Nat} {xs : List Value} (h : w.ownsRow base e size v n xs) {b : Nat} (hb : b < base) : some b ≠ v.ownBlock := by
  intro he
  have := (h.lt b he.symm).1
  omega
theorem cell_of_block {w : World} {b o : Nat} {cs : Array Value} {t : TypeId} {v : Value} (h : w.heap[b]? = some (.cells cs t (0, 0))) (hv : cs[o]? = some v) : w.cell? ⟨b, o, none⟩ = some v := by simp [World.cell?, h, hv]
theorem free_of_block {w : World} {b : Nat} {cs : Array Value} {t : TypeId} (h : w.heap[b]? = some (.cells cs t (0, 0))) (o : Nat) : w.frozen? ⟨b, o, none⟩ = false := by simp [World.frozen?, h]
/-- What the reader panics with. -/
theorem block_set {w : World} {b o : Nat} {cs : Array Value} {t : TypeId} {v : Value} (h : w.heap[b]? = some (.cells cs t (0, 0))) : (w.setCell ⟨b, o, none⟩ v).heap[b]? = some (.cells (cs.setIfInBounds o v) t (0, 0)) := by
  have hlt := lt_of_block h
  have h' : w.heap[b] = .cells cs t (0, 0) := by simpa [Array.getElem?_eq_getElem hlt] using h
  show (w.heap.modify b _)[b]? = _
  rw [Array.getElem?_eq_getElem (by simpa using hlt), Array.getElem_modify_self, h']
  rfl
theorem block_far {w : World} {b : Nat} {o : Obj} {a : Addr} {v : Value} (hn : b ≠ a.block) (h : w.heap[b]? = some o) : (w.setCell a v).heap[b]? = some o := (Below.heap_setCell _ _ _ _ hn).trans h

theorem ownsRow_far {w : World} {base : Nat} {e : TypeId} {size : Nat} {v : Value} {n : Nat} {xs : List Value} (h : w.ownsRow base e size v n xs) {p : Addr} (hp : p.block < base) (u : Value) : (w.setCell p u).ownsRow base e size v n xs := by
  obtain ⟨h1, h2⟩ := h
  refine ⟨h1, ?_⟩
  rcases h2 with h2 | ⟨g, cap, cur, hv, hg, hh, r⟩
  · exact .inl h2
  · exact .inr ⟨g, cap, cur, hv, hg, block_far (by omega) hh, r⟩
theorem grow_grown {w w2 w3 : World} {o : Obj} {base : Nat} {e : TypeId} {size : Nat} {v : Value} {n : Nat} {xs : List Value} (h : Grow w w2) (hown : w2.ownsRow base e size v n xs) (hb : w.heap.size ≤ base) (hg : (w2.alloc o).grownBy w3 v.ownBlock) : Grow w w3 :=
  ⟨hg.os.trans h.os, hg.tape.trans h.tape, hg.output.trans h.output, by have := hg.size; have := h.size; simp at *; omega, fun k hk => by
    have := h.size
    rw [hg.block k (by simp; omega) (own_ne hown (by omega)), Below.heap_alloc _ _ _ (by omega)]
    exact h.block k hk⟩
section
variable {P : Program} {ops : Array Oper} {Q : Exit → Act → World → Prop} {md : Region.Mode}

theorem wpAnyH_weaken {S S' : World → Prop} (hS : ∀ w, S w → S' w) : ∀ (fuel : Nat) (listed : Array Bool) (a : Act) (w : World), wpAnyH P md ops Q S fuel listed a w → wpAnyH P md ops Q S' fuel listed a w
  | 0, _, _, _, h => h
  | fuel + 1, _, _, _, h => ⟨h.1, fun i hi => wpOp_mono (fun a' w' h' => ⟨hS _ h'.1, wpAnyH_weaken hS fuel _ a' w' h'.2⟩) (h.2 i hi)⟩

/-- The beginning: no way out by a panic is let. -/
theorem held_start {id : Nat} {a : Act} {w : World} (hm : P.follows .mixedOrders = true)
    (h : wpAnyH P .any ops (NoPanic Q) (Grow w.drew) ops.size (Array.replicate ops.size false) a w.drew) : (Code.region id ops true).wp P Q a w :=
  wp_region_noPanic (wp_region_held hm h)
/-- An operation that only looks is taken first. -/
theorem held_take {i : Nat} {oi : Oper} {v : Value} {fuel : Nat} {listed : Array Bool} {a : Act} {w : World} (hi : ops[i]? = some oi)
    (hs : Region.noSelect ops = true) (hf : Region.free md ops listed i = true) (hr : (Region.ready md ops listed).contains i = true)
    (hw : Region.wanted oi (yielded ops a.tmps) = true) (hy : ∀ w', Grow w w' → (execOp a.eval oi).run P w' = .ok (.value v) w')
    (h : wpAnyH P md ops (NoPanic Q) (Grow w) fuel (listed.setIfInBounds i true) (a.put oi.dst v) w) : wpAnyH P md ops (NoPanic Q) (Grow w) (fuel + 1) listed a w :=
  wpAnyH_take hi hs hf hr (fun _ _ _ h => h) (Or.inl ⟨hw, hy⟩) (Grow.refl w) h
/-- An operation that nobody wants. -/
theorem held_skip {i : Nat} {oi : Oper} {fuel : Nat} {listed : Array Bool} {a : Act} {w : World} (hi : ops[i]? = some oi)
    (hs : Region.noSelect ops = true) (hf : Region.free md ops listed i = true) (hr : (Region.ready md ops listed).contains i = true)
    (hw : Region.wanted oi (yielded ops a.tmps) = false)
    (h : wpAnyH P md ops (NoPanic Q) (Grow w) fuel (listed.setIfInBounds i true) (a.put oi.dst undef) w) : wpAnyH P md ops (NoPanic Q) (Grow w) (fuel + 1) listed a w :=
  wpAnyH_take hi hs hf hr (fun _ _ _ h => h) (Or.inr ⟨hw, rfl⟩) (Grow.refl w) h
/-- An operation that comes up alone, and lets the world grow. -/
theorem held_call {i : Nat} {oi : Oper} {fuel : Nat} {listed : Array Bool} {a : Act} {w : World} (hi : ops[i]? = some oi) (hr : Region.ready md ops listed = [i])
    (hw : Region.wanted oi (yielded ops a.tmps) = true)
    (h : ∀ K : Act → World → Prop, (∀ a' w', Grow w w' → wpAnyH P md ops (NoPanic Q) (Grow w') fuel (listed.setIfInBounds i true) a' w' → K a' w') → oi.wp P a w K (NoPanic Q)) : wpAnyH P md ops (NoPanic Q) (Grow w) (fuel + 1) listed a w := by
  refine wpAnyH_all hr (by simp) fun j hj => ?_
  obtain rfl : j = i := by simpa using hj
  unfold wpOp
  simp only [hi, hw, if_true]
  exact .inl (h _ fun a' w' hg h' => ⟨hg, wpAnyH_weaken (fun x hx => hg.trans hx) _ _ _ _ h'⟩)
theorem held_done {listed : Array Bool} {a : Act} {w : World} (hr : Region.ready md ops listed = []) (h : Q .normal a w) (fuel : Nat) : wpAnyH P md ops (NoPanic Q) (Grow w) fuel listed a w :=
  wpAnyH_done hr (NoPanic.normal h) fuel
end

section
variable {P : Program}
/-- What comes to an end leaves the world as it was, and comes to the same end in every world that has grown from it. -/
def Steady (P : Program) {α : Type} (s : Sem α) : Prop := ∀ (w : World) (x : α) (w1 : World), s.run P w = .ok x w1 → w1 = w ∧ ∀ w', Grow w w' → s.run P w' = .ok x w'
/-- It comes to no end. -/
def Dead (P : Program) {α : Type} (s : Sem α) : Prop := ∀ (w : World) (x : α) (w1 : World), s.run P w ≠ .ok x w1

theorem Steady.pure {α : Type} (x : α) : Steady P (Pure.pure x : Sem α) := fun w y w1 h => by
  have h' : Result.ok x w = Result.ok y w1 := h
  cases h'
  exact ⟨rfl, fun w' _ => rfl⟩
theorem Steady.bind {α β : Type} {s : Sem α} {f : α → Sem β} (hs : Steady P s) (hf : ∀ x, Steady P (f x)) : Steady P (s >>= f) := fun w y w1 h => by
  rw [Sem.run_bind] at h
  cases hr : s.run P w with
  | halt e w2 => rw [hr] at h; cases h
  | ok x w2 =>
    obtain ⟨rfl, hs'⟩ := hs w x w2 hr
    rw [hr] at h
    obtain ⟨rfl, hf'⟩ := hf x w2 y w1 h
    exact ⟨rfl, fun w' hg => by rw [Sem.run_bind, hs' w' hg]; exact hf' w' hg⟩
theorem Dead.steady {α : Type} {s : Sem α} (h : Dead P s) : Steady P s := fun w x w1 e => absurd e (h w x w1)
theorem Dead.halt {α : Type} (h : Halt) : Dead P (Sem.halt h : Sem α) := fun _ _ _ e => by cases e
theorem Dead.bind {α β : Type} {s : Sem α} {f : α → Sem β} (hf : ∀ x, Dead P (f x)) : Dead P (s >>= f) := fun w y w1 h => by
  rw [Sem.run_bind] at h
  cases hr : s.run P w with
  | halt e w2 => rw [hr] at h; cases h
  | ok x w2 => rw [hr] at h; exact hf x w2 y w1 h
theorem Steady.stuck {α : Type} (s : String) : Steady P (stuck s : Sem α) := (Dead.halt _).steady
theorem Steady.unsupported {α : Type} (s : Unsupported) : Steady P (unsupported s : Sem α) := (Dead.halt _).steady
theorem Steady.program : Steady P program := fun w x w1 h => by
  have h' : Result.ok P w = Result.ok x w1 := h
  cases h'
  exact ⟨rfl, fun w' _ => rfl⟩
theorem Dead.bounds {α : Type} (k : IntKind) (x y : Int) (c : BoundsCode) : Dead P (boundsPanic k x y c : Sem α) :=
  by
  unfold boundsPanic
  simp only
  split
  · exact Dead.bind fun _ => Dead.bind fun _ => Dead.halt _
  · exact Dead.bind fun _ => Dead.bind fun _ => Dead.halt _
theorem grow_block {w w' : World} {b : Nat} {o : Obj} (hg : Grow w w') (h : w.heap[b]? = some o) : w'.heap[b]? = some o := (Below.block hg b (lt_of_block h)).trans h

theorem seen_none {w : World} {at_ : Addr} {u : TypeId} {k : Addr} {b : Bool} (h : w.heap[at_.block]? = none) : ∃ e, w.seen P at_ u k b = .error e := by
  unfold World.seen
  by_cases h0 : (k.spot.isSome || at_.spot.isSome) = true
  · rw [if_pos h0]; exact ⟨_, rfl⟩
  · rw [if_neg h0]
    cases h1 : plainCell P P.depth u k.off with
    | none => exact ⟨_, rfl⟩
    | some like =>
      simp only
      cases h2 : like.bytes?.map (·.length) with
      | none => exact ⟨_, rfl⟩
      | some size =>
        simp only
        cases h3 : byteOfCell P P.depth u k.off with
        | none => exact ⟨_, rfl⟩
        | some β => simp only [h]; exact ⟨_, rfl⟩
theorem viewLoad_same {w w' : World} {at_ : Addr} {u : TypeId} {k : Addr} {b : Bool} {r : Value × List Addr} (hg : Grow w w') (h : w.viewLoad P at_ u k b = .ok r) : w'.viewLoad P at_ u k b = .ok r := by
  cases hb : w.heap[at_.block]? with
  | some o =>
    have e := grow_block hg hb
    rw [← h]
    unfold World.viewLoad World.seen
    rw [hb, e]
  | none =>
    obtain ⟨e, he⟩ := seen_none (P := P) (u := u) (k := k) (b := b) hb
    unfold World.viewLoad at h
    rw [he] at h
    cases h
theorem Steady.load (m : Mode) (a : Addr) : Steady P (Sem.load m a Sem.pure) := fun w x w1 h => by
  unfold Sem.run at h
  cases hc : w.cell? a with
  | some v =>
    rw [hc] at h
    have h' : Result.ok v w = Result.ok x w1 := h
    cases h'
    exact ⟨rfl, fun w' hg => by unfold Sem.run; rw [cell_grow hg hc]; rfl⟩
  | none =>
    rw [hc] at h
    simp only at h
    cases hf : w.farLoad P a (m == .atomic) with
    | error e => rw [hf] at h; cases h
    | ok r =>
      rw [hf] at h
      have h' : Result.ok r.1 w = Result.ok x w1 := h
      cases h'
      refine ⟨rfl, fun w' hg => ?_⟩
      unfold World.farLoad at hf
      cases hb : w.heap[a.block]? with
      | none => rw [hb] at hf; cases hf
      | some o =>
        have e := grow_block hg hb
        have ec : w'.cell? a = none := by rw [← hc]; exact World.cell?_of_block (w := w) (e.trans hb.symm)
        unfold Sem.run
        rw [ec]
        simp only
        rw [hb] at hf
        unfold World.farLoad
        rw [e]
        cases o with
        | view at_ u =>
          simp only at hf ⊢
          cases hv : w.viewLoad P at_ u a (m == .atomic) with
          | error s => rw [hv] at hf; cases hf
          | ok r' =>
            rw [hv] at hf
            cases hf
            rw [viewLoad_same hg hv]
            rfl
        | _ => cases hf

theorem Steady.getObj (r : Nat) : Steady P (getObj r) := fun w x w1 h => by
  unfold Go.getObj Sem.run at h
  cases hb : w.heap[r]? with
  | none => rw [hb] at h; cases h
  | some o =>
    rw [hb] at h
    cases o with
    | cells c t f => cases h
    | _ =>
      cases h
      exact ⟨rfl, fun w' hg => by unfold Go.getObj Sem.run; rw [grow_block hg hb]; rfl⟩

theorem Steady.underlying (t : TypeId) : Steady P (underlying t) := by
  refine Steady.bind Steady.program fun p => ?_
  split
  · exact Steady.pure _
  · exact Steady.stuck _
theorem Steady.typeInfo (t : TypeId) : Steady P (typeInfo t) := by
  refine Steady.bind Steady.program fun p => ?_
  split
  · exact Steady.pure _
  · exact Steady.stuck _
theorem Steady.sizeOf (t : TypeId) : Steady P (sizeOf t) := Steady.bind (Steady.typeInfo t) fun _ => Steady.pure _
theorem Steady.isAgg (t : TypeId) : Steady P (isAgg t) := by
  refine Steady.bind (Steady.underlying t) fun d => ?_
  split <;> exact Steady.pure _
theorem Steady.loadCellsFrom (a : Addr) : ∀ (n i : Nat) (acc : Array Value), Steady P (loadCellsFrom a i n acc)
  | 0, _, _ => Steady.pure _
  | n + 1, i, acc => Steady.bind (Steady.load _ _) fun v => Steady.loadCellsFrom a n (i + 1) (acc.push v)
theorem Steady.loadVar (t : TypeId) (a : Addr) : Steady P (loadVar t a) := by
  refine Steady.bind (Steady.isAgg t) fun b => ?_
  split
  · exact Steady.bind (Steady.sizeOf t) fun n => Steady.bind (Steady.loadCellsFrom a n 0 #[]) fun _ => Steady.pure _
  · exact Steady.load _ _
theorem Steady.sureAddr (v : Value) : Steady P (Instr.sureAddr v) := by
  unfold Instr.sureAddr
  split
  · exact Steady.pure _
  · exact Steady.stuck _
theorem Steady.loadAt (t : TypeId) (v : Value) : Steady P (Instr.loadAt t v) := Steady.bind (Steady.sureAddr v) fun a => Steady.loadVar t a
theorem Steady.extract (v : Value) (n : Nat) : Steady P (Instr.extract v n) := by
  unfold Instr.extract
  split
  · split
    · exact Steady.pure _
    · exact Steady.stuck _
  · exact Steady.stuck _
theorem Steady.asBool (v : Value) : Steady P (asBool v) := by
  unfold Go.asBool
  split
  · exact Steady.pure _
  · exact Steady.stuck _
theorem Steady.asIntOf (v : Value) : Steady P (asIntOf v) := by
  unfold Go.asIntOf
  split
  · exact Steady.pure _
  · exact Steady.unsupported _
  · exact Steady.stuck _
theorem Steady.indexAt (t : TypeId) (x i : Value) : Steady P (Instr.indexAt t x i) := by
  unfold Instr.indexAt
  refine Steady.bind (Steady.asIntOf _) fun ki => ?_
  refine Steady.bind (Steady.underlying _) fun d => ?_
  simp only
  split
  all_goals first
    | refine Steady.bind (Steady.sureAddr _) fun _ => Steady.bind (Steady.pure _) fun y => ?_
    | refine Steady.bind (Steady.pure _) fun y => ?_
    | refine Steady.bind (Steady.stuck _) fun y => ?_
  all_goals
    obtain ⟨base, len, elem⟩ := y
    refine Steady.bind (Steady.underlying _) fun d => ?_
    simp only
    repeat' split
    all_goals first
      | exact Steady.bind (Steady.sizeOf _) fun _ => Steady.pure _
      | exact Steady.unsupported _
      | exact (Dead.bounds _ _ _ _).steady
theorem Steady.len (ts : Array TypeId) (t : TypeId) (args : Array Value) : Steady P (Builtin.len_ ts t args) := by
  unfold Builtin.len_
  split
  · refine Steady.bind (Steady.underlying _) fun d => ?_
    split
    · exact Steady.pure _
    · exact Steady.pure _
    · refine Steady.bind (Steady.underlying _) fun d => ?_
      split
      · exact Steady.pure _
      · exact Steady.stuck _
    · exact Steady.pure _
    · exact Steady.pure _
    · exact Steady.pure _
    · refine Steady.bind (Steady.getObj _) fun o => ?_
      split
      · exact Steady.pure _
      · exact Steady.stuck _
    · refine Steady.bind (Steady.getObj _) fun o => ?_
      split
      · exact Steady.pure _
      · exact Steady.stuck _
    · exact Steady.stuck _
  · exact Steady.stuck _

/-- A field that has cells. -/
def fieldOk (P : Program) (s : TypeId) (i : Nat) : Bool :=
  match P.underlying s with
  | some (.struct fs) => match fs[i]? with
    | some f => match P.info? f.type with
      | some t => t.size != 0
      | none => true
    | none => true
  | _ => true
theorem Steady.bind' {α β : Type} {s : Sem α} {f : α → Sem β} (hs : Steady P s) (hf : ∀ w x, s.run P w = .ok x w → Steady P (f x)) : Steady P (s >>= f) := fun w y w1 h => by
  rw [Sem.run_bind] at h
  cases hr : s.run P w with
  | halt e w2 => rw [hr] at h; cases h
  | ok x w2 =>
    obtain ⟨rfl, hs'⟩ := hs w x w2 hr
    rw [hr] at h
    obtain ⟨rfl, hf'⟩ := hf w2 x hr w2 y w1 h
    exact ⟨rfl, fun w' hg => by rw [Sem.run_bind, hs' w' hg]; exact hf' w' hg⟩
theorem underlying_of {w : World} {t : TypeId} {d : TypeDesc} (h : (underlying t).run P w = .ok d w) : P.underlying t = some d := by
  cases hu : P.underlying t with
  | none => simp [Go.underlying, hu] at h
  | some e => simp [Go.underlying, hu] at h; rw [h]
theorem sizeOf_of {w : World} {t : TypeId} {n : Nat} (h : (sizeOf t).run P w = .ok n w) : ∃ i, P.info? t = some i ∧ i.size = n := by
  cases hu : P.info? t with
  | none => simp [Go.sizeOf, Go.typeInfo, hu] at h
  | some e => simp [Go.sizeOf, Go.typeInfo, hu] at h; exact ⟨e, rfl, h⟩
theorem Steady.fieldAt (s : TypeId) (x : Value) (i : Nat) (h : fieldOk P s i = true) : Steady P (Instr.fieldAt s x i) := by
  unfold Instr.fieldAt
  refine Steady.bind' (Steady.underlying s) fun w d hd => ?_
  have hu := underlying_of hd
  unfold fieldOk at h
  rw [hu] at h
  split
  · simp only at h
    split
    · rename_i f hf
      rw [hf] at h
      simp only at h
      refine Steady.bind (Steady.sureAddr _) fun a => Steady.bind ?_ fun _ => Steady.pure _
      refine Steady.bind' (Steady.sizeOf _) fun w n hn => ?_
      obtain ⟨t, ht, rfl⟩ := sizeOf_of hn
      rw [ht] at h
      rw [if_neg (by simpa using h)]
      exact Steady.pure _
    · exact Steady.stuck _
  · exact Steady.stuck _

/-- An operation that only looks. -/
def isReader (P : Program) (o : Oper) : Bool :=
  match o.op with
  | .move _ | .assign _ | .pick .. | .load .. | .indexAddr .. | .extract .. => true
  | .fieldAddr s _ i => fieldOk P s i
  | .unOp .not _ _ => true
  | .call c => match c.callee with
    | .builtin .len => true
    | _ => false
  | _ => false
/-- What it comes to is a value, the same in every world that has grown. -/
def Looks (P : Program) (s : Sem Next) : Prop := ∀ (w : World) (x : Next) (w1 : World), s.run P w = .ok x w1 → ∃ v, x = .value v ∧ w1 = w ∧ ∀ w', Grow w w' → s.run P w' = .ok (.value v) w'
theorem Looks.by {α : Type} {s : Sem α} (h : Steady P s) (g : α → Value) : Looks P (do Pure.pure (Next.value (g (← s)))) := fun w x w1 hr => by
  rw [Sem.run_bind] at hr
  cases hs : s.run P w with
  | halt e w2 => rw [hs] at hr; cases hr
  | ok v w2 =>
    obtain ⟨rfl, hs'⟩ := h w v w2 hs
    rw [hs] at hr
    have e : Result.ok (Next.value (g v)) w2 = Result.ok x w1 := hr
    cases e
    exact ⟨g v, rfl, rfl, fun w' hg => by rw [Sem.run_bind, hs' w' hg]; rfl⟩
theorem Looks.of {s : Sem Value} (h : Steady P s) : Looks P (do Pure.pure (Next.value (← s))) := Looks.by h fun v => v
theorem Looks.pure (v : Value) : Looks P (Pure.pure (Next.value v)) := fun w x w1 hr => by
  have e : Result.ok (Next.value v) w = Result.ok x w1 := hr
  cases e
  exact ⟨v, rfl, rfl, fun w' _ => rfl⟩
theorem isReader_looks {o : Oper} (h : isReader P o = true) (ρ : Operand → Value) : Looks P (execOp ρ o) := by
  obtain ⟨dst, op, type, pos, after, guard⟩ := o
  cases op
  case move x => exact Looks.pure _
  case assign x => exact Looks.pure _
  case pick c a b => exact Looks.by (Steady.asBool (ρ c)) fun t => if t then ρ a else ρ b
  case load t a => exact Looks.of (Steady.loadAt _ _)
  case indexAddr t x i => exact Looks.of (Steady.indexAt _ _ _)
  case extract t i => exact Looks.of (Steady.extract _ _)
  case fieldAddr s x i => exact Looks.of (Steady.fieldAt _ _ _ h)
  case unOp u t x =>
    cases u with
    | not =>
      refine Looks.of ?_
      unfold Op.unary
      split
      all_goals first
        | exact Steady.pure _
        | exact Steady.unsupported _
        | exact Steady.stuck _
        | (rename_i hh; cases hh)
    | _ => cases h
  case call c =>
    obtain ⟨callee, args, argTypes⟩ := c
    cases callee with
    | builtin b =>
      cases b with
      | len => exact Looks.of (Steady.len _ _ _)
      | _ => cases h
    | _ => cases h
  all_goals cases h

variable {ops : Array Oper} {Q : Exit → Act → World → Prop}

/-- In which order a region is walked: which operation, and whether it comes up alone. -/
def planOk (P : Program) (md : Region.Mode) (ops : Array Oper) : List (Nat × Bool) → Array Bool → Bool
  | [], listed => (Region.ready md ops listed).isEmpty
  | (i, true) :: rest, listed => (Region.ready md ops listed == [i]) && planOk P md ops rest (listed.setIfInBounds i true)
  | (i, false) :: rest, listed => ((ops[i]?).map (isReader P)).getD false && Region.free md ops listed i && (Region.ready md ops listed).contains i && planOk P md ops rest (listed.setIfInBounds i true)
/-- The walk by a plan (w0: the world in which its part began). -/
def wpPlan (P : Program) (ops : Array Oper) (Q : Exit → Act → World → Prop) : List (Nat × Bool) → World → Act → World → Prop
  | [], _, a, w => Q .normal a w
  | (i, true) :: rest, w0, a, w => wpOp P ops Q i (fun a' w' => Grow w0 w' ∧ wpPlan P ops Q rest w' a' w') a w
  | (i, false) :: rest, w0, a, w => wpOp P ops Q i (wpPlan P ops Q rest w0) a w
theorem held_plan (hs : Region.noSelect ops = true) (hp : ∀ c a w, ¬ Q (.panic c) a w) (ho : ¬ LetsOut Q) {md : Region.Mode} : ∀ (plan : List (Nat × Bool)) (listed : Array Bool) (a : Act) (w : World),
    planOk P md ops plan listed = true → wpPlan P ops Q plan w a w → wpAnyH P md ops Q (Grow w) plan.length listed a w
  | [], listed, a, w, hk, h => wpAnyH_done (by simpa [planOk] using hk) h _
  | (i, true) :: rest, listed, a, w, hk, h => by
    simp only [planOk, Bool.and_eq_true, beq_iff_eq] at hk
    refine wpAnyH_all hk.1 (by simp) fun j hj => ?_
    obtain rfl : j = i := by simpa using hj
    exact wpOp_mono (fun a' w' h' => ⟨h'.1, wpAnyH_weaken (fun x hx => h'.1.trans hx) _ _ _ _ (held_plan hs hp ho rest _ a' w' hk.2 h'.2)⟩) h
  | (i, false) :: rest, listed, a, w, hk, h => by
    simp only [planOk, Bool.and_eq_true] at hk
    obtain ⟨⟨⟨h1, h2⟩, h3⟩, h4⟩ := hk
    cases hi : ops[i]? with
    | none => rw [hi] at h1; cases h1
    | some o =>
      rw [hi] at h1
      simp only [Option.map_some, Option.getD_some] at h1
      simp only [wpPlan, wpOp, hi] at h
      have hQ : ∀ v c a w, Q (.panic c) (a.put o.dst v) w → Q (.panic c) a w := fun v c a w h => (hp _ _ _ h).elim
      split at h
      · rename_i hw
        rcases h with h | ⟨_, hl⟩
        · unfold Oper.wp at h
          have hlook := isReader_looks h1 a.eval w
          cases hr : (execOp a.eval o).run P w with
          | halt e w1 =>
            rw [hr] at h
            cases e <;> first | exact h.elim | exact (hp _ _ _ h).elim
          | ok x w1 =>
            obtain ⟨v, rfl, rfl, hv⟩ := hlook x w1 hr
            rw [hr] at h
            exact wpAnyH_take hi hs h2 h3 (hQ v) (Or.inl ⟨hw, hv⟩) (Grow.refl _) (held_plan hs hp ho rest _ _ _ h4 h)
        · exact (ho hl).elim
      · rename_i hw
        exact wpAnyH_take hi hs h2 h3 (hQ undef) (Or.inr ⟨by simpa using hw, rfl⟩) (Grow.refl _) (held_plan hs hp ho rest _ _ _ h4 h)

/-- Q, but no way out by a panic, or by want of room. -/
def Sure (Q : Exit → Act → World → Prop) : Exit → Act → World → Prop
  | .panic _, _, _ => False
  | .outgrown, _, _ => False
  | e, a, w => Q e a w
theorem Sure.imp : ∀ (e : Exit) (a : Act) (w : World), Sure Q e a w → Q e a w := fun e a w h => by
  cases e <;> first | exact h | exact (h : False).elim
def consHead (o : Oper) : List (List Oper) → List (List Oper)
  | [] => [[o]]
  | s :: t => (o :: s) :: t
/-- The operations of a plan, cut behind each one that comes up alone. -/
def segs (ops : Array Oper) : List (Nat × Bool) → List (List Oper)
  | [] => [[]]
  | (i, b) :: rest =>
    match ops[i]? with
    | none => if b then [] :: segs ops rest else segs ops rest
    | some o => if b then [o] :: segs ops rest else consHead o (segs ops rest)
/-- The walk, part by part. -/
def wpSegs (P : Program) (ops : Array Oper) (Q : Exit → Act → World → Prop) : List (List Oper) → Act → World → Prop
  | [], a, w => Q .normal a w
  | seg :: rest, a, w => wpList P ops (Exit.then (fun a' w' => Grow w w' ∧ wpSegs P ops Q rest a' w') Q) seg a w
theorem wp_then {o : Oper} {a : Act} {w : World} {X K : Act → World → Prop} (h : o.wp P a w X (Exit.then K Q)) : o.wp P a w X Q := by
  unfold Oper.wp at *
  generalize (execOp a.eval o).run P w = r at *
  cases r with
  | ok n w' =>
    cases n <;> simp only [Oper.upon] at h ⊢ <;>
      first
        | exact h
        | exact Calls.mono h (fun e w'' he => by cases e <;> exact he)
  | halt x w' => cases x <;> exact h
theorem segs_ne : ∀ (plan : List (Nat × Bool)), ∃ s t, segs ops plan = s :: t
  | [] => ⟨[], [], rfl⟩
  | (i, b) :: rest => by
    obtain ⟨s, t, h⟩ := segs_ne rest
    unfold segs
    split
    · split
      · exact ⟨_, _, rfl⟩
      · exact ⟨s, t, h⟩
    · split
      · exact ⟨_, _, rfl⟩
      · rw [h]; exact ⟨_, _, rfl⟩
theorem plan_segs : ∀ (plan : List (Nat × Bool)) (w0 : World) (a : Act) (w : World) (s : List Oper) (t : List (List Oper)), segs ops plan = s :: t →
    wpList P ops (Exit.then (fun a' w' => Grow w0 w' ∧ wpSegs P ops Q t a' w') Q) s a w → wpPlan P ops Q plan w0 a w
  | [], w0, a, w, s, t, hs, h => by
    cases hs
    exact h.2
  | (i, b) :: rest, w0, a, w, s, t, hs, h => by
    obtain ⟨s', t', hr⟩ := segs_ne (ops := ops) rest
    unfold segs at hs
    cases hi : ops[i]? with
    | none =>
      rw [hi] at hs
      cases b with
      | true =>
        simp only [if_true] at hs
        cases hs
        simp only [wpPlan, wpOp, hi]
        refine ⟨h.1, ?_⟩
        have h2 := h.2
        rw [hr] at h2
        exact plan_segs rest w a w s' t' hr h2
      | false =>
        simp only [Bool.false_eq_true, if_false] at hs
        simp only [wpPlan, wpOp, hi]
        exact plan_segs rest w0 a w s t hs h
    | some o =>
      rw [hi] at hs
      cases b with
      | true =>
        simp only [if_true] at hs
        cases hs
        simp only [wpPlan, wpOp, hi]
        simp only [wpList] at h
        split at h
        · rename_i hw
          rw [if_pos hw]
          refine h.imp (fun h => wp_then (Oper.wp_mono (fun a' w' h' => ⟨h'.1, ?_⟩) h)) id
          have h2 := h'.2
          rw [hr] at h2
          exact plan_segs rest w' a' w' s' t' hr h2
        · rename_i hw
          rw [if_neg hw]
          refine ⟨h.1, ?_⟩
          have h2 := h.2
          rw [hr] at h2
          exact plan_segs rest w _ w s' t' hr h2
      | false =>
        simp only [Bool.false_eq_true, if_false] at hs
        rw [hr] at hs
        cases hs
        simp only [wpPlan, wpOp, hi]
        simp only [wpList] at h
        split at h
        · rename_i hw
          rw [if_pos hw]
          exact h.imp (fun h => wp_then (Oper.wp_mono (fun a' w' h' => plan_segs rest w0 a' w' s' _ hr h') h)) id
        · rename_i hw
          rw [if_neg hw]
          exact plan_segs rest w0 _ w s' _ hr h

/-- A region that leaves its order open, walked once, by a plan. -/
theorem wp_region_plan {id : Nat} {a : Act} {w : World} (plan : List (Nat × Bool)) (hm : P.follows .mixedOrders = true) (hs : Region.noSelect ops = true) (hl : plan.length = ops.size)
    (hk : planOk P .any ops plan (Array.replicate ops.size false) = true) (h : wpSegs P ops (Sure Q) (segs ops plan) a w.drew) : (Code.region id ops true).wp P Q a w := by
  refine Code.wp_mono Sure.imp (wp_region_held (S := Grow w.drew) hm ?_)
  rw [← hl]
  obtain ⟨s, t, e⟩ := segs_ne (ops := ops) plan
  rw [e] at h
  refine held_plan hs (fun _ _ _ h => h) (fun ⟨_, _, h⟩ => h) plan _ a w.drew ?_ (plan_segs plan _ a _ s t e h)
  rw [hl]
  exact hk
/-- One part of the walk. -/
theorem segs_step {seg : List Oper} {rest : List (List Oper)} {a : Act} {w : World}
    (h : ∀ K : Act → World → Prop, Hid (∀ a' w', Grow w w' → wpSegs P ops Q rest a' w' → K a' w') → wpList P ops (Exit.then K Q) seg a w) : wpSegs P ops Q (seg :: rest) a w :=
  h _ fun _ _ hg h' => ⟨hg, h'⟩
theorem segs_done {a : Act} {w : World} (h : Q .normal a w) : wpSegs P ops (Sure Q) [] a w := h
end

section
variable {P : Program} {ops : Array Oper} {Q : Exit → Act → World → Prop}

theorem looks_run {s : Sem Next} {v : Value} (h : ∀ w, s.run P w = .ok (.value v) w) : Looks P s := fun w x w1 hr => by
  rw [h w] at hr
  cases hr
  exact ⟨v, rfl, rfl, fun w' _ => h w'⟩

/-- Whatever order is picked, S holds behind every operation, till number c has come up. -/
def wpAnyC (P : Program) (md : Region.Mode) (ops : Array Oper) (Q : Exit → Act → World → Prop) (S : World → Prop) (c : Nat) : Nat → Array Bool → Act → World → Prop
  | 0, listed, a, w => Region.ready md ops listed = [] ∧ Q .normal a w
  | fuel + 1, listed, a, w => (Region.ready md ops listed = [] → Q .normal a w) ∧
      ∀ i ∈ Region.ready md ops listed, wpOp P ops Q i (fun a' w' => (i = c ∧ wpAny P md ops Q fuel (listed.setIfInBounds i true) a' w') ∨ (i ≠ c ∧ S w' ∧ wpAnyC P md ops Q S c fuel (listed.setIfInBounds i true) a' w')) a w
theorem wpAny_of_C {md : Region.Mode} {S : World → Prop} {c : Nat} : ∀ (fuel : Nat) (listed : Array Bool) (a : Act) (w : World), wpAnyC P md ops Q S c fuel listed a w → wpAny P md ops Q fuel listed a w
  | 0, _, _, _, h => h
  | fuel + 1, _, _, _, h => ⟨h.1, fun i hi => wpOp_mono (fun a' w' h' => h'.elim (fun h => h.2) (fun h => wpAny_of_C fuel _ a' w' h.2.2)) (h.2 i hi)⟩
theorem wpAnyC_weaken {md : Region.Mode} {S S' : World → Prop} {c : Nat} (hS : ∀ w, S w → S' w) : ∀ (fuel : Nat) (listed : Array Bool) (a : Act) (w : World), wpAnyC P md ops Q S c fuel listed a w → wpAnyC P md ops Q S' c fuel listed a w
  | 0, _, _, _, h => h
  | fuel + 1, _, _, _, h => ⟨h.1, fun i hi => wpOp_mono (fun a' w' h' => h'.imp id (fun h => ⟨h.1, hS _ h.2.1, wpAnyC_weaken hS fuel _ a' w' h.2.2⟩)) (h.2 i hi)⟩
theorem wpAnyC_done {md : Region.Mode} {S : World → Prop} {c : Nat} {listed : Array Bool} {a : Act} {w : World} (hr : Region.ready md ops listed = []) (h : Q .normal a w) : ∀ fuel, wpAnyC P md ops Q S c fuel listed a w
  | 0 => ⟨hr, h⟩
  | _ + 1 => ⟨fun _ => h, by rw [hr]; simp⟩

/-- All of W wait for number i. -/
def Blocks (md : Region.Mode) (ops : Array Oper) (i : Nat) (W : List Nat) : Prop := ∀ x ∈ W, ∃ o, ops[x]? = some o ∧ ∃ e ∈ o.after, Region.binds md e = true ∧ (e.on = i ∨ e.on ∈ W)
def waiters (md : Region.Mode) (ops : Array Oper) (i : Nat) : List Nat → List Nat
  | [] => []
  | j :: js => if ((ops[j]?).map fun o => o.after.any fun e => Region.binds md e && (e.on == i || (waiters md ops i js).contains e.on)).getD false then j :: waiters md ops i js else waiters md ops i js
theorem waiters_blocks (md : Region.Mode) (ops : Array Oper) (i : Nat) : ∀ js, Blocks md ops i (waiters md ops i js)
  | [] => fun x hx => by cases hx
  | j :: js => by
    have ih := waiters_blocks md ops i js
    unfold waiters
    split
    · rename_i h
      intro x hx
      rcases List.mem_cons.1 hx with rfl | hx
      · cases ho : ops[x]? with
        | none => rw [ho] at h; cases h
        | some o =>
          rw [ho] at h
          simp only [Option.map_some, Option.getD_some, Array.any_eq_true'] at h
          obtain ⟨e, he, h⟩ := h
          simp only [Bool.and_eq_true, Bool.or_eq_true, beq_iff_eq, List.contains_iff_mem] at h
          exact ⟨o, rfl, e, he, h.1, h.2.imp id fun h => List.mem_cons_of_mem _ h⟩
      · obtain ⟨o, ho, e, he, hb, h⟩ := ih x hx
        exact ⟨o, ho, e, he, hb, h.imp id fun h => List.mem_cons_of_mem _ h⟩
    · exact ih
/-- Number c can't come up while i has not. -/
def barred (md : Region.Mode) (ops : Array Oper) (listed : Array Bool) (i c : Nat) : Bool :=
  decide (ops.size ≤ c) || ((waiters md ops i (List.range ops.size).reverse).contains c && (waiters md ops i (List.range ops.size).reverse).all fun x => listed.getD x true == false)
theorem not_ready {md : Region.Mode} {i : Nat} {W : List Nat} {listed : Array Bool} (hb : Blocks md ops i W) (hi : listed.getD i true = false) (hW : ∀ x ∈ W, listed.getD x true = false) {x : Nat} (hx : x ∈ W) : x ∉ Region.ready md ops listed := by
  intro hr
  obtain ⟨_, o, ho, hall⟩ := mem_ready.1 hr
  obtain ⟨o', ho', e, he, hbi, h⟩ := hb x hx
  rw [ho] at ho'
  cases ho'
  have h1 := hall e he hbi
  have h0 : listed.getD e.on true = false := by
    rcases h with h | h
    · rw [h]; exact hi
    · exact hW _ h
  rcases Nat.lt_or_ge e.on listed.size with h' | h'
  · simp [h'] at h0 h1; rw [h0] at h1; cases h1
  · simp [Array.getElem?_eq_none h'] at h1
theorem wpAnyC_first {md : Region.Mode} {S : World → Prop} {c i : Nat} {oi : Oper} {v : Value} {W : List Nat} (hi : ops[i]? = some oi) (hsel : ∀ (j : Nat) (o : Oper) cs b, ops[j]? = some o → o.op ≠ .select cs b)
    (hQ : ∀ c a w, Q (.panic c) (a.put oi.dst v) w → Q (.panic c) a w) (hb : Blocks md ops i W) (hic : i ≠ c) (hc : ops.size ≤ c ∨ c ∈ W) :
    ∀ (fuel : Nat) (listed : Array Bool) (a : Act) (w : World),
      (∀ j oj, ops[j]? = some oj → j ≠ i → listed.getD j true = false → (∀ e ∈ oj.after, Region.binds md e = true → e.on ≠ i) → oi.apart ops oj = true) → (∀ x ∈ W, listed.getD x true = false) →
      i ∈ Region.ready md ops listed → YieldsIf P ops S oi v a → S w →
      wpAnyC P md ops Q S c fuel (listed.setIfInBounds i true) (a.put oi.dst v) w → wpAnyC P md ops Q S c (fuel + 1) listed a w := by
  intro fuel
  induction fuel with
  | zero =>
    intro listed a w _ _ hr hy hS H
    refine ⟨fun h => (by rw [h] at hr; cases hr), fun j hj => ?_⟩
    by_cases hji : j = i
    · subst hji; exact hy.wpOp hi hS (.inr ⟨hic, hS, H⟩)
    · have := ready_mono hj hji
      rw [H.1] at this
      cases this
  | succ fuel ih =>
    intro listed a w hfree hW hr hy hS H
    refine ⟨fun h => (by rw [h] at hr; cases hr), fun j hj => ?_⟩
    by_cases hji : j = i
    · subst hji; exact hy.wpOp hi hS (.inr ⟨hic, hS, H⟩)
    · have h1 := H.2 j (ready_mono hj hji)
      have hiun := (mem_ready.1 hr).1
      have hjW : j ∉ W := fun h => not_ready hb hiun hW h hj
      obtain ⟨hjun, oj, hoj, hall⟩ := mem_ready.1 hj
      have hjc : j ≠ c := by
        rcases hc with hc | hc
        · have : j < ops.size := (Array.getElem?_eq_some_iff.1 hoj).1
          omega
        · intro h; exact hjW (h ▸ hc)
      have hnot : ∀ e ∈ oj.after, Region.binds md e = true → e.on ≠ i := fun e he hb heq => by
        have h1 := hall e he hb
        have h0 := hiun
        rw [heq] at h1
        rcases Nat.lt_or_ge i listed.size with h' | h'
        · simp [h'] at h0 h1; rw [h0] at h1; cases h1
        · simp [Array.getElem?_eq_none h'] at h1
      have h2 := wpOp_putIf hoj (hfree j oj hoj hji hjun hnot) (fun cs b => hsel i oi cs b hi) (fun cs b => hsel j oj cs b hoj) hQ hy h1
      have hfree' : ∀ k ok, ops[k]? = some ok → k ≠ i → (listed.setIfInBounds j true).getD k true = false →
          (∀ e ∈ ok.after, Region.binds md e = true → e.on ≠ i) → oi.apart ops ok = true := fun k ok hk hki hun hno => by
        refine hfree k ok hk hki ?_ hno
        by_cases hjk : j = k
        · subst hjk; exact hjun
        · rw [getD_set_ne true hjk] at hun; exact hun
      have hW' : ∀ x ∈ W, (listed.setIfInBounds j true).getD x true = false := fun x hx => by
        have hjx : j ≠ x := by intro h; subst h; exact hjW hx
        rw [getD_set_ne true hjx]
        exact hW x hx
      refine wpOp_mono (fun a' w' h3 => ?_) h2
      rcases h3.2 with h4 | h4
      · exact absurd h4.1 hjc
      · refine .inr ⟨hjc, h4.2.1, ih (listed.setIfInBounds j true) a' w' hfree' hW' (ready_mono hr (Ne.symm hji)) h3.1 h4.2.1 ?_⟩
        rw [Array.setIfInBounds_comm _ _ hji]
        exact h4.2.2
theorem wpAnyC_take {md : Region.Mode} {S : World → Prop} {c i : Nat} {oi : Oper} {v : Value} {fuel : Nat} {listed : Array Bool} {a : Act} {w : World} (hi : ops[i]? = some oi)
    (hs : Region.noSelect ops = true) (hf : Region.free md ops listed i = true) (hr : (Region.ready md ops listed).contains i = true) (hic : i ≠ c) (hb : barred md ops listed i c = true)
    (hQ : ∀ c a w, Q (.panic c) (a.put oi.dst v) w → Q (.panic c) a w) (hy : YieldsIf P ops S oi v a) (hS : S w)
    (h : wpAnyC P md ops Q S c fuel (listed.setIfInBounds i true) (a.put oi.dst v) w) : wpAnyC P md ops Q S c (fuel + 1) listed a w := by
  unfold barred at hb
  simp only [Bool.or_eq_true, decide_eq_true_eq, Bool.and_eq_true, List.contains_iff_mem, List.all_eq_true, beq_iff_eq] at hb
  have hB := waiters_blocks md ops i (List.range ops.size).reverse
  generalize waiters md ops i (List.range ops.size).reverse = W at *
  rcases hb with hb | hb
  · exact wpAnyC_first (W := []) hi (Region.noSelect_spec hs) hQ (fun x hx => by cases hx) hic (.inl hb) fuel listed a w (Region.free_spec hi hf) (fun x hx => by cases hx) (by simpa using hr) hy hS h
  · exact wpAnyC_first (W := W) hi (Region.noSelect_spec hs) hQ hB hic (.inr hb.1) fuel listed a w (Region.free_spec hi hf) hb.2 (by simpa using hr) hy hS h

/-- The order: 0: it only looks; 1: it comes up alone, and the world grows; 2: it only reckons; 3: it comes up alone, and may change what was there. -/
def nextCut (n : Nat) : List (Nat × Nat) → Nat
  | [] => n
  | (i, 3) :: _ => i
  | _ :: rest => nextCut n rest
def pathOk (P : Program) (md : Region.Mode) (ops : Array Oper) : List (Nat × Nat) → Array Bool → Bool
  | [], listed => (Region.ready md ops listed).isEmpty
  | (i, 0) :: rest, listed => ((ops[i]?).map (isReader P)).getD false && Region.free md ops listed i && (Region.ready md ops listed).contains i && (i != nextCut ops.size rest) && barred md ops listed i (nextCut ops.size rest) && pathOk P md ops rest (listed.setIfInBounds i true)
  | (i, 1) :: rest, listed => (Region.ready md ops listed == [i]) && (i != nextCut ops.size rest) && pathOk P md ops rest (listed.setIfInBounds i true)
  | (i, 3) :: rest, listed => (Region.ready md ops listed == [i]) && pathOk P md ops rest (listed.setIfInBounds i true)
  | (i, _) :: rest, listed => (ops[i]?).isSome && Region.free md ops listed i && (Region.ready md ops listed).contains i && (i != nextCut ops.size rest) && barred md ops listed i (nextCut ops.size rest) && pathOk P md ops rest (listed.setIfInBounds i true)
def wpPath (P : Program) (ops : Array Oper) (Q : Exit → Act → World → Prop) : List (Nat × Nat) → World → Act → World → Prop
  | [], _, a, w => Q .normal a w
  | (i, 0) :: rest, w0, a, w => wpOp P ops Q i (wpPath P ops Q rest w0) a w
  | (i, 1) :: rest, w0, a, w => wpOp P ops Q i (fun a' w' => Grow w0 w' ∧ wpPath P ops Q rest w' a' w') a w
  | (i, 3) :: rest, _, a, w => wpOp P ops Q i (fun a' w' => wpPath P ops Q rest w' a' w') a w
  | (i, _) :: rest, w0, a, w => (∀ o, ops[i]? = some o → Region.wanted o (yielded ops a.tmps) = true → Looks P (execOp a.eval o)) ∧ wpOp P ops Q i (wpPath P ops Q rest w0) a w
theorem path_take {md : Region.Mode} (hs : Region.noSelect ops = true) (hp : ∀ c a w, ¬ Q (.panic c) a w) (ho : ¬ LetsOut Q) {i c n : Nat} {o : Oper} {listed : Array Bool} {a : Act} {w : World} {K : Act → World → Prop} (hi : ops[i]? = some o)
    (hlk : Region.wanted o (yielded ops a.tmps) = true → Looks P (execOp a.eval o)) (h2 : Region.free md ops listed i = true) (h3 : (Region.ready md ops listed).contains i = true) (hic : i ≠ c) (hb : barred md ops listed i c = true)
    (hK : ∀ a', K a' w → wpAnyC P md ops Q (Grow w) c n (listed.setIfInBounds i true) a' w) (h : wpOp P ops Q i K a w) : wpAnyC P md ops Q (Grow w) c (n + 1) listed a w := by
  have hQ : ∀ v c a w, Q (.panic c) (a.put o.dst v) w → Q (.panic c) a w := fun v c a w h => (hp _ _ _ h).elim
  simp only [wpOp, hi] at h
  split at h
  · rename_i hw
    rcases h with h | ⟨_, hl⟩
    · unfold Oper.wp at h
      have hlook := hlk hw w
      cases hr : (execOp a.eval o).run P w with
      | halt e w1 =>
        rw [hr] at h
        cases e <;> first | exact h.elim | exact (hp _ _ _ h).elim
      | ok x w1 =>
        obtain ⟨v, rfl, rfl, hv⟩ := hlook x w1 hr
        rw [hr] at h
        exact wpAnyC_take hi hs h2 h3 hic hb (hQ v) (Or.inl ⟨hw, hv⟩) (Grow.refl _) (hK _ h)
    · exact (ho hl).elim
  · rename_i hw
    exact wpAnyC_take hi hs h2 h3 hic hb (hQ undef) (Or.inr ⟨by simpa using hw, rfl⟩) (Grow.refl _) (hK _ h)
theorem held_path (hs : Region.noSelect ops = true) (hp : ∀ c a w, ¬ Q (.panic c) a w) (ho : ¬ LetsOut Q) {md : Region.Mode} : ∀ (path : List (Nat × Nat)) (listed : Array Bool) (a : Act) (w : World),
    pathOk P md ops path listed = true → wpPath P ops Q path w a w → wpAnyC P md ops Q (Grow w) (nextCut ops.size path) path.length listed a w
  | [], listed, a, w, hk, h => wpAnyC_done (by simpa [pathOk] using hk) h _
  | (i, 0) :: rest, listed, a, w, hk, h => by
    simp only [pathOk, Bool.and_eq_true, bne_iff_ne] at hk
    obtain ⟨⟨⟨⟨⟨h1, h2⟩, h3⟩, hic⟩, hb⟩, h4⟩ := hk
    cases hi : ops[i]? with
    | none => rw [hi] at h1; cases h1
    | some o =>
      rw [hi] at h1
      simp only [Option.map_some, Option.getD_some] at h1
      exact path_take hs hp ho hi (fun _ => isReader_looks h1 a.eval) h2 h3 hic hb (fun a' h' => held_path hs hp ho rest _ a' w h4 h') h
  | (i, 1) :: rest, listed, a, w, hk, h => by
    simp only [pathOk, Bool.and_eq_true, beq_iff_eq, bne_iff_ne] at hk
    refine ⟨fun h0 => (by rw [hk.1.1] at h0; cases h0), fun j hj => ?_⟩
    rw [hk.1.1] at hj
    obtain rfl : j = i := by simpa using hj
    exact wpOp_mono (fun a' w' h' => .inr ⟨hk.1.2, h'.1, wpAnyC_weaken (fun x hx => h'.1.trans hx) _ _ _ _ (held_path hs hp ho rest _ a' w' hk.2 h'.2)⟩) h
  | (i, 2) :: rest, listed, a, w, hk, h => by
    simp only [pathOk, Bool.and_eq_true, bne_iff_ne] at hk
    obtain ⟨⟨⟨⟨⟨h1, h2⟩, h3⟩, hic⟩, hb⟩, h4⟩ := hk
    cases hi : ops[i]? with
    | none => rw [hi] at h1; cases h1
    | some o => exact path_take hs hp ho hi (h.1 o hi) h2 h3 hic hb (fun a' h' => held_path hs hp ho rest _ a' w h4 h') h.2
  | (i, 3) :: rest, listed, a, w, hk, h => by
    simp only [pathOk, Bool.and_eq_true, beq_iff_eq] at hk
    refine ⟨fun h0 => (by rw [hk.1] at h0; cases h0), fun j hj => ?_⟩
    rw [hk.1] at hj
    obtain rfl : j = i := by simpa using hj
    exact wpOp_mono (fun a' w' h' => .inl ⟨rfl, wpAny_of_C _ _ _ _ (held_path hs hp ho rest _ a' w' hk.2 h')⟩) h
  | (i, k + 4) :: rest, listed, a, w, hk, h => by
    simp only [pathOk, Bool.and_eq_true, bne_iff_ne] at hk
    obtain ⟨⟨⟨⟨⟨h1, h2⟩, h3⟩, hic⟩, hb⟩, h4⟩ := hk
    cases hi : ops[i]? with
    | none => rw [hi] at h1; cases h1
    | some o => exact path_take hs hp ho hi (h.1 o hi) h2 h3 hic hb (fun a' h' => held_path hs hp ho rest _ a' w h4 h') h.2
theorem path_from {w0 w1 : World} (hg : Grow w0 w1) : ∀ (path : List (Nat × Nat)) (a : Act) (w : World), wpPath P ops Q path w1 a w → wpPath P ops Q path w0 a w
  | [], _, _, h => h
  | (_, 0) :: rest, _, _, h => wpOp_mono (fun a' w' h' => path_from hg rest a' w' h') h
  | (_, 1) :: _, _, _, h => wpOp_mono (fun _ _ h' => ⟨hg.trans h'.1, h'.2⟩) h
  | (_, 2) :: rest, _, _, h => ⟨h.1, wpOp_mono (fun a' w' h' => path_from hg rest a' w' h') h.2⟩
  | (_, 3) :: _, _, _, h => h
  | (_, _ + 4) :: rest, _, _, h => ⟨h.1, wpOp_mono (fun a' w' h' => path_from hg rest a' w' h') h.2⟩

/-- The parts of a path: each begins with what only reckons, or ends with what comes up alone. -/
abbrev Part := Option Oper × Bool × List Oper
def headed (o : Oper) : List Part → List Part
  | (none, b, s) :: t => (none, b, o :: s) :: t
  | t => (none, false, [o]) :: t
def headed2 (o : Oper) : List Part → List Part
  | (none, b, s) :: t => (some o, b, o :: s) :: t
  | t => (some o, false, [o]) :: t
def parts (ops : Array Oper) : List (Nat × Nat) → List Part
  | [] => [(none, false, [])]
  | (i, k) :: rest =>
    match ops[i]?, k with
    | none, _ => parts ops rest
    | some o, 0 => headed o (parts ops rest)
    | some o, 1 => (none, false, [o]) :: parts ops rest
    | some o, 3 => (none, true, [o]) :: parts ops rest
    | some o, _ => headed2 o (parts ops rest)
/-- The walk, part by part. -/
def wpParts (P : Program) (ops : Array Oper) (Q : Exit → Act → World → Prop) : List Part → Act → World → Prop
  | [], a, w => Q .normal a w
  | (p, b, s) :: t, a, w => (∀ o, p = some o → Region.wanted o (yielded ops a.tmps) = true → Looks P (execOp a.eval o)) ∧ wpList P ops (Exit.then (fun a' w' => (b = false → Grow w w') ∧ wpParts P ops Q t a' w') Q) s a w
/-- One part, in a world that has grown since its beginning. -/
theorem parts_list {o : Oper} {a : Act} {w : World} {X K : Act → World → Prop} {rest : List Oper} (hX : ∀ a' w', wpList P ops (Exit.then K Q) rest a' w' → X a' w') (h : wpList P ops (Exit.then K Q) (o :: rest) a w) {i : Nat} (hi : ops[i]? = some o) : wpOp P ops Q i X a w := by
  simp only [wpList] at h
  unfold wpOp
  simp only [hi]
  split at h
  · rename_i hw
    rw [if_pos hw]
    exact h.imp (fun h => wp_then (Oper.wp_mono hX h)) id
  · rename_i hw
    rw [if_neg hw]
    exact hX _ _ h
theorem parts_ne : ∀ (path : List (Nat × Nat)), ∃ p b s t, parts ops path = (p, b, s) :: t
  | [] => ⟨none, false, [], [], rfl⟩
  | (i, k) :: rest => by
    obtain ⟨p, b, s, t, h⟩ := parts_ne rest
    unfold parts
    split
    · exact ⟨p, b, s, t, h⟩
    · rw [h]; cases p <;> exact ⟨_, _, _, _, rfl⟩
    · exact ⟨_, _, _, _, rfl⟩
    · exact ⟨_, _, _, _, rfl⟩
    · rw [h]; cases p <;> exact ⟨_, _, _, _, rfl⟩
theorem path_parts : ∀ (path : List (Nat × Nat)), (∀ x ∈ path, ∃ o, ops[x.1]? = some o) → ∀ (w0 : World) (a : Act) (w : World) (p : Option Oper) (b : Bool) (s : List Oper) (t : List Part), parts ops path = (p, b, s) :: t →
    (∀ o, p = some o → Region.wanted o (yielded ops a.tmps) = true → Looks P (execOp a.eval o)) → wpList P ops (Exit.then (fun a' w' => (b = false → Grow w0 w') ∧ wpParts P ops Q t a' w') Q) s a w → wpPath P ops Q path w0 a w
  | [], _, w0, a, w, p, b, s, t, hs, _, h => by
    cases hs
    exact h.2
  | (i, k) :: rest, hb, w0, a, w, p, b, s, t, hs, hl, h => by
    have hb' : ∀ x ∈ rest, ∃ o, ops[x.1]? = some o := fun x hx => hb x (List.mem_cons_of_mem _ hx)
    obtain ⟨o, hi⟩ := hb (i, k) (List.mem_cons_self ..)
    simp only at hi
    obtain ⟨p', b', s', t', hr⟩ := parts_ne (ops := ops) rest
    have at' : ∀ a' w', wpParts P ops Q (parts ops rest) a' w' → wpPath P ops Q rest w' a' w' := fun a' w' h2 => by
      rw [hr] at h2
      exact path_parts rest hb' w' a' w' p' b' s' t' hr h2.1 h2.2
    have next : ∀ a' w', ((false = false → Grow w0 w') ∧ wpParts P ops Q (parts ops rest) a' w') → wpPath P ops Q rest w0 a' w' := fun a' w' h' => path_from (h'.1 rfl) rest a' w' (at' a' w' h'.2)
    have reckon : headed2 o (parts ops rest) = (p, b, s) :: t → (∀ o', ops[i]? = some o' → Region.wanted o' (yielded ops a.tmps) = true → Looks P (execOp a.eval o')) ∧ wpOp P ops Q i (wpPath P ops Q rest w0) a w := fun hs => by
      rw [hr] at hs
      cases p' with
      | none =>
        simp only [headed2] at hs
        cases hs
        refine ⟨fun o' ho' hw' => ?_, parts_list (fun a' w' h' => path_parts rest hb' w0 a' w' none _ s' _ hr (fun o e => by cases e) h') h hi⟩
        rw [hi] at ho'
        cases ho'
        exact hl o rfl hw'
      | some q =>
        simp only [headed2] at hs
        rw [← hr] at hs
        cases hs
        refine ⟨fun o' ho' hw' => ?_, parts_list ?_ h hi⟩
        rotate_left
        · intro a' w' h'
          exact next a' w' h'
        rw [hi] at ho'
        cases ho'
        exact hl o rfl hw'
    unfold parts at hs
    rw [hi] at hs
    match k with
    | 0 =>
      simp only at hs
      rw [hr] at hs
      cases p' with
      | none =>
        simp only [headed] at hs
        cases hs
        exact parts_list (fun a' w' h' => path_parts rest hb' w0 a' w' none _ s' _ hr (fun o e => by cases e) h') h hi
      | some q =>
        simp only [headed] at hs
        rw [← hr] at hs
        cases hs
        refine parts_list ?_ h hi
        intro a' w' h'
        exact next a' w' h'
    | 1 =>
      simp only at hs
      cases hs
      exact parts_list (fun a' w' h' => ⟨h'.1 rfl, at' a' w' h'.2⟩) h hi
    | 2 => exact reckon hs
    | 3 =>
      simp only at hs
      cases hs
      refine parts_list ?_ h hi
      intro a' w' h'
      exact at' a' w' (show (true = false → Grow w0 w') ∧ _ from h').2
    | k + 4 => exact reckon hs
theorem path_in {md : Region.Mode} : ∀ (path : List (Nat × Nat)) (listed : Array Bool), pathOk P md ops path listed = true → ∀ x ∈ path, ∃ o, ops[x.1]? = some o
  | [], _, _, x, hx => by cases hx
  | (i, k) :: rest, listed, hk, x, hx => by
    have alone : Region.ready md ops listed = [i] → ∃ o, ops[i]? = some o := fun h => by
      have hm : i ∈ Region.ready md ops listed := by rw [h]; simp
      obtain ⟨_, o, ho, _⟩ := mem_ready.1 hm
      exact ⟨o, ho⟩
    have both : (∃ o, ops[i]? = some o) ∧ pathOk P md ops rest (listed.setIfInBounds i true) = true := by
      match k with
      | 0 =>
        simp only [pathOk, Bool.and_eq_true] at hk
        refine ⟨?_, hk.2⟩
        cases hi : ops[i]? with
        | none => rw [hi] at hk; cases hk.1.1.1.1.1
        | some o => exact ⟨o, rfl⟩
      | 1 =>
        simp only [pathOk, Bool.and_eq_true, beq_iff_eq] at hk
        exact ⟨alone hk.1.1, hk.2⟩
      | 2 =>
        simp only [pathOk, Bool.and_eq_true] at hk
        exact ⟨Option.isSome_iff_exists.1 hk.1.1.1.1.1, hk.2⟩
      | 3 =>
        simp only [pathOk, Bool.and_eq_true, beq_iff_eq] at hk
        exact ⟨alone hk.1, hk.2⟩
      | k + 4 =>
        simp only [pathOk, Bool.and_eq_true] at hk
        exact ⟨Option.isSome_iff_exists.1 hk.1.1.1.1.1, hk.2⟩
    rcases List.mem_cons.1 hx with rfl | hx
    · exact both.1
    · exact path_in rest _ both.2 x hx

/-- A region that leaves its order open, walked once, by a path. -/
theorem wp_region_path {id : Nat} {a : Act} {w : World} (path : List (Nat × Nat)) (hm : P.follows .mixedOrders = true) (hs : Region.noSelect ops = true) (hl : path.length = ops.size)
    (hk : pathOk P .any ops path (Array.replicate ops.size false) = true) (h : wpParts P ops (Sure Q) (parts ops path) a w.drew) : (Code.region id ops true).wp P Q a w := by
  refine Code.wp_mono Sure.imp (wp_region_any hm (wpAny_of_C (S := Grow w.drew) (c := nextCut ops.size path) _ _ _ _ ?_))
  rw [← hl]
  obtain ⟨p, b, s, t, e⟩ := parts_ne (ops := ops) path
  have hin := path_in path _ hk
  rw [e] at h
  have := held_path hs (fun _ _ _ h => h) (fun ⟨_, _, h⟩ => h) path _ a w.drew hk (path_parts path hin _ a _ p b s t e h.1 h.2)
  rw [← hl] at this
  exact this
theorem parts_step {s : List Oper} {t : List Part} {a : Act} {w : World}
    (h : ∀ K : Act → World → Prop, Hid (∀ a' w', Grow w w' → wpParts P ops Q t a' w' → K a' w') → wpList P ops (Exit.then K Q) s a w) : wpParts P ops Q ((none, false, s) :: t) a w :=
  ⟨fun _ e => by (cases e), h _ fun _ _ hg h' => ⟨fun _ => hg, h'⟩⟩
theorem parts_step2 {o : Oper} {s : List Oper} {t : List Part} {a : Act} {w : World} (hl : Region.wanted o (yielded ops a.tmps) = true → Looks P (execOp a.eval o))
    (h : ∀ K : Act → World → Prop, Hid (∀ a' w', Grow w w' → wpParts P ops Q t a' w' → K a' w') → wpList P ops (Exit.then K Q) s a w) : wpParts P ops Q ((some o, false, s) :: t) a w :=
  ⟨fun _ e hw => by (cases e; exact hl hw), h _ fun _ _ hg h' => ⟨fun _ => hg, h'⟩⟩
/-- A part that ends with what may change what was there. -/
theorem parts_cut {s : List Oper} {t : List Part} {a : Act} {w : World}
    (h : ∀ K : Act → World → Prop, Hid (∀ a' w', wpParts P ops Q t a' w' → K a' w') → wpList P ops (Exit.then K Q) s a w) : wpParts P ops Q ((none, true, s) :: t) a w :=
  ⟨fun _ e => by (cases e), h _ fun _ _ h' => ⟨fun e => by (cases e), h'⟩⟩
theorem parts_cut2 {o : Oper} {s : List Oper} {t : List Part} {a : Act} {w : World} (hl : Region.wanted o (yielded ops a.tmps) = true → Looks P (execOp a.eval o))
    (h : ∀ K : Act → World → Prop, Hid (∀ a' w', wpParts P ops Q t a' w' → K a' w') → wpList P ops (Exit.then K Q) s a w) : wpParts P ops Q ((some o, true, s) :: t) a w :=
  ⟨fun _ e hw => by (cases e; exact hl hw), h _ fun _ _ h' => ⟨fun e => by (cases e), h'⟩⟩
theorem parts_done {a : Act} {w : World} (h : Q .normal a w) : wpParts P ops (Sure Q) [] a w := h
end
end Go.Proofs.YtlioojekjnigiaeGreat
/- Ops compared. -/
namespace Go.Proofs.YtlioojekjnigiaeGreat.AM.Fo
open Go.RowKit Go.Shelf Go.Sort
set_option linter.unusedVariables false
set_option linter.unusedSimpArgs false

/-- Strings, in order. -/
def slt (a b : ByteArray) : Bool := Op.bytesLess a.toList b.toList
def sgt (a b : ByteArray) : Bool := !(Op.bytesLess a.toList b.toList || a.toList == b.toList)
def cmpS (a b : ByteArray) : Int := if slt a b then -1 else if sgt a b then 1 else 0
theorem cmpNaN_any (a : ByteArray) (w : World) : Calls Tryz.prog 99 #[.string a] w fun e w' => e = .returned (.bool false) ∧ w' = w := by
  go_enter Tryz.func99, Tryz.ntmps99
  go_wp2
  go_ret
  exact ⟨by simp, rfl⟩
set_option maxHeartbeats 2000000 in
theorem cmpStr_any (a b : ByteArray) (w : World) : Calls Tryz.prog 74 #[.string a, .string b] w fun e w' => e = .returned (.int .i64 (cmpS a b)) ∧ w' = w := by
  go_enter Tryz.func74, Tryz.ntmps74
  go_wp2_with fail
  refine (cmpNaN_any a w).mono ?_
  rintro e w1 ⟨rfl, rfl⟩
  go_wp2_with fail
  refine (cmpNaN_any b _).mono ?_
  rintro e w1 ⟨rfl, rfl⟩
  by_cases h : Op.bytesLess a.toList b.toList = true
  · have hc : cmpS a b = -1 := by unfold cmpS slt; rw [if_pos h]
    go_wp2
    go_ret
    exact ⟨by rw [hc]; rfl, rfl⟩
  · have h' : Op.bytesLess a.toList b.toList = false := by simpa using h
    by_cases h2 : (a.toList == b.toList) = true
    · have hc : cmpS a b = 0 := by unfold cmpS slt sgt; rw [if_neg h, if_neg (by rw [h', h2]; decide)]
      go_wp2
      go_ret
      exact ⟨by rw [hc]; rfl, rfl⟩
    · have h2' : (a.toList == b.toList) = false := by simpa using h2
      have hc : cmpS a b = 1 := by unfold cmpS slt sgt; rw [if_neg h, if_pos (by rw [h', h2']; rfl)]
      go_wp2
      go_ret
      exact ⟨by rw [hc]; rfl, rfl⟩
set_option maxHeartbeats 2000000 in
theorem or_any (g : Nat) (c1 c2 : Int) (w : World) (h0 : w.cell? ⟨g, 0, none⟩ = some (.int .i64 c1)) (h1 : w.cell? ⟨g, 1, none⟩ = some (.int .i64 c2)) : Calls Tryz.prog 73 #[.slice (some ⟨g, 0, none⟩) 2 2] w fun e w' => e = .returned (.int .i64 (if c1 = 0 then c2 else c1)) ∧ w' = w := by
  go_enter Tryz.func73, Tryz.ntmps73
  by_cases hc : c1 = 0
  · subst hc
    rw [if_pos rfl]
    go_wp2
    refine wp_loop_rounds 3 ?_
    rw [rounds_succ]
    go_wp2
    rw [rounds_succ]
    go_wp2
    · go_ret
      exact ⟨by simp_all, rfl⟩
    · rw [rounds_succ]
      go_wp2
      go_ret
      exact ⟨by simp_all, rfl⟩
  · rw [if_neg hc]
    go_wp2
    refine wp_loop_rounds 3 ?_
    rw [rounds_succ]
    go_wp2
    go_ret
    exact ⟨by simp_all, rfl⟩
def cmpO (x y : R6) : Int := if cmpS x.key y.key = 0 then cmpS x.val y.val else cmpS x.key y.key
theorem grows (W : World) (o o2 o3 : Obj) : (((W.alloc o).alloc o2).drew).alloc o3 = grow (W.drewN 1) (#[o, o2, o3]) := by
  rw [alloc_eq_grow W o, alloc_eq_grow _ o2, grow_grow, alloc_eq_grow _ o3]
  show grow (grow (W.drewN 1) (#[o] ++ #[o2])) #[o3] = _
  rw [grow_grow]
  rfl
set_option maxHeartbeats 4000000 in
theorem compare_any (x y : R6) (W : World) : Calls Tryz.prog 45 #[x.val', y.val'] W fun e w' => e = .returned (.int .i64 (cmpO x y)) ∧ ∃ q os', w' = grow (W.drewN q) os' := by
  have hE : Hid (cmpO x y = if cmpS x.key y.key = 0 then cmpS x.val y.val else cmpS x.key y.key) := rfl
  generalize cmpO x y = c at hE
  unfold R6.val'
  go_enter Tryz.func45, Tryz.ntmps45
  go_wp2_with fail
  have hx : ∀ j u, x.cells[j]? = some u → (((W.alloc (.cells x.cells.toArray 56)).alloc (.cells y.cells.toArray 56)).drew).cell? ⟨W.heap.size, j, none⟩ = some u := fun j u hj => by
    rw [World.cell?_drew]
    unfold World.cell?
    rw [heap_alloc_old _ _ (by simp), heap_alloc_new]
    simpa using hj
  have hy : ∀ j u, y.cells[j]? = some u → (((W.alloc (.cells x.cells.toArray 56)).alloc (.cells y.cells.toArray 56)).drew).cell? ⟨W.heap.size + 1, j, none⟩ = some u := fun j u hj => by
    have hs : W.heap.size + 1 = (W.alloc (.cells x.cells.toArray 56)).heap.size := by simp
    rw [World.cell?_drew, hs]
    unfold World.cell?
    rw [heap_alloc_new]
    simpa using hj
  have x3 := hx 3 _ rfl
  have x4 := hx 4 _ rfl
  have y3 := hy 3 _ rfl
  have y4 := hy 4 _ rfl
  clear hx hy
  have hgr0 := grows W (.cells x.cells.toArray 56) (.cells y.cells.toArray 56)
  simp only [R6.cells] at x3 x4 y3 y4 hgr0
  have hgr : Hid _ := hgr0
  clear hgr0
  refine wp_region_path [(0, 0), (1, 0), (2, 0), (3, 0), (5, 0), (6, 0), (7, 0), (8, 0), (4, 1), (9, 1), (10, 1), (11, 1), (12, 0)] (by kernel_rfl) (by kernel_rfl) (by kernel_rfl) (by kernel_rfl) ?_
  simp only [parts, headed, List.getElem?_toArray, List.getElem?_cons_zero, List.getElem?_cons_succ]
  generalize (((W.alloc (Obj.cells _ 56)).alloc (Obj.cells _ 56)).drew) = Wd at *
  refine parts_step fun K HK => ?_
  go_wp2_with fail
  refine (cmpStr_any _ _ _).mono ?_
  rintro e Wd ⟨rfl, rfl⟩
  have hg := Grow.refl Wd
  go_wp2_with fail
  refine HK.out _ _ hg ?_
  clear HK K
  refine parts_step fun K HK => ?_
  go_wp2_with fail
  refine (cmpStr_any _ _ _).mono ?_
  rintro e Wd ⟨rfl, rfl⟩
  have hg := Grow.refl Wd
  go_wp2_with fail
  refine HK.out _ _ hg ?_
  clear HK K
  refine parts_step fun K HK => ?_
  go_wp2_with fail
  have hg := (Grow.refl Wd).alloc (Obj.cells #[.int .i64 (cmpS x.key y.key), .int .i64 (cmpS x.val y.val)] 3)
  refine HK.out _ _ hg ?_
  clear HK K
  refine parts_step fun K HK => ?_
  go_wp2_with fail
  have e0 : (Wd.alloc (Obj.cells #[.int .i64 (cmpS x.key y.key), .int .i64 (cmpS x.val y.val)] 3)).cell? ⟨Wd.heap.size, 0, none⟩ = some (.int .i64 (cmpS x.key y.key)) := by simp
  have e1 : (Wd.alloc (Obj.cells #[.int .i64 (cmpS x.key y.key), .int .i64 (cmpS x.val y.val)] 3)).cell? ⟨Wd.heap.size, 1, none⟩ = some (.int .i64 (cmpS x.val y.val)) := by simp
  refine (or_any _ _ _ _ e0 e1).mono ?_
  rw [← hE.out]
  rintro e w3 ⟨rfl, rfl⟩
  have hg := Grow.refl (Wd.alloc (Obj.cells #[.int .i64 (cmpS x.key y.key), .int .i64 (cmpS x.val y.val)] 3))
  go_wp2_with fail
  refine HK.out _ _ hg ?_
  clear HK K
  refine parts_step fun K HK => ?_
  go_wp2_with fail
  refine HK.out _ _ (Grow.refl _) ?_
  clear HK K
  refine parts_done ?_
  go_wp2
  go_ret
  exact ⟨rfl, _, _, hgr.out _⟩
end Go.Proofs.YtlioojekjnigiaeGreat.AM.Fo
/- Functions that change what they are handed: what is asked of a body makes what is told of a call. -/
namespace Go.Proofs.YtlioojekjnigiaeGreat.AM
set_option linter.unusedVariables false
set_option linter.unusedSimpArgs false

/-- What one answers that changes what it is handed: fz stay from here on; the handles q alone go on, those that came in ahead of all. -/
inductive RetOwn (n : Nat) (s : St) (a : AVal) (R : AVal → Heap → Nat → Prop) : Prop
  | mk (fz q : List Nat) (x : AVal) (H' : Heap) (hz : (nodup fz && fz.all fun h => (s.H.get h).live) = true) (ha : Fit (over (fz.map fun h => (h, (s.H.get h).freeze)) s.H.get) (x.ren (ren1 q 0)) a) (hH : heapFits (over (fz.map fun h => (h, (s.H.get h).freeze)) s.H.get) (ren1 q 0) H') (hq : (nodup q && keepOk n 0 q) = true) (hb : (x.hb q.length && heapHb q.length H') = true) (hR : R x H' q.length) : RetOwn n s a R
def ownF (tab : Tab) (rs : List ResultVar) (n : Nat) (R : AVal → Heap → Nat → Prop) (e : X) (env : Env) (next : Nat) (H : Heap) : Prop := match e with
  | .normal | .ret => resVC tab ⟨env, next, H⟩ rs fun xs => RetOwn n ⟨env, next, H⟩ (tupA xs) R
  | .exit _ => False
/-- Called with what is known, it answers so, and leaves so; m handles are new. -/
abbrev ECall (P : Program) (f : FuncId) (args : List AVal) (H : Heap) (n : Nat) (x : AVal) (H' : Heap) (m : Nat) : Prop :=
  ACall P f args H n fun x' H'' n' => x' = x ∧ H'' = H' ∧ n' = n + m

section
variable {P : Program} {tab : Tab}
theorem acall_of_vc {ic : Code → Bool} (ht : TabOk P tab) (hm : P.follows .mixedOrders = true) {f : FuncId} {fn : Func} {c : Code} {args : List AVal} {H : Heap} {n N : Nat} {R : AVal → Heap → Nat → Prop} (hf : P.funcs[f]? = some fn) (hb : fn.body = some c) (hcall : callable P f = true) (hN : fn.ntmps = nOf N) (hk : kOf N = n) (hlen : args.length ≤ nOf N)
    {Q : X → St → Prop} (hQ : ∀ e s, Q e s → ownF tab fn.results.toList n R e s.env s.next s.H) (h : vc ic tab P N c Q ⟨argEnv 0 args, n, H⟩) : ACall P f args H n R := by
  refine ⟨hcall, fun r A w vs hr hc hs hv => ?_⟩
  refine calls_of_wp hf hb ?_
  rw [hN]
  have hsim := start_sim (N := N) (H := H) hr hc ⟨hs, hv⟩ hlen hk
  refine wp_mono (vc_sound ht hm c _ _ r A _ w h hsim) (lift_body fun s r' A' act w' e hq hs' => ?_)
  have hq := hQ e s hq
  have body : resVC tab s fn.results.toList (fun xs => RetOwn n s (tupA xs) R) → ∃ v, (results fn act.tmps).run P w' = .ok v w' ∧ (fun e w' => ∃ v r' A' x H' n', e = Ending.returned v ∧ R x H' n' ∧ n ≤ n' ∧ (∀ h, h < n → r' h = r h) ∧ (∀ h, n' ≤ h → r' h = none) ∧ Core r' A' w' (Heap.get H') ∧ VRel r' A' v x ∧ Fr w A w' A' (LiveB r H.get) ∧ ∀ b, LiveB r' (Heap.get H') b → LiveB r H.get b ∨ w.heap.size ≤ b) (.returned v) w' := fun hres => by
    obtain ⟨xs, v, ⟨fz, q, x, H', hz, ha, hH, hq, hb, hR⟩, h2, h3⟩ := res_run ht hs' hres
    simp only [Bool.and_eq_true] at hq hb hz
    obtain ⟨A2, c2, s2, k2'⟩ := Core.stays s.H.get fz hs'.core hz.1 fun h hh => ⟨rfl, List.all_eq_true.1 hz.2 h hh⟩
    generalize hG : over (fz.map fun h => (h, (s.H.get h).freeze)) s.H.get = g2 at c2 ha hH
    obtain ⟨r2, k1, k2, k3, k4, k5⟩ := retell c2 q H' hH hq.1 hb.2
    obtain ⟨p1, p2⟩ := keepOk_get hq.2
    have hlive : ∀ b, LiveB r' g2 b → LiveB r' s.H.get b := fun b ⟨h, hl, hb⟩ => by
      refine ⟨h, ?_, hb⟩
      rw [← hG] at hl
      by_cases hm : h ∈ fz
      · exact List.all_eq_true.1 hz.2 h hm
      · rw [over_keys] at hl
        · exact hl
        · simp only [List.map_map, List.mem_map, Function.comp, not_exists, not_and]
          exact fun y hy e => hm (by rw [← show y = h from e]; exact hy)
    have hfr : Fr w A w' A2 (LiveB r H.get) := by
      refine ⟨hs'.frame.os, hs'.frame.tape, hs'.frame.output, hs'.frame.size, hs'.frame.block, hs'.frame.sub.trans s2, fun b hb hn => ?_⟩
      rw [k2' b fun h hh e => ?_]
      · exact hs'.frame.keep b hb hn
      · rcases hs'.own b ⟨h, List.all_eq_true.1 hz.2 h hh, e⟩ with h1 | h1
        · omega
        · exact hn h1
    refine ⟨v, h2, v, r2, A2, x, H', q.length, rfl, hR, p1, fun h hh => ?_, k3, k1, k2 _ _ _ hb.1 ha (h3.mono (RSub.refl r') s2), hfr, fun b hbb => (hs'.own b (hlive b (k5 b hbb))).symm⟩
    have := p2 h hh
    rw [Nat.zero_add] at this
    rw [k4 h (Nat.lt_of_lt_of_le hh p1), ren1_lt this]
    exact hs'.keep h (by rw [hk]; exact hh)
  cases e with
  | normal => exact ⟨fun id h => (by cases h), body hq⟩
  | ret => exact ⟨fun id h => (by cases h), body hq⟩
  | exit id => exact hq.elim
/-- A function that changes what it is handed: what is asked of its body. -/
theorem acall_with (ic : Code → Bool) (ht : TabOk P tab) (hm : P.follows .mixedOrders = true) {f N : Nat} {fn : Func} {args : List AVal} {H : Heap} {n : Nat} {R : AVal → Heap → Nat → Prop} (hf : P.funcs[f]? = some fn) (hcall : callable P f = true) (hN : fn.ntmps = N) (hlen : (Nat.ble args.length N && Nat.blt N 65536) = true)
    (h : vcR ic tab P (n * 65536 + N) (bodyOf fn) (ownF tab fn.results.toList n R) (argEnv 0 args) n H) : ACall P f args H n R := by
  simp only [Bool.and_eq_true] at hlen
  have hsm := hblt hlen.2
  have hb : fn.body = some (bodyOf fn) := by
    unfold callable at hcall
    rw [hf] at hcall
    simp only [Bool.and_eq_true] at hcall
    obtain ⟨c, hc⟩ := Option.isSome_iff_exists.1 hcall.2
    simp [bodyOf, hc]
  have h1 : nOf (n * 65536 + N) = N := by show (n * 65536 + N) % 65536 = N; omega
  have h2 : kOf (n * 65536 + N) = n := by show (n * 65536 + N) / 65536 = n; omega
  refine acall_of_vc (ic := ic) ht hm (N := n * 65536 + N) hf hb hcall (by rw [h1]; exact hN) h2 (by rw [h1]; exact Nat.le_of_ble_eq_true hlen.1) (Q := fun e s => ownF tab fn.results.toList n R e s.env s.next s.H) (fun e s h => h) ?_
  rw [← vcF_eq, ← vcR_eq]
  exact h
theorem acall_intro (ht : TabOk P tab) (hm : P.follows .mixedOrders = true) {f N : Nat} {fn : Func} {args : List AVal} {H : Heap} {n : Nat} {R : AVal → Heap → Nat → Prop} (hf : P.funcs[f]? = some fn) (hcall : callable P f = true) (hN : fn.ntmps = N) (hlen : (Nat.ble args.length N && Nat.blt N 65536) = true)
    (h : vcR isCond tab P (n * 65536 + N) (bodyOf fn) (ownF tab fn.results.toList n R) (argEnv 0 args) n H) : ACall P f args H n R := acall_with isCond ht hm hf hcall hN hlen h
theorem acall_cut (ht : TabOk P tab) (hm : P.follows .mixedOrders = true) {f N : Nat} {fn : Func} {args : List AVal} {H : Heap} {n : Nat} {R : AVal → Heap → Nat → Prop} (hf : P.funcs[f]? = some fn) (hcall : callable P f = true) (hN : fn.ntmps = N) (hlen : (Nat.ble args.length N && Nat.blt N 65536) = true)
    (h : vcR isBig tab P (n * 65536 + N) (bodyOf fn) (ownF tab fn.results.toList n R) (argEnv 0 args) n H) : ACall P f args H n R := acall_with isBig ht hm hf hcall hN hlen h
end
end Go.Proofs.YtlioojekjnigiaeGreat.AM
/- A library's sort of a row of one's own, told as a call. -/
namespace Go.Proofs.YtlioojekjnigiaeGreat.AM
open Go.Shelf Go.RowKit Go.Lib Go.Sort
set_option linter.unusedVariables false
set_option linter.unusedSimpArgs false

theorem get_one {e : Entry} {h : Nat} : Heap.get [(0, e)] h = if h = 0 then e else .dead := by
  by_cases hh : h = 0
  · subst hh; rfl
  · rw [if_neg hh]
    have : Nat.beq 0 h = false := by
      cases hx : Nat.beq 0 h
      · rfl
      · exact absurd (Nat.eq_of_beq_eq_true hx).symm hh
    simp only [Heap.get, this, cond_false]
theorem acall_sort {P : Program} {f T k c : Nat} {α : Type} [Inhabited α] {dEnc : α → List D} {enc : α → List Value} (hk0 : 0 < k) (hk : ∀ x, (enc x).length = k) (hkd : ∀ x, (dEnc x).length = k)
    (hrep : ∀ (A : View) (x : α) (j : Nat) (v : Value) (d : D), (dEnc x)[j]? = some d → Rep A v d → (enc x)[j]? = some v) (hrep' : ∀ (A : View) (x : α) (j : Nat) (v : Value) (d : D), (dEnc x)[j]? = some d → (enc x)[j]? = some v → Rep A v d) (hcall : callable P f = true) (l l' : List α) (hlen : l'.length = l.length)
    (hnone : ∀ p cap w, l = [] → Calls P f #[.slice p 0 cap, .func (.func c) #[] #[]] w fun e w' => e = .returned (.tuple #[]) ∧ w' = w)
    (hsome : ∀ b cap w, HoldsK enc k w b 0 l.toArray → b < w.heap.size → Calls P f #[.slice (some ⟨b, 0, none⟩) l.length cap, .func (.func c) #[] #[]] w fun e w' => e = .returned (.tuple #[]) ∧ ∃ n os, w' = sortWorldK enc k w b 0 n l'.toArray os) :
    ECall P f [.row 0, .fn (.func c) [] []] [(0, .rows T k (l.map dEnc) true)] 1 (.tup []) [(0, .rows T k (l'.map dEnc) true)] 0 := by
  refine ⟨hcall, fun r A w vs hr hc hs hv => ?_⟩
  obtain ⟨v0, v1, rfl⟩ : ∃ v0 v1, vs = #[v0, v1] := by
    match vs, hs with
    | ⟨[v0, v1]⟩, _ => exact ⟨v0, v1, rfl⟩
  have h0 := hv 0 _ rfl
  have h1 := hv 1 _ rfl
  simp only [Array.getD_eq_getD_getElem?] at h0 h1
  have h0 : VRel r A v0 (.row 0) := h0
  have h1 : VRel r A v1 (.fn (.func c) [] []) := h1
  obtain rfl : v1 = .func (.func c) #[] #[] := by
    cases h1 with
    | fn _ xs ys _ _ hx hy _ _ =>
      have e1 : xs = #[] := Array.eq_empty_of_size_eq_zero hx
      have e2 : ys = #[] := Array.eq_empty_of_size_eq_zero hy
      rw [e1, e2]
  have hent := hc.ent 0
  rw [get_one, if_pos rfl] at hent
  have same : ∀ {w' : World}, Core r A w' (Heap.get [(0, .rows T k (l'.map dEnc) true)]) → Fr w A w' A (LiveB r (Heap.get [(0, .rows T k (l.map dEnc) true)])) → ∃ v r' A' x H' n', Ending.returned (.tuple #[]) = .returned v ∧ (x = .tup [] ∧ H' = [(0, .rows T k (l'.map dEnc) true)] ∧ n' = 1 + 0) ∧ 1 ≤ n' ∧ (∀ h, h < 1 → r' h = r h) ∧ (∀ h, n' ≤ h → r' h = none) ∧ Core r' A' w' (Heap.get H') ∧ VRel r' A' v x ∧ Fr w A w' A' (LiveB r (Heap.get [(0, .rows T k (l.map dEnc) true)])) ∧ ∀ b, LiveB r' (Heap.get H') b → LiveB r (Heap.get [(0, .rows T k (l.map dEnc) true)]) b ∨ w.heap.size ≤ b := fun {w'} c1 f1 =>
    ⟨.tuple #[], r, A, .tup [], _, 1, rfl, ⟨rfl, rfl, rfl⟩, Nat.le_refl _, fun _ _ => rfl, hr, c1, .tup #[] [] rfl (by simp), f1, fun b hb => by
      obtain ⟨h, hl, hb⟩ := hb
      rw [get_one] at hl
      by_cases hh : h = 0
      · subst hh
        exact .inl ⟨0, rfl, hb⟩
      · rw [if_neg hh] at hl; cases hl⟩
  have none_case : l = [] → ∀ p cap, v0 = .slice p 0 cap → Calls P f #[v0, .func (.func c) #[] #[]] w fun e w' => ∃ v r' A' x H' n', e = .returned v ∧ (x = .tup [] ∧ H' = [(0, .rows T k (l'.map dEnc) true)] ∧ n' = 1 + 0) ∧ 1 ≤ n' ∧ (∀ h, h < 1 → r' h = r h) ∧ (∀ h, n' ≤ h → r' h = none) ∧ Core r' A' w' (Heap.get H') ∧ VRel r' A' v x ∧ Fr w A w' A' (LiveB r (Heap.get [(0, .rows T k (l.map dEnc) true)])) ∧ ∀ b, LiveB r' (Heap.get H') b → LiveB r (Heap.get [(0, .rows T k (l.map dEnc) true)]) b ∨ w.heap.size ≤ b := fun hl p cap hv0 => by
    subst hv0
    have hl' : l' = l := by
      rw [hl] at hlen ⊢
      exact List.eq_nil_of_length_eq_zero hlen
    refine (hnone p cap w hl).mono fun e w' he => ?_
    obtain ⟨rfl, rfl⟩ := he
    refine same (by rw [hl']; exact hc) (Fr.refl _ _ _)
  cases h0 with
  | rowNil _ a ha hb =>
    obtain ⟨_, ⟨_, h2⟩ | ⟨b, cap, cells, e1, _⟩⟩ := hent
    · exact none_case (by simpa using h2) a 0 rfl
    · rw [hb] at e1; cases e1
  | row _ b n cap hb =>
    obtain ⟨k0, ⟨h2, _⟩ | ⟨b', cap', cells, e1, e2, e3, e4, e5, e6, e7⟩⟩ := hent
    · rw [hb] at h2; cases h2
    · rw [hb] at e1
      simp only [Option.some.injEq, Loc.mk.injEq] at e1
      obtain ⟨rfl, rfl, rfl⟩ := e1
      by_cases hl0 : l = []
      · exact none_case hl0 _ _ (by rw [hl0]; rfl)
      rw [List.length_map] at e5 ⊢
      have hlt := heap_lt e2
      have hsz : (flatK enc k l.toArray).size = l.length * k := by simp
      have hle : l.length * k ≤ cells.size := by rw [e3]; exact Nat.mul_le_mul_right _ e5
      have hH : HoldsK enc k w b 0 l.toArray := fun j hj => by
        rw [hsz] at hj
        have hjc : j < cells.size := by omega
        have hi : j / k < l.length := Nat.div_lt_of_lt_mul (by rw [Nat.mul_comm]; exact hj)
        have hm : j % k < k := Nat.mod_lt _ hk0
        have hd : (dEnc l[j / k])[j % k]? = some ((dEnc l[j / k])[j % k]'(by rw [hkd]; exact hm)) := List.getElem?_eq_getElem _
        have := e6 (j / k) (dEnc l[j / k]) (by rw [List.getElem?_map, List.getElem?_eq_getElem hi]; rfl) (j % k) _ hd
        rw [Nat.mul_comm, Nat.div_add_mod] at this
        have hv2 := hrep _ _ _ _ _ hd this
        rw [Nat.zero_add]
        refine ⟨?_, ?_⟩
        · rw [cell_of e2 (getD_some hjc undef)]
          congr 1
          rw [get_flatK enc k l.toArray j (by simpa using hj)]
          have h5 : l.toArray[j / k]! = l[j / k] := by simp [hi]
          rw [h5]
          have h6 : (enc l[j / k])[j % k]! = (enc l[j / k])[j % k]'(by rw [hk]; exact hm) := by
            rw [getElem!_pos]
          rw [show (id (enc l[j / k])[j % k]! : Value) = (enc l[j / k])[j % k]! from rfl, h6]
          rw [List.getElem?_eq_getElem (by rw [hk]; exact hm)] at hv2
          exact (Option.some.inj hv2).symm
        · simp [World.frozen?, e2]
      refine (hsome b cap w hH hlt).mono fun e w' he => ?_
      obtain ⟨rfl, n, os, rfl⟩ := he
      let F := flatK enc k l'.toArray
      have hF : F.size = l.length * k := by simp [F, hlen]
      have hb' : (sortWorldK enc k w b 0 n l'.toArray os).heap[b]? = some (.cells (putCells id 0 F cells) T (0, 0)) := by
        show ((w.heap.modify b (onCells (putCells id 0 F))) ++ os)[b]? = _
        rw [Array.getElem?_append_left (by simpa using hlt), Array.getElem?_modify, if_pos rfl, e2]
        rfl
      have ho : ∀ x, x < w.heap.size → x ≠ b → (sortWorldK enc k w b 0 n l'.toArray os).heap[x]? = w.heap[x]? := fun x hx hne => by
        show ((w.heap.modify b (onCells (putCells id 0 F))) ++ os)[x]? = _
        rw [Array.getElem?_append_left (by simpa using hx), Array.getElem?_modify, if_neg (Ne.symm hne)]
      have hfr : Fr w A (sortWorldK enc k w b 0 n l'.toArray os) A (fun x => x = b) := by
        refine ⟨rfl, rfl, rfl, ?_, fun x hx hne => ho x hx hne, Sub.refl A, fun _ _ _ => rfl⟩
        show w.heap.size ≤ ((w.heap.modify b (onCells (putCells id 0 F))) ++ os).size
        simp
      have hlive : LiveB r (Heap.get [(0, .rows T k (l.map dEnc) true)]) b := ⟨0, rfl, by simp [Rho.blk, hb]⟩
      refine same ⟨fun b2 o v hA => ?_, fun h => ?_, fun h h' b2 hl hl' _ _ => ?_⟩ (hfr.weaken fun x hx => by rw [hx]; exact hlive)
      · have hv3 := hc.view b2 o v hA
        have hne : b2 ≠ b := fun e => by rw [e, e7] at hA; cases hA
        rw [← hv3]
        exact World.cell?_of_block (w := w) (ho b2 (cell_lt' hv3) hne)
      · rw [get_one]
        by_cases hh : h = 0
        · subst hh
          rw [if_pos rfl]
          refine ⟨fun e he => ?_, .inr ⟨b, cap, putCells id 0 F cells, ?_, hb', ?_, e4, ?_, fun i e he j d hd => ?_, e7⟩⟩
          · obtain ⟨x, _, rfl⟩ := List.mem_map.1 he
            exact hkd x
          · rw [hb, List.length_map, List.length_map, hlen]
          · simp [putCells, e3]
          · rw [List.length_map, hlen]; exact e5
          · rw [List.getElem?_map, Option.map_eq_some_iff] at he
            obtain ⟨x, hx, rfl⟩ := he
            obtain ⟨hi, hxi⟩ := List.getElem?_eq_some_iff.1 hx
            have hj : j < k := by
              have := (List.getElem?_eq_some_iff.1 hd).1
              rwa [hkd] at this
            have hlt2 : i * k + j < l.length * k := by
              have h5 : (i + 1) * k ≤ l.length * k := Nat.mul_le_mul_right _ (by omega)
              rw [Nat.add_mul] at h5
              omega
            have hval : (putCells id 0 F cells).getD (i * k + j) undef = (enc x)[j]'(by rw [hk]; exact hj) := by
              have hcs : i * k + j < (putCells id 0 F cells).size := by simp [putCells]; omega
              rw [Array.getD_eq_getD_getElem?, Array.getElem?_eq_getElem hcs, Option.getD_some]
              simp only [putCells, Array.getElem_mapIdx]
              rw [if_pos ⟨Nat.zero_le _, by omega⟩, Nat.sub_zero]
              show (flatK enc k l'.toArray)[i * k + j]! = _
              rw [get_flatK enc k l'.toArray _ (by simp [hlen]; exact hlt2)]
              have hdiv : (i * k + j) / k = i := by
                rw [Nat.mul_comm, Nat.mul_add_div hk0, Nat.div_eq_of_lt hj, Nat.add_zero]
              have hmod : (i * k + j) % k = j := by
                rw [Nat.mul_comm, Nat.mul_add_mod, Nat.mod_eq_of_lt hj]
              rw [hdiv, hmod]
              have h5 : l'.toArray[i]! = x := by simp [hi, hxi]
              rw [h5, getElem!_pos]
            refine hrep' _ x j _ d hd ?_
            rw [hval, List.getElem?_eq_getElem]
        · rw [if_neg hh]; trivial
      · rw [get_one] at hl hl'
        by_cases hh : h = 0
        · by_cases hh' : h' = 0
          · rw [hh, hh']
          · rw [if_neg hh'] at hl'; cases hl'
        · rw [if_neg hh] at hl; cases hl
end Go.Proofs.YtlioojekjnigiaeGreat.AM
/- Ops: as data; gathered, told as a call. -/
namespace Go.Proofs.YtlioojekjnigiaeGreat.AM.Fo
open Go.RowKit Go.Shelf Go.Sort
set_option linter.unusedVariables false
set_option linter.unusedSimpArgs false
/-- An op, as data. -/
structure OpD where
  id : Id
  kind : Int
  key : ByteArray
  val : ByteArray
  past : List Id
def OpD.enc (x : OpD) : List D := [.int .i64 x.id.r, .int .i64 x.id.n, .int .i64 x.kind, .str x.key, .str x.val, .list (x.past.map Id.enc)]
def OpD.arg (x : OpD) : AVal := .agg [dInt x.id.r, dInt x.id.n, dInt x.kind, .dat (.str x.key), .dat (.str x.val), .dat (.list (x.past.map Id.enc))]
/-- Cells that say an op. -/
def Says (A : View) (z : R6) (x : OpD) : Prop := z.key = x.key ∧ z.val = x.val ∧ ∀ (j : Nat) (d : D), x.enc[j]? = some d → ∃ v, z.cells[j]? = some v ∧ Rep A v d
theorem says_of {A : View} {u : Nat → Value} {x : OpD} (h : ∀ (j : Nat) (d : D), x.enc[j]? = some d → Rep A (u j) d) : ∃ z : R6, Says A z x ∧ ∀ j, j < 6 → z.cells[j]? = some (u j) := by
  have h0 := h 0 _ rfl
  have h1 := h 1 _ rfl
  have h2 := h 2 _ rfl
  have h3 := h 3 _ rfl
  have h4 := h 4 _ rfl
  have h5 := h 5 _ rfl
  generalize e0 : u 0 = v0 at h0
  generalize e1 : u 1 = v1 at h1
  generalize e2 : u 2 = v2 at h2
  generalize e3 : u 3 = v3 at h3
  generalize e4 : u 4 = v4 at h4
  generalize e5 : u 5 = v5 at h5
  cases h0
  cases h1
  cases h2
  cases h3
  cases h4
  obtain ⟨pa, pn, pc, rfl⟩ : ∃ pa pn pc, v5 = .slice pa pn pc := by cases h5; exact ⟨_, _, _, rfl⟩
  have hu : ∀ j, j < 6 → (⟨x.id.r, x.id.n, x.kind, x.key, x.val, pa, pn, pc⟩ : R6).cells[j]? = some (u j) := fun j hj => by
    have : j = 0 ∨ j = 1 ∨ j = 2 ∨ j = 3 ∨ j = 4 ∨ j = 5 := by omega
    rcases this with rfl | rfl | rfl | rfl | rfl | rfl
    · rw [e0]; rfl
    · rw [e1]; rfl
    · rw [e2]; rfl
    · rw [e3]; rfl
    · rw [e4]; rfl
    · rw [e5]; rfl
  refine ⟨⟨x.id.r, x.id.n, x.kind, x.key, x.val, pa, pn, pc⟩, ⟨rfl, rfl, fun j d hd => ?_⟩, hu⟩
  have hj : j < 6 := (List.getElem?_eq_some_iff.1 hd).1
  exact ⟨u j, hu j hj, h j d hd⟩
/-- A row of cells that says some ops: what the cells are. -/
theorem rows_of {A : View} : ∀ (l : List OpD) (F : Nat → Nat → Value), (∀ (i : Nat) (x : OpD), l[i]? = some x → ∀ (j : Nat) (d : D), x.enc[j]? = some d → Rep A (F i j) d) →
    ∃ zs : List R6, zs.length = l.length ∧ ∀ (i : Nat) (x : OpD), l[i]? = some x → ∃ z, zs[i]? = some z ∧ Says A z x ∧ ∀ j, j < 6 → z.cells[j]? = some (F i j)
  | [], F, _ => ⟨[], rfl, fun i x h => by simp at h⟩
  | a :: l, F, h => by
    obtain ⟨z, hz1, hz2⟩ := says_of (h 0 a rfl)
    obtain ⟨zs, h1, h2⟩ := rows_of l (fun i => F (i + 1)) fun i x hx => h (i + 1) x (by simpa using hx)
    refine ⟨z :: zs, by simp [h1], fun i x hx => ?_⟩
    match i with
    | 0 =>
      obtain rfl : a = x := by simpa using hx
      exact ⟨z, rfl, hz1, hz2⟩
    | i + 1 => exact h2 i x (by simpa using hx)
theorem get_zero {e : Entry} {h : Nat} : Heap.get [(0, e)] h = if h = 0 then e else .dead := get_one
/-- A call that answers a row of its own, made anew. -/
theorem ecall_new_row {P : Program} {f T k : Nat} {args : List AVal} {es : List (List D)} (hk : 0 < k) (hs : ∀ e ∈ es, e.length = k) (hcall : callable P f = true)
    (h : ∀ (r : Rho) (A : View) (w : World) (vs : Array Value), (∀ b o v, A b o = some v → w.cell? ⟨b, o, none⟩ = some v) → vs.size = args.length → (∀ j a, args[j]? = some a → VRel r A (vs.getD j undef) a) →
      Calls P f vs w fun e w' => ∃ v xs, e = .returned v ∧ w'.ownsRow w.heap.size T k v es.length xs ∧ Go.RowKit.Below w.heap.size w w' ∧ ∀ (i : Nat) (e : List D), es[i]? = some e → ∀ (j : Nat) (d : D), e[j]? = some d → ∃ u, xs[i * k + j]? = some u ∧ Rep A u d) :
    ECall P f args [] 0 (.row 0) [(0, .rows T k es true)] 1 := by
  refine ⟨hcall, fun r A w vs hr hc hsz hv => ?_⟩
  refine (h r A w vs hc.view hsz hv).mono fun e w' he => ?_
  obtain ⟨v, xs, rfl, hown, hbel, hrep⟩ := he
  have hAlt : ∀ b o u, A b o = some u → b < w.heap.size := fun b o u hA => cell_lt' (hc.view b o u hA)
  have hview : ∀ b o u, A b o = some u → w'.cell? ⟨b, o, none⟩ = some u := fun b o u hA => by
    rw [← hc.view b o u hA]
    exact hbel.cell (p := ⟨b, o, none⟩) (hAlt b o u hA)
  have hfr : ∀ B, Fr w A w' A B := fun B => ⟨hbel.os, hbel.tape, hbel.output, hbel.size, fun b hb _ => hbel.block b hb, Sub.refl A, fun _ _ _ => rfl⟩
  rcases hown.2 with ⟨rfl, hn⟩ | ⟨g, cap, cur, rfl, hg, hgb, hcap, hmax, hcur, htake⟩
  · have hes : es = [] := List.eq_nil_of_length_eq_zero hn
    refine ⟨_, fun h => if h = 0 then some ⟨none, 0, 0⟩ else none, A, .row 0, [(0, .rows T k es true)], 1, rfl, ⟨rfl, rfl, rfl⟩, Nat.zero_le _, fun h hh => absurd hh (Nat.not_lt_zero _), fun h hh => if_neg (by omega), ⟨hview, fun h => ?_, fun h h' b hl hl' hb hb' => ?_⟩, .rowNil 0 _ (.inl rfl) (if_pos rfl), (hfr _), fun b hb => ?_⟩
    · rw [get_zero]
      by_cases h0 : h = 0
      · subst h0
        rw [if_pos rfl]
        exact ⟨hs, .inl ⟨if_pos rfl, hes⟩⟩
      · rw [if_neg h0]; trivial
    · rw [get_zero] at hl hl'
      by_cases h0 : h = 0
      · subst h0
        simp [Rho.blk] at hb
      · rw [if_neg h0] at hl; cases hl
    · obtain ⟨h, hl, hb⟩ := hb
      rw [get_zero] at hl
      by_cases h0 : h = 0
      · subst h0
        simp [Rho.blk] at hb
      · rw [if_neg h0] at hl; cases hl
  · refine ⟨_, fun h => if h = 0 then some ⟨some g, es.length, cap⟩ else none, A, .row 0, [(0, .rows T k es true)], 1, rfl, ⟨rfl, rfl, rfl⟩, Nat.zero_le _, fun h hh => absurd hh (Nat.not_lt_zero _), fun h hh => if_neg (by omega), ⟨hview, fun h => ?_, fun h h' b hl hl' hb hb' => ?_⟩, .row 0 g _ cap (if_pos rfl), (hfr _), fun b hb => ?_⟩
    · rw [get_zero]
      by_cases h0 : h = 0
      · subst h0
        rw [if_pos rfl]
        refine ⟨hs, .inr ⟨g, cap, cur, if_pos rfl, hgb, hcur, hmax, hcap, fun i e he j d hd => ?_, fun o => ?_⟩⟩
        · obtain ⟨u, hu, hR⟩ := hrep i e he j d hd
          have hi := (List.getElem?_eq_some_iff.1 he).1
          have hj : j < k := by rw [← hs e (List.mem_of_getElem? he)]; exact (List.getElem?_eq_some_iff.1 hd).1
          have hlt : i * k + j < es.length * k := by
            have h5 : (i + 1) * k ≤ es.length * k := Nat.mul_le_mul_right _ hi
            rw [Nat.add_mul] at h5
            omega
          rw [← htake, List.getElem?_take, if_pos hlt] at hu
          rw [Array.getD_eq_getD_getElem?, ← Array.getElem?_toList, hu]
          exact hR
        · cases hA : A g o with
          | none => rfl
          | some u => have := hAlt g o u hA; omega
      · rw [if_neg h0]; trivial
    · rw [get_zero] at hl hl'
      by_cases h0 : h = 0
      · by_cases h0' : h' = 0
        · rw [h0, h0']
        · rw [if_neg h0'] at hl'; cases hl'
      · rw [if_neg h0] at hl; cases hl
    · obtain ⟨h, hl, hb⟩ := hb
      rw [get_zero] at hl
      by_cases h0 : h = 0
      · subst h0
        obtain rfl : g = b := by simpa [Rho.blk] using hb
        exact .inr hg
      · rw [if_neg h0] at hl; cases hl
end Go.Proofs.YtlioojekjnigiaeGreat.AM.Fo
/- Ops gathered again: slices.Collect, told as a call. -/
namespace Go.Proofs.YtlioojekjnigiaeGreat.AM.Fo
open Go.RowKit Go.Shelf Go.Sort
set_option linter.unusedVariables false
set_option linter.unusedSimpArgs false
attribute [local go_sem] Oper.semAt_some
set_option maxHeartbeats 1000000 in
theorem collect_in (F : Fence) (n : Nat) (h8 : F.fn 70) (h11 : F.fn 96) (h7 : F.fn 72) (hro : F.round = none) (hn : 4 ≤ n) (Bs ob : Nat) (sv : Value) (zs : List R6) (hreach : zs.length ≤ 1000000) (w : World) (hBs : Bs < w.heap.size)
    (hc : w.cell? ⟨Bs, ob, none⟩ = some sv) (hI : Ops6 w.heap.size w sv zs) :
    CallsIn F n Tryz.prog 70 #[.func (.func 72) #[] #[.pointer (some ⟨Bs, ob, none⟩)]] w fun e w' =>
      ∃ v, e = .returned v ∧ w'.ownsRow w.heap.size 56 6 v zs.length (zs.flatMap R6.cells) ∧ Go.RowKit.Below w.heap.size w w' := by
  have h1 : 1 ≤ n := by omega
  refine callsIn_of_wp Tryz.func70 rfl h8 ?_ hro
  simp only [Tryz.ntmps70, List.size_toArray, List.length_cons, List.length_nil, Nat.reduceAdd, Nat.reduceSub, Array.replicate_succ, Array.replicate_zero, List.push_toArray, List.append_toArray, List.nil_append, List.cons_append]
  gi_wp2_with (gi_at_call 96; refine (appendSeq_in F (n - 1) h11 h7 hro (by omega) Bs ob sv zs hreach w hBs hc hI).mono ?_; rintro e w' ⟨v, rfl, hrow, hb⟩)
  go_ret
  exact ⟨v, rfl, hrow, hb⟩
theorem flat6 : ∀ (zs : List R6) (i j : Nat) (z : R6), zs[i]? = some z → j < 6 → (zs.flatMap R6.cells)[i * 6 + j]? = z.cells[j]?
  | [], i, j, z, h, _ => by simp at h
  | a :: zs, i, j, z, h, hj => by
    rw [List.flatMap_cons]
    match i with
    | 0 =>
      obtain rfl : a = z := by simpa using h
      rw [List.getElem?_append_left (by show 0 * 6 + j < 6; omega)]
      congr 1
      omega
    | i + 1 =>
      have h' : zs[i]? = some z := by simpa using h
      rw [List.getElem?_append_right (by show 6 ≤ _; omega), show (i + 1) * 6 + j - a.cells.length = i * 6 + j from by show (i + 1) * 6 + j - 6 = _; omega]
      exact flat6 zs i j z h' hj
theorem at6_of {W : World} {b o : Nat} {z : R6} (h : ∀ j u, z.cells[j]? = some u → W.cell? ⟨b, o + j, none⟩ = some u) : At6 W b o z :=
  ⟨h 0 _ rfl, h 1 _ rfl, h 2 _ rfl, h 3 _ rfl, h 4 _ rfl, h 5 _ rfl⟩
/-- slices.Collect(slices.Values(ops)). -/
theorem collect_ok (l : List OpD) (hl : l.length ≤ 1000) : ECall Tryz.prog 70 [.fn (.func 72) [] [.dat (.ptr [.list (l.map OpD.enc)])]] [] 0 (.row 0) [(0, .rows 56 6 (l.map OpD.enc) true)] 1 := by
  refine ecall_new_row (by decide) (fun e he => by obtain ⟨x, _, rfl⟩ := List.mem_map.1 he; rfl) (by kernel_rfl) fun r A w vs hview hsz hv => ?_
  obtain ⟨v0, rfl⟩ : ∃ v0, vs = #[v0] := by
    match vs, hsz with
    | ⟨[v0]⟩, _ => exact ⟨v0, rfl⟩
  have h0 : VRel r A v0 (.fn (.func 72) [] [.dat (.ptr [.list (l.map OpD.enc)])]) := hv 0 _ rfl
  cases h0 with
  | fn f us ws xs ys hu hw hd he =>
      obtain rfl : us = #[] := Array.eq_empty_of_size_eq_zero hu
      obtain ⟨w0, rfl⟩ : ∃ w0, ws = #[w0] := by
        match ws, hw with
        | ⟨[w0]⟩, _ => exact ⟨w0, rfl⟩
      have hp : VRel r A w0 (.dat (.ptr [.list (l.map OpD.enc)])) := he 0 _ rfl
      cases hp with | dat hp =>
      cases hp with
      | ptr b off ds f ha hrr =>
        have hc0 : A b (off + 0) = some (f 0) := ha 0 (by simp)
        have hR0 : Rep A (f 0) (.list (l.map OpD.enc)) := hrr 0 _ rfl
        generalize f 0 = sv at hc0 hR0
        have hcell := hview _ _ _ hc0
        rw [Nat.add_zero] at hcell
        have hlt := cell_lt' hcell
        obtain ⟨zs, hzl, hzs, hI⟩ : ∃ zs : List R6, zs.length = l.length ∧ (∀ (i : Nat) (x : OpD), l[i]? = some x → ∃ z, zs[i]? = some z ∧ Says A z x) ∧ Ops6 w.heap.size w sv zs := by
          generalize hE : l.map OpD.enc = es at hR0
          cases hR0 with
          | list a cap sz es f hc hs ha hr =>
            by_cases hl0 : l = []
            · subst hl0
              subst hE
              exact ⟨[], rfl, fun i x h => by simp at h, .inl ⟨rfl, a, cap, rfl⟩⟩
            · have hne : es ≠ [] := by rw [← hE]; simpa using hl0
              obtain ⟨b2, off2, rfl, hA⟩ := ha hne
              have hsz6 : sz = 6 := by
                obtain ⟨x, t, rfl⟩ := List.exists_cons_of_ne_nil hl0
                rw [← hs x.enc (by rw [← hE]; simp)]
                rfl
              subst hsz6
              have hlen : es.length = l.length := by rw [← hE]; simp
              obtain ⟨zs, q1, q2⟩ := rows_of l f fun i x hx j d hd => hr i x.enc (by rw [← hE, List.getElem?_map, hx]; rfl) j d hd
              refine ⟨zs, q1, fun i x hx => let ⟨z, z1, z2, _⟩ := q2 i x hx; ⟨z, z1, z2⟩, .inr ⟨b2, off2, cap, by rw [q1, ← hlen], ?_, fun i z hz => ?_⟩⟩
              · have hp : 0 < es.length := List.length_pos_iff.2 hne
                exact cell_lt' (hview _ _ _ (hA 0 0 hp (by decide)))
              · have hi := (List.getElem?_eq_some_iff.1 hz).1
                obtain ⟨z', z1, _, z3⟩ := q2 i _ (List.getElem?_eq_getElem (by omega))
                rw [hz] at z1
                cases z1
                refine at6_of fun j u hu => ?_
                have hj : j < 6 := (List.getElem?_eq_some_iff.1 hu).1
                rw [z3 j hj] at hu
                cases hu
                exact hview _ _ _ (hA i j (by omega) hj)
        refine (callsIn_wide.1 (collect_in Fence.wide 4 trivial trivial trivial rfl (Nat.le_refl _) b off sv zs (by omega) w hlt hcell hI)).mono fun e w' ⟨v, he, hown, hb⟩ => ?_
        refine ⟨v, zs.flatMap R6.cells, he, by rw [List.length_map, ← hzl]; exact hown, hb, fun i e he j d hd => ?_⟩
        rw [List.getElem?_map, Option.map_eq_some_iff] at he
        obtain ⟨x, hx, rfl⟩ := he
        obtain ⟨z, z1, z2⟩ := hzs i x hx
        have hj : j < 6 := (List.getElem?_eq_some_iff.1 hd).1
        rw [flat6 zs i j z z1 hj]
        exact z2.2.2 j d hd
end Go.Proofs.YtlioojekjnigiaeGreat.AM.Fo
/- Ops sorted, told as a call. -/
namespace Go.Proofs.YtlioojekjnigiaeGreat.AM.Fo
open Go.Shelf Go.RowKit Go.Lib Go.Sort
set_option linter.unusedVariables false
set_option linter.unusedSimpArgs false
/-- Strings, in order, as lists. -/
theorem slt_iff {a b : ByteArray} : slt a b = true ↔ a.toList < b.toList := by unfold slt; rw [bytesLess_eq]; simp
theorem cmpS_neg {a b : ByteArray} : cmpS a b < 0 ↔ a.toList < b.toList := by
  unfold cmpS
  by_cases h : slt a b = true
  · rw [if_pos h]; exact ⟨fun _ => slt_iff.1 h, fun _ => by decide⟩
  · rw [if_neg h]
    constructor
    · intro k; split at k <;> omega
    · intro k; exact absurd (slt_iff.2 k) h
theorem cmpS_zero {a b : ByteArray} : cmpS a b = 0 ↔ a.toList = b.toList := by
  unfold cmpS
  by_cases h : slt a b = true
  · rw [if_pos h]
    constructor
    · intro k; omega
    · intro k; have := slt_iff.1 h; rw [k] at this; exact absurd this (List.lt_irrefl _)
  · rw [if_neg h]
    have h' : Op.bytesLess a.toList b.toList = false := by simpa [slt] using h
    by_cases h2 : a.toList = b.toList
    · rw [if_neg (by unfold sgt; simp [h2])]; simp [h2]
    · rw [if_pos (by unfold sgt; simp [h', h2])]; simp [h2]
theorem str_tri (a b : ByteArray) : a.toList < b.toList ∨ a.toList = b.toList ∨ b.toList < a.toList := by
  by_cases h : a.toList < b.toList
  · exact .inl h
  · by_cases h2 : b.toList < a.toList
    · exact .inr (.inr h2)
    · exact .inr (.inl (List.le_antisymm (List.not_lt.1 h2) (List.not_lt.1 h)))
/-- One op ahead of another one. -/
def OpLt (k v k' v' : ByteArray) : Prop := k.toList < k'.toList ∨ k.toList = k'.toList ∧ v.toList < v'.toList
theorem cmpO_neg {x y : R6} : cmpO x y < 0 ↔ OpLt x.key x.val y.key y.val := by
  unfold cmpO OpLt
  by_cases h : cmpS x.key y.key = 0
  · rw [if_pos h, cmpS_neg]
    have := cmpS_zero.1 h
    constructor
    · intro k; exact .inr ⟨this, k⟩
    · rintro (k | k)
      · rw [this] at k; exact absurd k (List.lt_irrefl _)
      · exact k.2
  · rw [if_neg h, cmpS_neg]
    constructor
    · intro k; exact .inl k
    · rintro (k | k)
      · exact k
      · exact absurd (cmpS_zero.2 k.1) h
theorem opLt_irrefl (k v : ByteArray) : ¬ OpLt k v k v := by
  rintro (h | h)
  · exact List.lt_irrefl _ h
  · exact List.lt_irrefl _ h.2
theorem opLt_trans {a b c d e f : ByteArray} (h : OpLt a b c d) (k : OpLt c d e f) : OpLt a b e f := by
  rcases h with h | ⟨h1, h2⟩ <;> rcases k with k | ⟨k1, k2⟩
  · exact .inl (List.lt_trans h k)
  · exact .inl (k1 ▸ h)
  · exact .inl (h1 ▸ k)
  · exact .inr ⟨h1.trans k1, List.lt_trans h2 k2⟩
theorem opLt_tri (a b c d : ByteArray) : OpLt a b c d ∨ (a.toList = c.toList ∧ b.toList = d.toList) ∨ OpLt c d a b := by
  rcases str_tri a c with h | h | h
  · exact .inl (.inl h)
  · rcases str_tri b d with k | k | k
    · exact .inl (.inr ⟨h, k⟩)
    · exact .inr (.inl ⟨h, k⟩)
    · exact .inr (.inr (.inr ⟨h.symm, k⟩))
  · exact .inr (.inr (.inl h))
abbrev P2 := R6 × OpD
instance : Inhabited P2 := ⟨⟨⟨0, 0, 0, ByteArray.empty, ByteArray.empty, none, 0, 0⟩, ⟨⟨0, 0⟩, 0, ByteArray.empty, ByteArray.empty, []⟩⟩⟩
def encP (p : P2) : List Value := p.1.cells
def cmpP (p q : P2) : Int := cmpO p.1 q.1
theorem ltP_iff {p q : P2} : ltOf cmpP p q = true ↔ OpLt p.1.key p.1.val q.1.key q.1.val := by
  unfold ltOf cmpP
  rw [decide_eq_true_eq]
  exact cmpO_neg
theorem swoP : SWO (ltOf cmpP) where
  irrefl x := by rw [Bool.eq_false_iff, ne_eq, ltP_iff]; exact opLt_irrefl _ _
  trans x y z h1 h2 := by rw [ltP_iff] at *; exact opLt_trans h1 h2
  ntrans x y z h1 h2 := by
    rw [Bool.eq_false_iff, ne_eq, ltP_iff] at *
    intro h
    rcases opLt_tri x.1.key x.1.val y.1.key y.1.val with k | ⟨k1, k2⟩ | k
    · exact h1 k
    · refine h2 ?_
      unfold OpLt at h ⊢
      rw [← k1, ← k2]
      exact h
    · exact h2 (opLt_trans k h)
/-- Sorted, whichever of two like ones comes first. -/
def SortedOf (l l' : List OpD) : Prop := l'.Perm l ∧ l'.Pairwise fun a b => ¬ OpLt b.key b.val a.key a.val
def sortOpLay_ren : Go.Shelf.Ren := ⟨fun | 6 => 71 | 15 => 98 | 14 => 97 | 28 => 122 | 29 => 123 | 20 => 114 | 21 => 115 | 22 => 116 | 23 => 117 | 24 => 118 | 25 => 119 | 26 => 120 | 27 => 121 | 46 => 137 | 47 => 138 | 48 => 139 | 49 => 140 | 50 => 141 | 57 => 146 | n => n, fun | 22 => 52 | 24 => 56 | 25 => 94 | 3 => 3 | 39 => 135 | 0 => 0 | 53 => 151 | 55 => 153 | 4 => 4 | 46 => 144 | 45 => 143 | 50 => 148 | 5 => 5 | 9 => 9 | 66 => 164 | 70 => 168 | 76 => 172 | 77 => 173 | n => n, fun | n => n⟩
theorem sortOpLay : Go.Proofs.SlLaysF0.n6 Tryz.prog sortOpLay_ren := {
  mixed := by kernel_rfl
  f6 := ⟨Tryz.f71.name, by decide, Tryz.func71.trans (congrArg some (by kernel_rfl))⟩
  f14 := ⟨Tryz.f97.name, by decide, Tryz.func97.trans (congrArg some (by kernel_rfl))⟩
  f15 := Tryz.func98.trans (congrArg some (by kernel_rfl))
  f20 := ⟨Tryz.f114.name, by decide, Tryz.func114.trans (congrArg some (by kernel_rfl))⟩
  f21 := ⟨Tryz.f115.name, by decide, Tryz.func115.trans (congrArg some (by kernel_rfl))⟩
  f22 := ⟨Tryz.f116.name, by decide, Tryz.func116.trans (congrArg some (by kernel_rfl))⟩
  f23 := ⟨Tryz.f117.name, by decide, Tryz.func117.trans (congrArg some (by kernel_rfl))⟩
  f24 := ⟨Tryz.f118.name, by decide, Tryz.func118.trans (congrArg some (by kernel_rfl))⟩
  f25 := ⟨Tryz.f119.name, by decide, Tryz.func119.trans (congrArg some (by kernel_rfl))⟩
  f26 := ⟨Tryz.f120.name, by decide, Tryz.func120.trans (congrArg some (by kernel_rfl))⟩
  f27 := ⟨Tryz.f121.name, by decide, Tryz.func121.trans (congrArg some (by kernel_rfl))⟩
  f28 := Tryz.func122.trans (congrArg some (by kernel_rfl))
  f29 := Tryz.func123.trans (congrArg some (by kernel_rfl))
  f46 := ⟨Tryz.f137.name, by decide, Tryz.func137.trans (congrArg some (by kernel_rfl))⟩
  f47 := Tryz.func138.trans (congrArg some (by kernel_rfl))
  f48 := Tryz.func139.trans (congrArg some (by kernel_rfl))
  f49 := ⟨Tryz.f140.name, by decide, Tryz.func140.trans (congrArg some (by kernel_rfl))⟩
  f50 := ⟨Tryz.f141.name, by decide, Tryz.func141.trans (congrArg some (by kernel_rfl))⟩
  f57 := ⟨Tryz.f146.name, by decide, Tryz.func146.trans (congrArg some (by kernel_rfl))⟩
  t0 := Tryz.underlying0
  a0 := Tryz.isAgg0
  z0 := Tryz.sizeOf0
  v0 := Tryz.zeroValue0
  t3 := Tryz.underlying3
  a3 := Tryz.isAgg3
  z3 := Tryz.sizeOf3
  v3 := Tryz.zeroValue3
  t4 := Tryz.underlying4
  a4 := Tryz.isAgg4
  z4 := Tryz.sizeOf4
  v4 := Tryz.zeroValue4
  t5 := Tryz.underlying5
  a5 := Tryz.isAgg5
  z5 := Tryz.sizeOf5
  v5 := Tryz.zeroValue5
  t9 := Tryz.underlying9
  a9 := Tryz.isAgg9
  z9 := Tryz.sizeOf9
  v9 := Tryz.zeroValue9
  t22 := Tryz.underlying52
  a22 := Tryz.isAgg52
  z22 := Tryz.sizeOf52
  v22 := Tryz.zeroValue52
  t25 := Tryz.underlying94
  a25 := Tryz.isAgg94
  z25 := Tryz.sizeOf94
  v25 := Tryz.zeroValue94
  t39 := Tryz.underlying135
  a39 := Tryz.isAgg135
  z39 := Tryz.sizeOf135
  v39 := Tryz.zeroValue135
  t45 := Tryz.underlying143
  a45 := Tryz.isAgg143
  z45 := Tryz.sizeOf143
  v45 := Tryz.zeroValue143
  t46 := Tryz.underlying144
  a46 := Tryz.isAgg144
  z46 := Tryz.sizeOf144
  v46 := Tryz.zeroValue144
  t50 := Tryz.underlying148
  a50 := Tryz.isAgg148
  z50 := Tryz.sizeOf148
  v50 := Tryz.zeroValue148
  t53 := Tryz.underlying151
  a53 := Tryz.isAgg151
  z53 := Tryz.sizeOf151
  v53 := Tryz.zeroValue151
  t55 := Tryz.underlying153
  a55 := Tryz.isAgg153
  z55 := Tryz.sizeOf153
  v55 := Tryz.zeroValue153
  t66 := Tryz.underlying164
  a66 := Tryz.isAgg164
  z66 := Tryz.sizeOf164
  v66 := Tryz.zeroValue164
  t70 := Tryz.underlying168
  a70 := Tryz.isAgg168
  z70 := Tryz.sizeOf168
  v70 := Tryz.zeroValue168
  t76 := Tryz.underlying172
  a76 := Tryz.isAgg172
  z76 := Tryz.sizeOf172
  v76 := Tryz.zeroValue172
  t77 := Tryz.underlying173
  a77 := Tryz.isAgg173
  z77 := Tryz.sizeOf173
  v77 := Tryz.zeroValue173 }
end Go.Proofs.YtlioojekjnigiaeGreat.AM.Fo
/- Ops sorted, told as a call: the call. -/
namespace Go.Proofs.YtlioojekjnigiaeGreat.AM.Fo
open Go.Shelf Go.RowKit Go.Lib Go.Sort
set_option linter.unusedVariables false
set_option linter.unusedSimpArgs false
theorem getBang {α : Type} [Inhabited α] {a : Array α} {i : Nat} {x : α} (h : a.toList[i]? = some x) : a[i]! = x := by
  have h2 : a[i]? = some x := by rw [← Array.getElem?_toList]; exact h
  obtain ⟨hlt, e⟩ := Array.getElem?_eq_some_iff.1 h2
  rw [getElem!_pos a i hlt]
  exact e
theorem six {x : List Value} {j : Nat} {v : Value} (h : x[j]? = some v) : x[j]! = v := by
  obtain ⟨hlt, e⟩ := List.getElem?_eq_some_iff.1 h
  rw [getElem!_pos x j hlt]
  exact e
/-- slices.SortFunc of ops. -/
theorem sortOps_ok (l : List OpD) (hl : l.length ≤ 1000) : ACall Tryz.prog 71 [.row 0, .fn (.func 45) [] []] [(0, .rows 56 6 (l.map OpD.enc) true)] 1
    fun x H' n' => ∃ l', SortedOf l l' ∧ x = .tup [] ∧ H' = [(0, .rows 56 6 (l'.map OpD.enc) true)] ∧ n' = 1 := by
  refine ⟨by kernel_rfl, fun r A w vs hr hc hs hv => ?_⟩
  obtain ⟨v0, v1, rfl⟩ : ∃ v0 v1, vs = #[v0, v1] := by
    match vs, hs with
    | ⟨[v0, v1]⟩, _ => exact ⟨v0, v1, rfl⟩
  have h0 : VRel r A v0 (.row 0) := hv 0 _ rfl
  have h1 : VRel r A v1 (.fn (.func 45) [] []) := hv 1 _ rfl
  obtain rfl : v1 = .func (.func 45) #[] #[] := by
    cases h1 with
    | fn _ xs ys _ _ hx hy _ _ =>
      have e1 : xs = #[] := Array.eq_empty_of_size_eq_zero hx
      have e2 : ys = #[] := Array.eq_empty_of_size_eq_zero hy
      rw [e1, e2]
  have hent := hc.ent 0
  rw [get_one, if_pos rfl] at hent
  have eg : ∀ args w, (callFunc 45 args).run Tryz.prog w = .ok (.enter 45 args) w := enters_of Tryz.func45 (by kernel_rfl) rfl
  have none_case : l = [] → ∀ p cap, v0 = .slice p 0 cap → Calls Tryz.prog 71 #[v0, .func (.func 45) #[] #[]] w fun e w' => ∃ v r' A' x H' n', e = .returned v ∧ (∃ l', SortedOf l l' ∧ x = .tup [] ∧ H' = [(0, .rows 56 6 (l'.map OpD.enc) true)] ∧ n' = 1) ∧ 1 ≤ n' ∧ (∀ h, h < 1 → r' h = r h) ∧ (∀ h, n' ≤ h → r' h = none) ∧ Core r' A' w' (Heap.get H') ∧ VRel r' A' v x ∧ Fr w A w' A' (LiveB r (Heap.get [(0, .rows 56 6 (l.map OpD.enc) true)])) ∧ ∀ b, LiveB r' (Heap.get H') b → LiveB r (Heap.get [(0, .rows 56 6 (l.map OpD.enc) true)]) b ∨ w.heap.size ≤ b := fun hl0 p cap hv0 => by
    subst hv0
    refine (AnyF.slices_SortFunc_none { sortOpLay with } p cap _ w).mono fun e w' he => ?_
    obtain ⟨rfl, rfl⟩ := he
    exact ⟨.tuple #[], r, A, .tup [], _, 1, rfl, ⟨l, ⟨List.Perm.refl _, by rw [hl0]; exact List.Pairwise.nil⟩, rfl, rfl, rfl⟩, Nat.le_refl _, fun _ _ => rfl, hr, hc, .tup #[] [] rfl (by simp), Fr.refl _ _ _, fun b hb => .inl hb⟩
  cases h0 with
  | rowNil _ a ha hb =>
    obtain ⟨_, ⟨_, h2⟩ | ⟨b, cap, cells, e1, _⟩⟩ := hent
    · exact none_case (by simpa using h2) a 0 rfl
    · rw [hb] at e1; cases e1
  | row _ b n cap hb =>
    obtain ⟨k0, ⟨h2, _⟩ | ⟨b', cap', cells, e1, e2, e3, e4, e5, e6, e7⟩⟩ := hent
    · rw [hb] at h2; cases h2
    · rw [hb] at e1
      simp only [Option.some.injEq, Loc.mk.injEq] at e1
      obtain ⟨rfl, rfl, rfl⟩ := e1
      by_cases hl0 : l = []
      · exact none_case hl0 _ _ (by rw [hl0]; rfl)
      rw [List.length_map] at e5 ⊢
      have hlt := heap_lt e2
      have hle : l.length * 6 ≤ cells.size := by rw [e3]; exact Nat.mul_le_mul_right _ e5
      obtain ⟨zs, q1, q2⟩ := rows_of (A := A) l (fun i j => cells.getD (i * 6 + j) undef) fun i x hx j d hd => e6 i x.enc (by rw [List.getElem?_map, hx]; rfl) j d hd
      obtain ⟨ps, hps⟩ : ∃ ps : List P2, ps = zs.zip l := ⟨_, rfl⟩
      have hpl : ps.length = l.length := by rw [hps, List.length_zip, q1, Nat.min_self]
      have hp2 : ps.map (·.2) = l := by rw [hps, List.map_snd_zip]; omega
      have hpi : ∀ (i : Nat) (p : P2), ps[i]? = some p → Says A p.1 p.2 ∧ ∀ j, j < 6 → p.1.cells[j]? = some (cells.getD (i * 6 + j) undef) := fun i p hp => by
        rw [hps, List.getElem?_zip_eq_some] at hp
        obtain ⟨z, z1, z2, z3⟩ := q2 i p.2 hp.2
        rw [hp.1] at z1
        cases z1
        exact ⟨z2, z3⟩
      have hsays : ∀ p ∈ ps, Says A p.1 p.2 := fun p hp => by
        obtain ⟨i, hi⟩ := List.mem_iff_getElem?.1 hp
        exact (hpi i p hi).1
      have hH : HoldsK encP 6 w b 0 ps.toArray := fun j hj => by
        rw [size_flatK] at hj
        have hj : j < ps.length * 6 := by simpa using hj
        have hjc : j < cells.size := by omega
        have hi : j / 6 < ps.length := Nat.div_lt_of_lt_mul (by rw [Nat.mul_comm]; exact hj)
        have hm : j % 6 < 6 := Nat.mod_lt _ (by decide)
        have hpe : ps[j / 6]? = some ps[j / 6] := List.getElem?_eq_getElem hi
        have hv2 := (hpi _ _ hpe).2 (j % 6) hm
        rw [Nat.mul_comm, Nat.div_add_mod] at hv2
        rw [Nat.zero_add]
        refine ⟨?_, ?_⟩
        · rw [cell_of e2 (getD_some hjc undef)]
          congr 1
          rw [get_flatK encP 6 ps.toArray j (by simpa using hj), getBang (a := ps.toArray) (x := ps[j / 6]) hpe]
          exact (six hv2).symm
        · simp [World.frozen?, e2]
      have hsort := AnyQ.slices_SortFunc sortOpLay 6 Tryz.isAgg56 Tryz.sizeOf56 encP (fun _ => rfl) (fun x v hv => cells_one6 x.1 v hv) cmpP swoP 45 #[] b 0 cap ps.toArray w eg (fun _ _ _ _ x y => compare_any x.1 y.1 _) hH hlt (by simp; omega)
      have hsz : ps.toArray.size = l.length := by simpa using hpl
      rw [hsz] at hsort
      refine hsort.mono fun e w' he => ?_
      obtain ⟨rfl, d', n, os, hperm, hsorted, rfl⟩ := he
      have hds : d'.size = l.length := by rw [hperm.1, hsz]
      have hD : d'.toList.Perm ps := by
        have := hperm.2.2
        rw [Array.extract_eq_self_of_le (by omega), Array.extract_eq_self_of_le (by omega)] at this
        exact this
      have hsaysD : ∀ p ∈ d'.toList, Says A p.1 p.2 := fun p hp => hsays p (hD.mem_iff.1 hp)
      have hlen' : (d'.toList.map (·.2)).length = l.length := by simp [hds]
      have hso : SortedOf l (d'.toList.map (·.2)) := by
        refine ⟨by rw [← hp2]; exact hD.map _, ?_⟩
        rw [List.pairwise_map]
        refine List.pairwise_iff_getElem.2 fun i j hi hj hij => ?_
        have hi2 : i < d'.size := by simpa using hi
        have hj2 : j < d'.size := by simpa using hj
        have := hsorted i j (Nat.zero_le _) hij (by omega)
        rw [Bool.eq_false_iff, ne_eq, ltP_iff, getElem!_pos d' i hi2, getElem!_pos d' j hj2] at this
        have k1 := hsaysD _ (List.getElem_mem hi)
        have k2 := hsaysD _ (List.getElem_mem hj)
        simp only [Array.getElem_toList] at k1 k2 ⊢
        rw [← k1.1, ← k1.2.1, ← k2.1, ← k2.2.1]
        exact this
      generalize hF : flatK encP 6 d' = F
      have hFs : F.size = l.length * 6 := by rw [← hF]; simp [hds]
      have hb' : (sortWorldK encP 6 w b 0 n d' os).heap[b]? = some (.cells (putCells id 0 F cells) 56 (0, 0)) := by
        show ((w.heap.modify b (onCells (putCells id 0 (flatK encP 6 d')))) ++ os)[b]? = _
        rw [Array.getElem?_append_left (by simpa using hlt), Array.getElem?_modify, if_pos rfl, e2, hF]
        rfl
      have ho : ∀ x, x < w.heap.size → x ≠ b → (sortWorldK encP 6 w b 0 n d' os).heap[x]? = w.heap[x]? := fun x hx hne => by
        show ((w.heap.modify b (onCells (putCells id 0 (flatK encP 6 d')))) ++ os)[x]? = _
        rw [Array.getElem?_append_left (by simpa using hx), Array.getElem?_modify, if_neg (Ne.symm hne)]
      have hfr : Fr w A (sortWorldK encP 6 w b 0 n d' os) A (fun x => x = b) := by
        refine ⟨rfl, rfl, rfl, ?_, fun x hx hne => ho x hx hne, Sub.refl A, fun _ _ _ => rfl⟩
        show w.heap.size ≤ ((w.heap.modify b (onCells (putCells id 0 (flatK encP 6 d')))) ++ os).size
        simp
      have hlive : LiveB r (Heap.get [(0, .rows 56 6 (l.map OpD.enc) true)]) b := ⟨0, rfl, by simp [Rho.blk, hb]⟩
      refine ⟨.tuple #[], r, A, .tup [], _, 1, rfl, ⟨_, hso, rfl, rfl, rfl⟩, Nat.le_refl _, fun _ _ => rfl, hr, ⟨fun b2 o v hA => ?_, fun h => ?_, fun h h' b2 hl hl' _ _ => ?_⟩, .tup #[] [] rfl (by simp), hfr.weaken fun x hx => by rw [hx]; exact hlive, fun b2 hb2 => ?_⟩
      · have hv3 := hc.view b2 o v hA
        have hne : b2 ≠ b := fun e => by rw [e, e7] at hA; cases hA
        rw [← hv3]
        exact World.cell?_of_block (w := w) (ho b2 (cell_lt' hv3) hne)
      · rw [get_one]
        by_cases hh : h = 0
        · subst hh
          rw [if_pos rfl]
          refine ⟨fun e he => ?_, .inr ⟨b, cap, putCells id 0 F cells, ?_, hb', ?_, e4, ?_, fun i e he j d hd => ?_, e7⟩⟩
          · obtain ⟨x, _, rfl⟩ := List.mem_map.1 he
            rfl
          · rw [hb, List.length_map, List.length_map, hlen']
          · simp [putCells, e3]
          · rw [List.length_map, hlen']; exact e5
          · rw [List.getElem?_map, Option.map_eq_some_iff] at he
            obtain ⟨x, hx, rfl⟩ := he
            rw [List.getElem?_map, Option.map_eq_some_iff] at hx
            obtain ⟨p, hp, rfl⟩ := hx
            obtain ⟨hi, hpe⟩ := List.getElem?_eq_some_iff.1 hp
            have hi : i < l.length := by rw [← hds]; simpa using hi
            have hj : j < 6 := (List.getElem?_eq_some_iff.1 hd).1
            obtain ⟨v, hv1, hv2⟩ := (hsaysD p (List.mem_of_getElem? hp)).2.2 j d hd
            have hlt2 : i * 6 + j < l.length * 6 := by omega
            have hval : (putCells id 0 F cells).getD (i * 6 + j) undef = v := by
              have hcs : i * 6 + j < (putCells id 0 F cells).size := by simp [putCells]; omega
              rw [Array.getD_eq_getD_getElem?, Array.getElem?_eq_getElem hcs, Option.getD_some]
              simp only [putCells, Array.getElem_mapIdx]
              rw [if_pos ⟨Nat.zero_le _, by omega⟩, Nat.sub_zero, ← hF]
              show (flatK encP 6 d')[i * 6 + j]! = _
              rw [get_flatK encP 6 d' _ (by rw [hds]; exact hlt2)]
              have hdiv : (i * 6 + j) / 6 = i := by omega
              have hmod : (i * 6 + j) % 6 = j := by omega
              rw [hdiv, hmod, getBang hp]
              exact six hv1
            rw [hval]
            exact hv2
        · rw [if_neg hh]; trivial
      · rw [get_one] at hl hl'
        by_cases hh : h = 0
        · by_cases hh' : h' = 0
          · rw [hh, hh']
          · rw [if_neg hh'] at hl'; cases hl'
        · rw [if_neg hh] at hl; cases hl
      · obtain ⟨h, hl, hb3⟩ := hb2
        rw [get_one] at hl
        by_cases hh : h = 0
        · subst hh
          exact .inl ⟨0, rfl, hb3⟩
        · rw [if_neg hh] at hl; cases hl
end Go.Proofs.YtlioojekjnigiaeGreat.AM.Fo
/- Ids and entries: what may stand there. -/
namespace Go.Proofs.YtlioojekjnigiaeGreat.AM
set_option linter.unusedVariables false
set_option linter.unusedSimpArgs false

theorem Ret.to {y x : AVal} (h : y = x) : Ret y x := ⟨h⟩
theorem between_ok (n a b : Int) : PCall Tryz.prog 29 [dInt n, dInt a, dInt b] (dBool (decide (a ≤ n) && decide (n ≤ b))) := by
  refine pcall_intro tab_all tab_mixed Tryz.func29 (by kernel_rfl) Tryz.ntmps29 rfl ?_
  conv => whnf
  refine ⟨fun h => ?_, fun h => ?_⟩
  · conv => whnf
    exact Ret.bool (by simp [h])
  · conv => whnf
    exact Ret.bool (by simp [h])
def Id.ok (x : Id) : Bool := decide (0 ≤ x.r) && decide (x.r ≤ 1) && (decide (1 ≤ x.n) && decide (x.n ≤ 20))
theorem refIsId_ok (x : Id) : PCall Tryz.prog 54 [x.arg] (dBool x.ok) := by
  refine pcall_intro tab_all tab_mixed Tryz.func54 (by kernel_rfl) Tryz.ntmps54 rfl ?_
  conv => whnf
  refine .look _ _ (between_ok _ _ _) rfl rfl ?_
  conv => whnf
  refine ⟨fun h => ?_, fun h => ?_⟩
  · conv => whnf
    refine .look _ _ (between_ok _ _ _) rfl rfl ?_
    conv => whnf
    exact Ret.bool (by simp only [Id.ok, h, Bool.true_and])
  · conv => whnf
    exact Ret.bool (by simp only [Id.ok, h, Bool.false_and])
theorem isId_ok (x : Id) : PCall Tryz.prog 80 [x.arg] (dBool x.ok) := by
  refine pcall_intro tab_all tab_mixed Tryz.func80 (by kernel_rfl) Tryz.ntmps80 rfl ?_
  conv => whnf
  refine .look _ _ (isRegion_ok _) rfl rfl ?_
  conv => whnf
  have hr : ∀ r : Int, (decide (r = 0) || decide (r = 1)) = (decide (0 ≤ r) && decide (r ≤ 1)) := fun r => by
    rw [Bool.eq_iff_iff]; simp; omega
  rw [hr]
  refine ⟨fun h => ?_, fun h => ?_⟩
  · conv => whnf
    refine ⟨fun h => ?_, fun h => ?_⟩
    · rename_i h1
      conv => whnf
      exact Ret.bool (by simp only [Id.ok, h1, h, Bool.true_and])
    · rename_i h1
      conv => whnf
      exact Ret.bool (by simp only [Id.ok, h1, h, Bool.true_and, Bool.false_and])
  · conv => whnf
    exact Ret.bool (by simp only [Id.ok, h, Bool.false_and])
theorem isAhead_ok (a b : Id) : PCall Tryz.prog 55 [a.arg, b.arg] (dBool (a.less b)) := by
  refine pcall_intro tab_all tab_mixed Tryz.func55 (by kernel_rfl) Tryz.ntmps55 rfl ?_
  conv => whnf
  refine ⟨fun h => ?_, fun h => ?_⟩
  · conv => whnf
    refine Ret.bool ?_
    have h : a.r < b.r := by simpa using h
    simp [Id.less, show a.r ≠ b.r by omega, h]
  · conv => whnf
    have h : ¬ a.r < b.r := by simpa using h
    refine ⟨fun h2 => ?_, fun h2 => ?_⟩
    · have h2 : a.r = b.r := by simpa using h2
      conv => whnf
      refine Ret.bool ?_
      simp [Id.less, h2]
    · have h2 : a.r ≠ b.r := by simpa using h2
      conv => whnf
      refine Ret.bool ?_
      simp [Id.less, h2, h]
end Go.Proofs.YtlioojekjnigiaeGreat.AM
/- Entries: what is wrong with one. -/
namespace Go.Proofs.YtlioojekjnigiaeGreat.AM
set_option linter.unusedVariables false
set_option linter.unusedSimpArgs false

/-- What is wrong with links, the last one ahead of them being known. -/
def linksErr (own : Id) : Option Id → List Id → Int
  | _, [] => 0
  | p, x :: t => if x.ok = false then 3 else if (match p with
      | some y => !y.less x
      | none => false) = true then 4 else if x.r = own.r ∧ own.n ≤ x.n then 4 else linksErr own (some x) t
def prevOf (l : List Id) (i : Nat) : Option Id := match i with
  | 0 => none
  | i + 1 => l[i]?
theorem AtIdx.ofMap' {α : Type} {enc : α → List D} {l : List α} {n : Int} (i : Nat) {sz : Nat} {k : Nat → List D → Prop} (hn : n = (i : Int)) (h : i < l.length) (hl : (enc l[i]).length = sz) (hk : k i (enc l[i])) : AtIdx n (l.map enc) sz k :=
  .mk i (enc l[i]) hn (by simp [h]) hl hk
theorem wrap_down {i : Nat} (h0 : 0 < i) (h : i ≤ 140737488355328) : IntKind.i64.wrap ((i : Int) - 1) = ((i - 1 : Nat) : Int) := by
  rw [wrap_id (by omega) (by omega)]
  omega
theorem prevOf_pos {l : List Id} {i : Nat} (h0 : 0 < i) (h : i - 1 < l.length) : prevOf l i = some l[i - 1] := by
  cases i with
  | zero => omega
  | succ i => simp [prevOf] at h ⊢
set_option maxHeartbeats 0 in
theorem checkLinks_ok (own : Id) (l : List Id) (hl : l.length ≤ 140737488355328) : PCall Tryz.prog 81 [own.arg, .dat (.list (l.map Id.enc))] (dInt (linksErr own none l)) := by
  refine pcall_intro tab_all tab_mixed Tryz.func81 (by kernel_rfl) Tryz.ntmps81 rfl ?_
  conv => whnf
  refine LoopOk.mk (fun m s => ∃ i, i + m = l.length ∧ linksErr own none l = linksErr own (prevOf l i) (l.drop i) ∧ s = ⟨[(9, dInt i), (8, dInt (l.map Id.enc).length), (7, .dat (.list (l.map Id.enc))), (1, .dat (.list (l.map Id.enc))), (2, .ptr 0 0)], 1, [(0, .vars 45 2 [dInt own.r, dInt own.n] true)]⟩) l.length (Into.mono (Into.to [0] [(9, dInt (0 : Nat)), (8, dInt (l.map Id.enc).length), (7, .dat (.list (l.map Id.enc))), (1, .dat (.list (l.map Id.enc))), (2, .ptr 0 0)] [(0, .vars 45 2 [dInt own.r, dInt own.n] true)] (by repeat (first | exact trivial | refine ⟨.same (congrArg dInt (wrap_up (by omega))), ?_⟩ | refine ⟨.same rfl, ?_⟩ | refine ⟨.any _, ?_⟩)) ⟨⟨rfl, rfl, rfl, .same rfl, rfl, .same rfl, rfl, trivial⟩, trivial⟩ rfl rfl) fun s' h => ⟨0, by omega, rfl, h⟩) ?_
  rintro m s ⟨i, hi, hp, rfl⟩
  conv => whnf
  refine SeqOk.go ?_
  conv => whnf
  refine ⟨fun h => ?_, fun h => ?_⟩
  · conv => whnf
    have hi' : i < l.length := by simpa using h
    rw [List.drop_eq_getElem_cons hi'] at hp
    have hn : prevOf l (i + 1) = some l[i] := by simp [prevOf, hi']
    refine AtIdx.ofMap hi' rfl ?_
    conv => whnf
    refine .look _ _ (isId_ok l[i]) rfl rfl ?_
    conv => whnf
    (first | (refine SeqOk.go ?_; conv => whnf) | skip)
    refine ⟨fun h1 => ?_, fun h1 => ?_⟩
    · conv => whnf
      refine Ret.int ?_
      rw [hp]
      have h1 : l[i].ok = false := by simpa using h1
      simp [linksErr, h1]
    · have h1 : l[i].ok = true := by simpa using h1
      conv => whnf
      refine ⟨fun h2 => ?_, fun h2 => ?_⟩
      · have h2 : 0 < i := by simpa using h2
        have hv := prevOf_pos h2 (show i - 1 < l.length by omega)
        conv => whnf
        refine AtIdx.ofMap' (i - 1) (wrap_down h2 (by omega)) (by omega) rfl ?_
        conv => whnf
        refine .look _ _ (less_ok l[i - 1] l[i]) rfl rfl ?_
        conv => whnf
        refine ⟨by kernel_rfl, ?_⟩
        conv => whnf
        (first | (refine SeqOk.go ?_; conv => whnf) | skip)
        refine ⟨fun h3 => ?_, fun h3 => ?_⟩
        · conv => whnf
          refine Ret.int ?_
          have h3 : l[i - 1].less l[i] = false := by simpa using h3
          rw [hp]
          simp [linksErr, h1, hv, h3]
        · have h3 : l[i - 1].less l[i] = true := by simpa using h3
          conv => whnf
          (first | (refine SeqOk.go ?_; conv => whnf) | skip)
          refine ⟨fun h4 => ?_, fun h4 => ?_⟩
          · conv => whnf
            have h4 : l[i].r = own.r := by simpa using h4
            refine ⟨fun h5 => ?_, fun h5 => ?_⟩
            · conv => whnf
              refine Ret.int ?_
              have h5 : own.n ≤ l[i].n := by simpa using h5
              rw [hp]
              simp [linksErr, h1, hv, h3, h4, h5]
            · conv => whnf
              have h5 : ¬ own.n ≤ l[i].n := by simpa using h5
              refine Into.mono (Into.to [0] [(9, dInt (i + 1 : Nat)), (8, dInt (l.map Id.enc).length), (7, .dat (.list (l.map Id.enc))), (1, .dat (.list (l.map Id.enc))), (2, .ptr 0 0)] [(0, .vars 45 2 [dInt own.r, dInt own.n] true)] (by repeat (first | exact trivial | refine ⟨.same (congrArg dInt (wrap_up (by omega))), ?_⟩ | refine ⟨.same rfl, ?_⟩ | refine ⟨.any _, ?_⟩)) ⟨⟨rfl, rfl, rfl, .same rfl, rfl, .same rfl, rfl, trivial⟩, trivial⟩ rfl rfl) fun s' h => ⟨m - 1, by omega, i + 1, by omega, ?_, h⟩
              rw [hp]
              simp [linksErr, h1, hv, h3, h4, h5, hn]
          · conv => whnf
            have h4 : ¬ l[i].r = own.r := by simpa using h4
            refine Into.mono (Into.to [0] [(9, dInt (i + 1 : Nat)), (8, dInt (l.map Id.enc).length), (7, .dat (.list (l.map Id.enc))), (1, .dat (.list (l.map Id.enc))), (2, .ptr 0 0)] [(0, .vars 45 2 [dInt own.r, dInt own.n] true)] (by repeat (first | exact trivial | refine ⟨.same (congrArg dInt (wrap_up (by omega))), ?_⟩ | refine ⟨.same rfl, ?_⟩ | refine ⟨.any _, ?_⟩)) ⟨⟨rfl, rfl, rfl, .same rfl, rfl, .same rfl, rfl, trivial⟩, trivial⟩ rfl rfl) fun s' h => ⟨m - 1, by omega, i + 1, by omega, ?_, h⟩
            rw [hp]
            simp [linksErr, h1, hv, h3, h4, hn]
      · have h2 : i = 0 := by simpa using h2
        have hv : prevOf l i = none := by rw [h2]; rfl
        conv => whnf
        refine ⟨by kernel_rfl, ?_⟩
        conv => whnf
        (first | (refine SeqOk.go ?_; conv => whnf) | skip)
        refine ⟨fun h4 => ?_, fun h4 => ?_⟩
        · conv => whnf
          have h4 : l[i].r = own.r := by simpa using h4
          refine ⟨fun h5 => ?_, fun h5 => ?_⟩
          · conv => whnf
            refine Ret.int ?_
            have h5 : own.n ≤ l[i].n := by simpa using h5
            rw [hp]
            simp [linksErr, h1, hv, h4, h5]
          · conv => whnf
            have h5 : ¬ own.n ≤ l[i].n := by simpa using h5
            refine Into.mono (Into.to [0] [(9, dInt (i + 1 : Nat)), (8, dInt (l.map Id.enc).length), (7, .dat (.list (l.map Id.enc))), (1, .dat (.list (l.map Id.enc))), (2, .ptr 0 0)] [(0, .vars 45 2 [dInt own.r, dInt own.n] true)] (by repeat (first | exact trivial | refine ⟨.same (congrArg dInt (wrap_up (by omega))), ?_⟩ | refine ⟨.same rfl, ?_⟩ | refine ⟨.any _, ?_⟩)) ⟨⟨rfl, rfl, rfl, .same rfl, rfl, .same rfl, rfl, trivial⟩, trivial⟩ rfl rfl) fun s' h => ⟨m - 1, by omega, i + 1, by omega, ?_, h⟩
            rw [hp]
            simp [linksErr, h1, hv, h4, h5, hn]
        · conv => whnf
          have h4 : ¬ l[i].r = own.r := by simpa using h4
          refine Into.mono (Into.to [0] [(9, dInt (i + 1 : Nat)), (8, dInt (l.map Id.enc).length), (7, .dat (.list (l.map Id.enc))), (1, .dat (.list (l.map Id.enc))), (2, .ptr 0 0)] [(0, .vars 45 2 [dInt own.r, dInt own.n] true)] (by repeat (first | exact trivial | refine ⟨.same (congrArg dInt (wrap_up (by omega))), ?_⟩ | refine ⟨.same rfl, ?_⟩ | refine ⟨.any _, ?_⟩)) ⟨⟨rfl, rfl, rfl, .same rfl, rfl, .same rfl, rfl, trivial⟩, trivial⟩ rfl rfl) fun s' h => ⟨m - 1, by omega, i + 1, by omega, ?_, h⟩
          rw [hp]
          simp [linksErr, h1, hv, h4, hn]
  · conv => whnf
    have hi' : l.length ≤ i := by simpa using h
    refine Ret.int ?_
    rw [hp, List.drop_eq_nil_of_le hi']
    rfl
end Go.Proofs.YtlioojekjnigiaeGreat.AM
/- Entries: Check, and what the document says of it. -/
namespace Go.Proofs.YtlioojekjnigiaeGreat.AM
set_option linter.unusedVariables false
set_option linter.unusedSimpArgs false

def Entry'.err (e : Entry') : Int :=
  if e.id.ok = false ∨ e.colors < 1 ∨ 7 < e.colors then 3
  else if 12 < e.text.size ∨ 6 < e.links.length then 2
  else linksErr e.id none e.links
set_option maxHeartbeats 0 in
theorem check_ok (e : Entry') (hl : e.links.length ≤ 140737488355328) : PCall Tryz.prog 58 [e.arg] (dInt e.err) := by
  refine pcall_intro tab_all tab_mixed Tryz.func58 (by kernel_rfl) Tryz.ntmps58 rfl ?_
  conv => whnf
  refine .look _ _ (isId_ok e.id) rfl rfl ?_
  conv => whnf
  refine ⟨fun h1 => ?_, fun h1 => ?_⟩
  · have h1 : e.id.ok = false := by simpa using h1
    conv => whnf
    exact Ret.int (by simp [Entry'.err, h1])
  · have h1 : e.id.ok = true := by simpa using h1
    conv => whnf
    refine ⟨fun h2 => ?_, fun h2 => ?_⟩
    · have h2 : e.colors < 1 := by simpa using h2
      conv => whnf
      exact Ret.int (by simp [Entry'.err, h2])
    · have h2 : ¬ e.colors < 1 := by simpa using h2
      conv => whnf
      refine ⟨fun h3 => ?_, fun h3 => ?_⟩
      · have h3 : 7 < e.colors := by simpa using h3
        conv => whnf
        exact Ret.int (by simp [Entry'.err, h3])
      · have h3 : ¬ 7 < e.colors := by simpa using h3
        have k1 : ¬ (e.id.ok = false ∨ e.colors < 1 ∨ 7 < e.colors) := by simp [h1]; omega
        conv => whnf
        refine ⟨fun h4 => ?_, fun h4 => ?_⟩
        · have h4 : 12 < e.text.size := by simp at h4; omega
          conv => whnf
          exact Ret.int (by simp [Entry'.err, k1, h4])
        · have h4 : ¬ 12 < e.text.size := by simp at h4; omega
          conv => whnf
          refine ⟨fun h5 => ?_, fun h5 => ?_⟩
          · have h5 : 6 < e.links.length := by simp at h5; omega
            conv => whnf
            exact Ret.int (by simp [Entry'.err, k1, h5])
          · have h5 : ¬ 6 < e.links.length := by simp at h5; omega
            conv => whnf
            refine .look _ _ (checkLinks_ok e.id e.links hl) rfl rfl ?_
            conv => whnf
            exact Ret.int (by simp [Entry'.err, k1, h4, h5])
set_option maxHeartbeats 0 in
theorem checkEntry_ok (e : Entry') (hl : e.links.length ≤ 140737488355328) : PCall Tryz.prog 26 [e.arg] (dInt e.err) := by
  refine pcall_intro tab_all tab_mixed Tryz.func26 (by kernel_rfl) Tryz.ntmps26 rfl ?_
  conv => whnf
  refine .look _ _ (refIsId_ok e.id) rfl rfl ?_
  conv => whnf
  refine ⟨fun h1 => ?_, fun h1 => ?_⟩
  · have h1 : e.id.ok = false := by simpa using h1
    conv => whnf
    exact Ret.int (by simp [Entry'.err, h1])
  · have h1 : e.id.ok = true := by simpa using h1
    conv => whnf
    refine .look _ _ (between_ok e.colors 1 7) rfl rfl ?_
    conv => whnf
    refine ⟨fun h2 => ?_, fun h2 => ?_⟩
    · have h2 : e.colors < 1 ∨ 7 < e.colors := by simp at h2; omega
      conv => whnf
      exact Ret.int (by simp [Entry'.err, h2])
    · have h2 : ¬ (e.colors < 1 ∨ 7 < e.colors) := by simp at h2; omega
      have k1 : ¬ (e.id.ok = false ∨ e.colors < 1 ∨ 7 < e.colors) := by simp [h1]; omega
      conv => whnf
      refine ⟨fun h4 => ?_, fun h4 => ?_⟩
      · have h4 : 12 < e.text.size := by simp at h4; omega
        conv => whnf
        exact Ret.int (by simp [Entry'.err, k1, h4])
      · have h4 : ¬ 12 < e.text.size := by simp at h4; omega
        conv => whnf
        refine ⟨fun h5 => ?_, fun h5 => ?_⟩
        · have h5 : 6 < e.links.length := by simp at h5; omega
          conv => whnf
          exact Ret.int (by simp [Entry'.err, k1, h5])
        · have h5 : ¬ 6 < e.links.length := by simp at h5; omega
          have k2 : e.err = linksErr e.id none e.links := by simp [Entry'.err, k1, h4, h5]
          rw [k2]
          conv => whnf
          refine LoopOk.mk (fun m s => ∃ i, i + m = e.links.length ∧ linksErr e.id none e.links = linksErr e.id (prevOf e.links i) (e.links.drop i) ∧ s = ⟨[(3, dInt i), (1, .ptr 0 0)], 1, [(0, .vars 48 5 [dInt e.id.r, dInt e.id.n, dInt e.colors, .dat (.str e.text), .dat (.list (e.links.map Id.enc))] true)]⟩) e.links.length (Into.mono (Into.to [0] [(3, dInt (0 : Nat)), (1, .ptr 0 0)] [(0, .vars 48 5 [dInt e.id.r, dInt e.id.n, dInt e.colors, .dat (.str e.text), .dat (.list (e.links.map Id.enc))] true)] (by repeat (first | exact trivial | refine ⟨.same (congrArg dInt (wrap_up (by omega))), ?_⟩ | refine ⟨.same rfl, ?_⟩ | refine ⟨.any _, ?_⟩)) ⟨⟨rfl, rfl, rfl, .same rfl, rfl, .same rfl, rfl, .same rfl, rfl, .same rfl, rfl, .same rfl, rfl, trivial⟩, trivial⟩ rfl rfl) fun s' h => ⟨0, by omega, rfl, h⟩) ?_
          rintro m s ⟨i, hi, hp, rfl⟩
          conv => whnf
          (first | (refine SeqOk.go ?_; conv => whnf) | skip)
          refine ⟨fun h => ?_, fun h => ?_⟩
          · conv => whnf
            have hi' : i < e.links.length := by simpa using h
            rw [List.drop_eq_getElem_cons hi'] at hp
            have hn : prevOf e.links (i + 1) = some e.links[i] := by simp [prevOf, hi']
            refine AtIdx.ofMap hi' rfl ?_
            conv => whnf
            refine .look _ _ (refIsId_ok e.links[i]) rfl rfl ?_
            conv => whnf
            (first | (refine SeqOk.go ?_; conv => whnf) | skip)
            refine ⟨fun h1 => ?_, fun h1 => ?_⟩
            · conv => whnf
              refine Ret.int ?_
              rw [hp]
              have h1 : e.links[i].ok = false := by simpa using h1
              simp [linksErr, h1]
            · have h1 : e.links[i].ok = true := by simpa using h1
              conv => whnf
              refine ⟨fun h2 => ?_, fun h2 => ?_⟩
              · have h2 : 0 < i := by simpa using h2
                have hv := prevOf_pos h2 (show i - 1 < e.links.length by omega)
                conv => whnf
                refine AtIdx.ofMap' (i - 1) (wrap_down h2 (by omega)) (by omega) rfl ?_
                conv => whnf
                refine AtIdx.ofMap hi' rfl ?_
                conv => whnf
                refine .look _ _ (isAhead_ok e.links[i - 1] e.links[i]) rfl rfl ?_
                conv => whnf
                refine ⟨fun h3 => ?_, fun h3 => ?_⟩
                · conv => whnf
                  refine ⟨by kernel_rfl, ?_⟩
                  conv => whnf
                  refine Ret.int ?_
                  have h3 : e.links[i - 1].less e.links[i] = false := by simpa using h3
                  rw [hp]
                  simp [linksErr, h1, hv, h3]
                · have h3 : e.links[i - 1].less e.links[i] = true := by simpa using h3
                  conv => whnf
                  refine AtIdx.ofMap hi' rfl ?_
                  conv => whnf
                  refine ⟨fun h4 => ?_, fun h4 => ?_⟩
                  · have h4 : e.links[i].r = e.id.r := by simpa using h4
                    conv => whnf
                    refine AtIdx.ofMap hi' rfl ?_
                    conv => whnf
                    refine ⟨by kernel_rfl, ?_⟩
                    conv => whnf
                    refine ⟨fun h5 => ?_, fun h5 => ?_⟩
                    · have h5 : e.id.n ≤ e.links[i].n := by simpa using h5
                      conv => whnf
                      refine Ret.int ?_
                      rw [hp]
                      simp [linksErr, h1, hv, h3, h4, h5]
                    · have h5 : ¬ e.id.n ≤ e.links[i].n := by simpa using h5
                      conv => whnf
                      refine Into.mono (Into.to [0] [(3, dInt (i + 1 : Nat)), (1, .ptr 0 0)] [(0, .vars 48 5 [dInt e.id.r, dInt e.id.n, dInt e.colors, .dat (.str e.text), .dat (.list (e.links.map Id.enc))] true)] (by repeat (first | exact trivial | refine ⟨.same (congrArg dInt (wrap_up (by omega))), ?_⟩ | refine ⟨.same rfl, ?_⟩ | refine ⟨.any _, ?_⟩)) ⟨⟨rfl, rfl, rfl, .same rfl, rfl, .same rfl, rfl, .same rfl, rfl, .same rfl, rfl, .same rfl, rfl, trivial⟩, trivial⟩ rfl rfl) fun s' h => ⟨m - 1, by omega, i + 1, by omega, ?_, h⟩
                      rw [hp]
                      simp [linksErr, h1, hv, h3, h4, h5, hn]
                  · have h4 : ¬ e.links[i].r = e.id.r := by simpa using h4
                    conv => whnf
                    refine ⟨by kernel_rfl, ?_⟩
                    conv => whnf
                    (first | (refine SeqOk.go ?_; conv => whnf) | skip)
                    refine Into.mono (Into.to [0] [(3, dInt (i + 1 : Nat)), (1, .ptr 0 0)] [(0, .vars 48 5 [dInt e.id.r, dInt e.id.n, dInt e.colors, .dat (.str e.text), .dat (.list (e.links.map Id.enc))] true)] (by repeat (first | exact trivial | refine ⟨.same (congrArg dInt (wrap_up (by omega))), ?_⟩ | refine ⟨.same rfl, ?_⟩ | refine ⟨.any _, ?_⟩)) ⟨⟨rfl, rfl, rfl, .same rfl, rfl, .same rfl, rfl, .same rfl, rfl, .same rfl, rfl, .same rfl, rfl, trivial⟩, trivial⟩ rfl rfl) fun s' h => ⟨m - 1, by omega, i + 1, by omega, ?_, h⟩
                    rw [hp]
                    simp [linksErr, h1, hv, h3, h4, hn]
              · have h2 : i = 0 := by simpa using h2
                have hv : prevOf e.links i = none := by rw [h2]; rfl
                conv => whnf
                refine AtIdx.ofMap hi' rfl ?_
                conv => whnf
                refine ⟨fun h4 => ?_, fun h4 => ?_⟩
                · have h4 : e.links[i].r = e.id.r := by simpa using h4
                  conv => whnf
                  refine AtIdx.ofMap hi' rfl ?_
                  conv => whnf
                  refine ⟨by kernel_rfl, ?_⟩
                  conv => whnf
                  refine ⟨fun h5 => ?_, fun h5 => ?_⟩
                  · have h5 : e.id.n ≤ e.links[i].n := by simpa using h5
                    conv => whnf
                    refine Ret.int ?_
                    rw [hp]
                    simp [linksErr, h1, hv, h4, h5]
                  · have h5 : ¬ e.id.n ≤ e.links[i].n := by simpa using h5
                    conv => whnf
                    refine Into.mono (Into.to [0] [(3, dInt (i + 1 : Nat)), (1, .ptr 0 0)] [(0, .vars 48 5 [dInt e.id.r, dInt e.id.n, dInt e.colors, .dat (.str e.text), .dat (.list (e.links.map Id.enc))] true)] (by repeat (first | exact trivial | refine ⟨.same (congrArg dInt (wrap_up (by omega))), ?_⟩ | refine ⟨.same rfl, ?_⟩ | refine ⟨.any _, ?_⟩)) ⟨⟨rfl, rfl, rfl, .same rfl, rfl, .same rfl, rfl, .same rfl, rfl, .same rfl, rfl, .same rfl, rfl, trivial⟩, trivial⟩ rfl rfl) fun s' h => ⟨m - 1, by omega, i + 1, by omega, ?_, h⟩
                    rw [hp]
                    simp [linksErr, h1, hv, h4, h5, hn]
                · have h4 : ¬ e.links[i].r = e.id.r := by simpa using h4
                  conv => whnf
                  refine ⟨by kernel_rfl, ?_⟩
                  conv => whnf
                  (first | (refine SeqOk.go ?_; conv => whnf) | skip)
                  refine Into.mono (Into.to [0] [(3, dInt (i + 1 : Nat)), (1, .ptr 0 0)] [(0, .vars 48 5 [dInt e.id.r, dInt e.id.n, dInt e.colors, .dat (.str e.text), .dat (.list (e.links.map Id.enc))] true)] (by repeat (first | exact trivial | refine ⟨.same (congrArg dInt (wrap_up (by omega))), ?_⟩ | refine ⟨.same rfl, ?_⟩ | refine ⟨.any _, ?_⟩)) ⟨⟨rfl, rfl, rfl, .same rfl, rfl, .same rfl, rfl, .same rfl, rfl, .same rfl, rfl, .same rfl, rfl, trivial⟩, trivial⟩ rfl rfl) fun s' h => ⟨m - 1, by omega, i + 1, by omega, ?_, h⟩
                  rw [hp]
                  simp [linksErr, h1, hv, h4, hn]
          · conv => whnf
            have hi' : e.links.length ≤ i := by simpa using h
            refine Ret.int ?_
            rw [hp, List.drop_eq_nil_of_le hi']
            rfl
end Go.Proofs.YtlioojekjnigiaeGreat.AM
/- Logs: is one there; how many of each region. -/
namespace Go.Proofs.YtlioojekjnigiaeGreat.AM
set_option linter.unusedVariables false
set_option linter.unusedSimpArgs false

theorem idx_any' {α : Type} (p : α → Bool) : ∀ (l : List α) (i : Nat), idxOf (isIdx p l i) ≥ 0 ↔ l.any p = true
  | [], i => by simp [isIdx, idxOf]
  | a :: t, i => by
    unfold isIdx
    by_cases h : p a = true
    · simp [h, idxOf]
    · simp only [h, if_false, List.any_cons, Bool.false_or, Bool.false_eq_true]
      simpa [h] using idx_any' p t (i + 1)
theorem idx_any {α : Type} (p : α → Bool) (l : List α) (i : Nat) : decide (idxOf (isIdx p l i) ≥ 0) = l.any p := by
  rw [Bool.eq_iff_iff, decide_eq_true_iff]
  exact idx_any' p l i
theorem containsFunc_entry {cl : Nat} {ds : List D} {l : List Entry'} {p : Entry' → Bool} (hl : l.length ≤ 140737488355328) (hcl : ∀ x ∈ l, PCall Tryz.prog cl [x.arg, .dat (.ptr ds)] (dBool (p x))) :
    PCall Tryz.prog 91 [.dat (.list (l.map Entry'.enc)), .fn (.func cl) [] [.dat (.ptr ds)]] (dBool (l.any p)) := by
  refine pcall_intro tab_all tab_mixed Tryz.func91 (by kernel_rfl) Tryz.ntmps91 rfl ?_
  conv => whnf
  refine .look _ _ (indexFunc_entry hl hcl) rfl rfl ?_
  conv => whnf
  exact Ret.bool (by rw [← idx_any p l 0])
def isThe (x : Id) (e : Entry') : Bool := e.id.r == x.r && (e.id.n == x.n && true)
theorem isThe_iff {x : Id} {e : Entry'} : isThe x e = true ↔ e.id = x := by
  simp only [isThe, Bool.and_eq_true, beq_iff_eq, and_true]
  exact ⟨fun h => Id.ext' h.1 h.2, fun h => by rw [h]; exact ⟨rfl, rfl⟩⟩
theorem has1_ok (x : Id) (e : Entry') : PCall Tryz.prog 92 [e.arg, .dat (.ptr x.enc)] (dBool (isThe x e)) := by
  refine pcall_intro tab_all tab_mixed Tryz.func92 (by kernel_rfl) Tryz.ntmps92 rfl ?_
  conv => whnf
  exact Ret.bool rfl
theorem has_ok (x : Id) (l : List Entry') (hl : l.length ≤ 140737488355328) : PCall Tryz.prog 66 [.dat (.list (l.map Entry'.enc)), x.arg] (dBool (l.any (isThe x))) := by
  refine pcall_intro tab_all tab_mixed Tryz.func66 (by kernel_rfl) Tryz.ntmps66 rfl ?_
  conv => whnf
  refine .look _ _ (containsFunc_entry hl fun e _ => has1_ok x e) rfl rfl ?_
  conv => whnf
  exact Ret.bool rfl
def entryAt (l : List Entry') (x : Id) : Int := idxOf (isIdx (isThe x) l 0)
set_option maxHeartbeats 0 in
theorem entryAt_ok (x : Id) (l : List Entry') (hl : l.length ≤ 140737488355328) : PCall Tryz.prog 27 [.dat (.list (l.map Entry'.enc)), x.arg] (dInt (entryAt l x)) := by
  refine pcall_intro tab_all tab_mixed Tryz.func27 (by kernel_rfl) Tryz.ntmps27 rfl ?_
  conv => whnf
  refine LoopOk.mk (fun m s => ∃ i, i + m = l.length ∧ isIdx (isThe x) l 0 = isIdx (isThe x) (l.drop i) i ∧ s = ⟨[(5, dInt i), (0, .dat (.list (l.map Entry'.enc))), (3, .ptr 0 0)], 1, [(0, .vars 45 2 [dInt x.r, dInt x.n] true)]⟩) l.length (Into.mono (Into.to [0] [(5, dInt (0 : Nat)), (0, .dat (.list (l.map Entry'.enc))), (3, .ptr 0 0)] [(0, .vars 45 2 [dInt x.r, dInt x.n] true)] (by repeat (first | exact trivial | refine ⟨.same (congrArg dInt (wrap_up (by omega))), ?_⟩ | refine ⟨.same rfl, ?_⟩ | refine ⟨.any _, ?_⟩)) ⟨⟨rfl, rfl, rfl, .same rfl, rfl, .same rfl, rfl, trivial⟩, trivial⟩ rfl rfl) fun s' h => ⟨0, by omega, rfl, h⟩) ?_
  rintro m s ⟨i, hi, hp, rfl⟩
  conv => whnf
  (first | (refine SeqOk.go ?_; conv => whnf) | skip)
  refine ⟨fun h => ?_, fun h => ?_⟩
  · conv => whnf
    have hi' : i < l.length := by simpa using h
    rw [List.drop_eq_getElem_cons hi'] at hp
    refine AtIdx.ofMap hi' rfl ?_
    conv => whnf
    refine ⟨by kernel_rfl, ?_⟩
    conv => whnf
    refine ⟨fun h1 => ?_, fun h1 => ?_⟩
    · have h1 : isThe x l[i] = true := h1
      conv => whnf
      refine Ret.int ?_
      rw [entryAt, hp]
      simp [isIdx, h1, idxOf]
    · have h1 : isThe x l[i] = false := h1
      conv => whnf
      refine Into.mono (Into.to [0] [(5, dInt (i + 1 : Nat)), (0, .dat (.list (l.map Entry'.enc))), (3, .ptr 0 0)] [(0, .vars 45 2 [dInt x.r, dInt x.n] true)] (by repeat (first | exact trivial | refine ⟨.same (congrArg dInt (wrap_up (by omega))), ?_⟩ | refine ⟨.same rfl, ?_⟩ | refine ⟨.any _, ?_⟩)) ⟨⟨rfl, rfl, rfl, .same rfl, rfl, .same rfl, rfl, trivial⟩, trivial⟩ rfl rfl) fun s' h => ⟨m - 1, by omega, i + 1, by omega, ?_, h⟩
      rw [hp]
      simp [isIdx, h1]
  · conv => whnf
    have hi' : l.length ≤ i := by simpa using h
    refine Ret.int ?_
    rw [entryAt, hp, List.drop_eq_nil_of_le hi']
    rfl
/-- How many of a region. -/
def cnt (r : Int) (l : List Entry') : Nat := l.countP fun e => e.id.r == r
theorem cnt_le (r : Int) (l : List Entry') : cnt r l ≤ l.length := List.countP_le_length
theorem cnt_succ (r : Int) {l : List Entry'} {i : Nat} (h : i < l.length) : cnt r (l.take (i + 1)) = cnt r (l.take i) + if l[i].id.r == r then 1 else 0 := by
  simp only [cnt]
  rw [List.take_add_one, List.getElem?_eq_getElem h, List.countP_append]
  simp [List.countP_cons]
def vecA (a b : Int) : AVal := .agg [dInt a, dInt b]
set_option maxHeartbeats 0 in
theorem count_ok (l : List Entry') (hl : l.length ≤ 140737488355328) (hr : ∀ e ∈ l, e.id.r = 0 ∨ e.id.r = 1) : PCall Tryz.prog 67 [.dat (.list (l.map Entry'.enc))] (vecA (cnt 0 l) (cnt 1 l)) := by
  refine pcall_intro tab_all tab_mixed Tryz.func67 (by kernel_rfl) Tryz.ntmps67 rfl ?_
  conv => whnf
  refine LoopOk.mk (fun m s => ∃ i, i + m = l.length ∧ s = ⟨[(8, dInt (i : Nat)), (7, dInt (l.map Entry'.enc).length), (6, .dat (.list (l.map Entry'.enc))), (2, .ptr 0 0), (3, .ptr 1 0)], 2, [(0, .vars 68 2 [dInt 0, dInt 0] true), (1, .vars 68 2 [dInt (cnt 0 (l.take i)), dInt (cnt 1 (l.take i))] true)]⟩) l.length (Into.mono (Into.to [0, 1] [(8, dInt (0 : Nat)), (7, dInt (l.map Entry'.enc).length), (6, .dat (.list (l.map Entry'.enc))), (2, .ptr 0 0), (3, .ptr 1 0)] [(0, .vars 68 2 [dInt 0, dInt 0] true), (1, .vars 68 2 [dInt (cnt 0 (l.take 0)), dInt (cnt 1 (l.take 0))] true)] (by repeat (first | exact trivial | refine ⟨.same (congrArg dInt (wrap_up (by omega))), ?_⟩ | refine ⟨.same rfl, ?_⟩ | refine ⟨.any _, ?_⟩)) ⟨⟨rfl, rfl, rfl, .same rfl, rfl, .same rfl, rfl, trivial⟩, ⟨rfl, rfl, rfl, .same (congrArg dInt rfl), rfl, .same (congrArg dInt rfl), rfl, trivial⟩, trivial⟩ rfl rfl) fun s' h => ⟨0, by omega, h⟩) ?_
  rintro m s ⟨i, hi, rfl⟩
  conv => whnf
  (first | (refine SeqOk.go ?_; conv => whnf) | skip)
  refine ⟨fun h => ?_, fun h => ?_⟩
  · conv => whnf
    have hi' : i < l.length := by simpa using h
    refine AtIdx.ofMap hi' rfl ?_
    conv => whnf
    have c0 := cnt_le 0 (l.take i)
    have c1 := cnt_le 1 (l.take i)
    rw [List.length_take] at c0 c1
    have s0 := cnt_succ 0 hi'
    have s1 := cnt_succ 1 hi'
    rcases hr l[i] (List.getElem_mem hi') with h1 | h1
    · simp only [h1, beq_self_eq_true, if_true, show ((0 : Int) == 1) = false from rfl, Bool.false_eq_true, if_false, Nat.add_zero] at s0 s1
      refine .mk 0 h1 (by decide) ?_
      conv => whnf
      refine .mk 0 h1 (by decide) ?_
      conv => whnf
      refine Into.mono (Into.to [0, 1] [(8, dInt (i + 1 : Nat)), (7, dInt (l.map Entry'.enc).length), (6, .dat (.list (l.map Entry'.enc))), (2, .ptr 0 0), (3, .ptr 1 0)] [(0, .vars 68 2 [dInt 0, dInt 0] true), (1, .vars 68 2 [dInt (cnt 0 (l.take (i + 1))), dInt (cnt 1 (l.take (i + 1)))] true)] (by repeat (first | exact trivial | refine ⟨.same (congrArg dInt (wrap_up (by omega))), ?_⟩ | refine ⟨.same rfl, ?_⟩ | refine ⟨.any _, ?_⟩)) ⟨⟨rfl, rfl, rfl, .same rfl, rfl, .same rfl, rfl, trivial⟩, ⟨rfl, rfl, rfl, .same (congrArg dInt (by rw [s0]; exact wrap_up (by omega))), rfl, .same (congrArg dInt (by rw [s1])), rfl, trivial⟩, trivial⟩ rfl rfl) fun s' h => ⟨m - 1, by omega, i + 1, by omega, h⟩
    · simp only [h1, beq_self_eq_true, if_true, show ((1 : Int) == 0) = false from rfl, Bool.false_eq_true, if_false, Nat.add_zero] at s0 s1
      refine .mk 1 h1 (by decide) ?_
      conv => whnf
      refine .mk 1 h1 (by decide) ?_
      conv => whnf
      refine Into.mono (Into.to [0, 1] [(8, dInt (i + 1 : Nat)), (7, dInt (l.map Entry'.enc).length), (6, .dat (.list (l.map Entry'.enc))), (2, .ptr 0 0), (3, .ptr 1 0)] [(0, .vars 68 2 [dInt 0, dInt 0] true), (1, .vars 68 2 [dInt (cnt 0 (l.take (i + 1))), dInt (cnt 1 (l.take (i + 1)))] true)] (by repeat (first | exact trivial | refine ⟨.same (congrArg dInt (wrap_up (by omega))), ?_⟩ | refine ⟨.same rfl, ?_⟩ | refine ⟨.any _, ?_⟩)) ⟨⟨rfl, rfl, rfl, .same rfl, rfl, .same rfl, rfl, trivial⟩, ⟨rfl, rfl, rfl, .same (congrArg dInt (by rw [s0])), rfl, .same (congrArg dInt (by rw [s1]; exact wrap_up (by omega))), rfl, trivial⟩, trivial⟩ rfl rfl) fun s' h => ⟨m - 1, by omega, i + 1, by omega, h⟩
  · conv => whnf
    have hi' : l.length ≤ i := by simpa using h
    refine Ret.to ?_
    rw [List.take_of_length_le hi']
    rfl
set_option maxHeartbeats 0 in
theorem countOf_ok (l : List Entry') (hl : l.length ≤ 140737488355328) (hr : ∀ e ∈ l, e.id.r = 0 ∨ e.id.r = 1) : PCall Tryz.prog 28 [.dat (.list (l.map Entry'.enc))] (vecA (cnt 0 l) (cnt 1 l)) := by
  refine pcall_intro tab_all tab_mixed Tryz.func28 (by kernel_rfl) Tryz.ntmps28 rfl ?_
  conv => whnf
  refine LoopOk.mk (fun m s => ∃ i, i + m = l.length ∧ s = ⟨[(4, dInt i), (0, .dat (.list (l.map Entry'.enc))), (2, .ptr 0 0), (3, .ptr 1 0)], 2, [(0, .vars 68 2 [dInt 0, dInt 0] true), (1, .vars 68 2 [dInt (cnt 0 (l.take i)), dInt (cnt 1 (l.take i))] true)]⟩) l.length (Into.mono (Into.to [0, 1] [(4, dInt (0 : Nat)), (0, .dat (.list (l.map Entry'.enc))), (2, .ptr 0 0), (3, .ptr 1 0)] [(0, .vars 68 2 [dInt 0, dInt 0] true), (1, .vars 68 2 [dInt (cnt 0 (l.take 0)), dInt (cnt 1 (l.take 0))] true)] (by repeat (first | exact trivial | refine ⟨.same (congrArg dInt (wrap_up (by omega))), ?_⟩ | refine ⟨.same rfl, ?_⟩ | refine ⟨.any _, ?_⟩)) ⟨⟨rfl, rfl, rfl, .same rfl, rfl, .same rfl, rfl, trivial⟩, ⟨rfl, rfl, rfl, .same rfl, rfl, .same rfl, rfl, trivial⟩, trivial⟩ rfl rfl) fun s' h => ⟨0, by omega, h⟩) ?_
  rintro m s ⟨i, hi, rfl⟩
  conv => whnf
  (first | (refine SeqOk.go ?_; conv => whnf) | skip)
  refine ⟨fun h => ?_, fun h => ?_⟩
  · conv => whnf
    have hi' : i < l.length := by simpa using h
    refine AtIdx.ofMap hi' rfl ?_
    conv => whnf
    have c0 := cnt_le 0 (l.take i)
    have c1 := cnt_le 1 (l.take i)
    rw [List.length_take] at c0 c1
    have s0 := cnt_succ 0 hi'
    have s1 := cnt_succ 1 hi'
    refine ⟨fun h1 => ?_, fun h1 => ?_⟩
    · have h1 : l[i].id.r = 0 := by simpa using h1
      simp only [h1, beq_self_eq_true, if_true, show ((0 : Int) == 1) = false from rfl, Bool.false_eq_true, if_false, Nat.add_zero] at s0 s1
      conv => whnf
      refine .mk 0 rfl (by decide) ?_
      conv => whnf
      refine .mk 0 rfl (by decide) ?_
      conv => whnf
      refine Into.mono (Into.to [0, 1] [(4, dInt (i + 1 : Nat)), (0, .dat (.list (l.map Entry'.enc))), (2, .ptr 0 0), (3, .ptr 1 0)] [(0, .vars 68 2 [dInt 0, dInt 0] true), (1, .vars 68 2 [dInt (cnt 0 (l.take (i + 1))), dInt (cnt 1 (l.take (i + 1)))] true)] (by repeat (first | exact trivial | refine ⟨.same (congrArg dInt (wrap_up (by omega))), ?_⟩ | refine ⟨.same rfl, ?_⟩ | refine ⟨.any _, ?_⟩)) ⟨⟨rfl, rfl, rfl, .same rfl, rfl, .same rfl, rfl, trivial⟩, ⟨rfl, rfl, rfl, .same (congrArg dInt (by rw [s0]; exact wrap_up (by omega))), rfl, .same (congrArg dInt (by rw [s1])), rfl, trivial⟩, trivial⟩ rfl rfl) fun s' h => ⟨m - 1, by omega, i + 1, by omega, h⟩
    · have h1 : l[i].id.r = 1 := by
        have h1 : ¬ l[i].id.r = 0 := by simpa using h1
        exact (hr l[i] (List.getElem_mem hi')).resolve_left h1
      simp only [h1, beq_self_eq_true, if_true, show ((1 : Int) == 0) = false from rfl, Bool.false_eq_true, if_false, Nat.add_zero] at s0 s1
      conv => whnf
      refine .mk 1 rfl (by decide) ?_
      conv => whnf
      refine .mk 1 rfl (by decide) ?_
      conv => whnf
      refine Into.mono (Into.to [0, 1] [(4, dInt (i + 1 : Nat)), (0, .dat (.list (l.map Entry'.enc))), (2, .ptr 0 0), (3, .ptr 1 0)] [(0, .vars 68 2 [dInt 0, dInt 0] true), (1, .vars 68 2 [dInt (cnt 0 (l.take (i + 1))), dInt (cnt 1 (l.take (i + 1)))] true)] (by repeat (first | exact trivial | refine ⟨.same (congrArg dInt (wrap_up (by omega))), ?_⟩ | refine ⟨.same rfl, ?_⟩ | refine ⟨.any _, ?_⟩)) ⟨⟨rfl, rfl, rfl, .same rfl, rfl, .same rfl, rfl, trivial⟩, ⟨rfl, rfl, rfl, .same (congrArg dInt (by rw [s0])), rfl, .same (congrArg dInt (by rw [s1]; exact wrap_up (by omega))), rfl, trivial⟩, trivial⟩ rfl rfl) fun s' h => ⟨m - 1, by omega, i + 1, by omega, h⟩
  · conv => whnf
    have hi' : l.length ≤ i := by simpa using h
    refine Ret.to ?_
    rw [List.take_of_length_le hi']
    rfl
end Go.Proofs.YtlioojekjnigiaeGreat.AM
/- Logs: Check. -/
namespace Go.Proofs.YtlioojekjnigiaeGreat.AM
set_option linter.unusedVariables false
set_option linter.unusedSimpArgs false

/-- No list is greater than memory. -/
structure LogOk (l : List Entry') : Prop where
  len : l.length ≤ 140737488355328
  links : ∀ e ∈ l, e.links.length ≤ 140737488355328
theorem LogOk.take {l : List Entry'} (h : LogOk l) (i : Nat) : LogOk (l.take i) := ⟨by have := h.len; simp; omega, fun e he => h.links e (List.mem_of_mem_take he)⟩
def behindErr (ahead : List Entry') (e : Entry') : Int :=
  if e.err ≠ 0 then e.err else if ahead.any (isThe e.id) = true then 6 else if e.id.n ≠ (cnt e.id.r ahead : Int) + 1 then 4 else if e.links.all (fun x => ahead.any (isThe x)) = true then 0 else 5
theorem ok_of_err {e : Entry'} (h : e.err = 0) : e.id.ok = true := by
  unfold Entry'.err at h
  by_cases h1 : e.id.ok = true
  · exact h1
  · simp [h1] at h
theorem r_of_ok {x : Id} (h : x.ok = true) : x.r = 0 ∨ x.r = 1 := by
  simp [Id.ok] at h
  omega
theorem behind_links {ahead : List Entry'} {e : Entry'} (h1 : e.err = 0) (h2 : ahead.any (isThe e.id) = false) (h3 : e.id.n = (cnt e.id.r ahead : Int) + 1) : behindErr ahead e = if (e.links.drop 0).all (fun x => ahead.any (isThe x)) = true then 0 else 5 := by
  unfold behindErr
  rw [if_neg (by simp [h1]), if_neg (by simp [h2]), if_neg (by simp [← h3])]
  rfl
set_option maxHeartbeats 0 in
theorem checkBehind_ok (ahead : List Entry') (e : Entry') (hl : LogOk ahead) (hr : ∀ e ∈ ahead, e.id.r = 0 ∨ e.id.r = 1) (he : e.links.length ≤ 140737488355328) : PCall Tryz.prog 41 [.dat (.list (ahead.map Entry'.enc)), e.arg] (dInt (behindErr ahead e)) := by
  refine pcall_intro tab_all tab_mixed Tryz.func41 (by kernel_rfl) Tryz.ntmps41 rfl ?_
  conv => whnf
  refine .look _ _ (check_ok e he) rfl rfl ?_
  conv => whnf
  (first | (refine SeqOk.go ?_; conv => whnf) | skip)
  refine ⟨fun h1 => ?_, fun h1 => ?_⟩
  · have h1 : e.err ≠ 0 := by simpa using h1
    conv => whnf
    exact Ret.int (by simp [behindErr, h1])
  · have h1 : e.err = 0 := by simpa using h1
    conv => whnf
    refine .look _ _ (has_ok e.id ahead hl.len) rfl rfl ?_
    conv => whnf
    (first | (refine SeqOk.go ?_; conv => whnf) | skip)
    refine ⟨fun h2 => ?_, fun h2 => ?_⟩
    · conv => whnf
      exact Ret.int (by simp [behindErr, h1, h2])
    · conv => whnf
      refine .look _ _ (count_ok ahead hl.len hr) rfl rfl ?_
      conv => whnf
      have hreg := r_of_ok (ok_of_err h1)
      have hc := cnt_le 0 ahead
      have hc1 := cnt_le 1 ahead
      have hlen := hl.len
      rcases hreg with hreg | hreg
      · refine .mk 0 hreg (by decide) ?_
        conv => whnf
        refine ⟨by kernel_rfl, ?_⟩
        conv => whnf
        (first | (refine SeqOk.go ?_; conv => whnf) | skip)
        refine ⟨fun h3 => ?_, fun h3 => ?_⟩
        · conv => whnf
          refine Ret.int ?_
          have h3 : e.id.n ≠ (cnt e.id.r ahead : Int) + 1 := by
            rw [hreg]
            rw [wrap_id (by omega) (by omega)] at h3
            simpa using h3
          simp [behindErr, h1, h2, h3]
        · have h3 : e.id.n = (cnt e.id.r ahead : Int) + 1 := by
            rw [hreg]
            rw [wrap_id (by omega) (by omega)] at h3
            simpa using h3
          have hd := behind_links h1 h2 h3
          conv => whnf
          refine LoopOk.mk (fun m s => ∃ i, i + m = e.links.length ∧ behindErr ahead e = (if (e.links.drop i).all (fun x => ahead.any (isThe x)) = true then 0 else 5) ∧ s = ⟨[(31, dInt (i : Nat)), (30, dInt (e.links.map Id.enc).length), (29, .dat (.list (e.links.map Id.enc))), (0, .dat (.list (ahead.map Entry'.enc)))], 0, []⟩) e.links.length (Into.mono (Into.to [] [(31, dInt (0 : Nat)), (30, dInt (e.links.map Id.enc).length), (29, .dat (.list (e.links.map Id.enc))), (0, .dat (.list (ahead.map Entry'.enc)))] [] (by repeat (first | exact trivial | refine ⟨.same (congrArg dInt (wrap_up (by omega))), ?_⟩ | refine ⟨.same rfl, ?_⟩ | refine ⟨.any _, ?_⟩)) trivial rfl rfl) fun s' h => ⟨0, by omega, hd, h⟩) ?_
          rintro m s ⟨i, hi, hp, rfl⟩
          conv => whnf
          (first | (refine SeqOk.go ?_; conv => whnf) | skip)
          refine ⟨fun h => ?_, fun h => ?_⟩
          · conv => whnf
            have hi' : i < e.links.length := by simpa using h
            rw [List.drop_eq_getElem_cons hi', List.all_cons] at hp
            refine AtIdx.ofMap hi' rfl ?_
            conv => whnf
            refine .look _ _ (has_ok e.links[i] ahead hl.len) rfl rfl ?_
            conv => whnf
            (first | (refine SeqOk.go ?_; conv => whnf) | skip)
            refine ⟨fun h4 => ?_, fun h4 => ?_⟩
            · have h4 : ahead.any (isThe e.links[i]) = false := by simpa using h4
              conv => whnf
              refine Ret.int ?_
              rw [hp, h4]
              rfl
            · have h4 : ahead.any (isThe e.links[i]) = true := by simpa using h4
              conv => whnf
              refine Into.mono (Into.to [] [(31, dInt (i + 1 : Nat)), (30, dInt (e.links.map Id.enc).length), (29, .dat (.list (e.links.map Id.enc))), (0, .dat (.list (ahead.map Entry'.enc)))] [] (by repeat (first | exact trivial | refine ⟨.same (congrArg dInt (wrap_up (by omega))), ?_⟩ | refine ⟨.same rfl, ?_⟩ | refine ⟨.any _, ?_⟩)) trivial rfl rfl) fun s' h => ⟨m - 1, by omega, i + 1, by omega, ?_, h⟩
              rw [hp, h4, Bool.true_and]
          · conv => whnf
            have hi' : e.links.length ≤ i := by simpa using h
            refine Ret.int ?_
            rw [hp, List.drop_eq_nil_of_le hi']
            rfl
      · refine .mk 1 hreg (by decide) ?_
        conv => whnf
        refine ⟨by kernel_rfl, ?_⟩
        conv => whnf
        (first | (refine SeqOk.go ?_; conv => whnf) | skip)
        refine ⟨fun h3 => ?_, fun h3 => ?_⟩
        · conv => whnf
          refine Ret.int ?_
          have h3 : e.id.n ≠ (cnt e.id.r ahead : Int) + 1 := by
            rw [hreg]
            rw [wrap_id (by omega) (by omega)] at h3
            simpa using h3
          simp [behindErr, h1, h2, h3]
        · have h3 : e.id.n = (cnt e.id.r ahead : Int) + 1 := by
            rw [hreg]
            rw [wrap_id (by omega) (by omega)] at h3
            simpa using h3
          have hd := behind_links h1 h2 h3
          conv => whnf
          refine LoopOk.mk (fun m s => ∃ i, i + m = e.links.length ∧ behindErr ahead e = (if (e.links.drop i).all (fun x => ahead.any (isThe x)) = true then 0 else 5) ∧ s = ⟨[(31, dInt (i : Nat)), (30, dInt (e.links.map Id.enc).length), (29, .dat (.list (e.links.map Id.enc))), (0, .dat (.list (ahead.map Entry'.enc)))], 0, []⟩) e.links.length (Into.mono (Into.to [] [(31, dInt (0 : Nat)), (30, dInt (e.links.map Id.enc).length), (29, .dat (.list (e.links.map Id.enc))), (0, .dat (.list (ahead.map Entry'.enc)))] [] (by repeat (first | exact trivial | refine ⟨.same (congrArg dInt (wrap_up (by omega))), ?_⟩ | refine ⟨.same rfl, ?_⟩ | refine ⟨.any _, ?_⟩)) trivial rfl rfl) fun s' h => ⟨0, by omega, hd, h⟩) ?_
          rintro m s ⟨i, hi, hp, rfl⟩
          conv => whnf
          (first | (refine SeqOk.go ?_; conv => whnf) | skip)
          refine ⟨fun h => ?_, fun h => ?_⟩
          · conv => whnf
            have hi' : i < e.links.length := by simpa using h
            rw [List.drop_eq_getElem_cons hi', List.all_cons] at hp
            refine AtIdx.ofMap hi' rfl ?_
            conv => whnf
            refine .look _ _ (has_ok e.links[i] ahead hl.len) rfl rfl ?_
            conv => whnf
            (first | (refine SeqOk.go ?_; conv => whnf) | skip)
            refine ⟨fun h4 => ?_, fun h4 => ?_⟩
            · have h4 : ahead.any (isThe e.links[i]) = false := by simpa using h4
              conv => whnf
              refine Ret.int ?_
              rw [hp, h4]
              rfl
            · have h4 : ahead.any (isThe e.links[i]) = true := by simpa using h4
              conv => whnf
              refine Into.mono (Into.to [] [(31, dInt (i + 1 : Nat)), (30, dInt (e.links.map Id.enc).length), (29, .dat (.list (e.links.map Id.enc))), (0, .dat (.list (ahead.map Entry'.enc)))] [] (by repeat (first | exact trivial | refine ⟨.same (congrArg dInt (wrap_up (by omega))), ?_⟩ | refine ⟨.same rfl, ?_⟩ | refine ⟨.any _, ?_⟩)) trivial rfl rfl) fun s' h => ⟨m - 1, by omega, i + 1, by omega, ?_, h⟩
              rw [hp, h4, Bool.true_and]
          · conv => whnf
            have hi' : e.links.length ≤ i := by simpa using h
            refine Ret.int ?_
            rw [hp, List.drop_eq_nil_of_le hi']
            rfl
end Go.Proofs.YtlioojekjnigiaeGreat.AM
/- Logs: Check of a whole one, and what the document says of it. -/
namespace Go.Proofs.YtlioojekjnigiaeGreat.AM
set_option linter.unusedVariables false
set_option linter.unusedSimpArgs false

/-- What is wrong with the rest of a log, behind those that are right. -/
def logLoop (ahead : List Entry') : List Entry' → Int
  | [] => 0
  | e :: t => if behindErr ahead e ≠ 0 then behindErr ahead e else logLoop (ahead ++ [e]) t
def logErr (l : List Entry') : Int := if 40 < l.length then 2 else logLoop [] l
theorem take_snoc {α : Type} {l : List α} {i : Nat} (h : i < l.length) : l.take (i + 1) = l.take i ++ [l[i]] := by
  rw [List.take_add_one, List.getElem?_eq_getElem h]
  rfl
theorem behind_err {ahead : List Entry'} {e : Entry'} (h : behindErr ahead e = 0) : e.err = 0 := by
  unfold behindErr at h
  split at h
  · exact h
  · rename_i h1; simpa using h1
theorem fits_take {es : List Entry'} {i : Nat} : (List.map Entry'.enc es).take i = (es.take i).map Entry'.enc := by rw [List.map_take]
theorem regs_snoc {l : List Entry'} {i : Nat} (hi : i < l.length) (hr : ∀ e ∈ l.take i, e.id.r = 0 ∨ e.id.r = 1) (h : behindErr (l.take i) l[i] = 0) : ∀ e ∈ l.take (i + 1), e.id.r = 0 ∨ e.id.r = 1 := fun e he => by
  rw [take_snoc hi, List.mem_append] at he
  rcases he with he | he
  · exact hr e he
  · obtain rfl : e = l[i] := by simpa using he
    exact r_of_ok (ok_of_err (behind_err h))
set_option maxHeartbeats 0 in
theorem dagCheck_ok (l : List Entry') (hl : LogOk l) : PCall Tryz.prog 18 [.dat (.list (l.map Entry'.enc))] (dInt (logErr l)) := by
  refine pcall_intro tab_all tab_mixed Tryz.func18 (by kernel_rfl) Tryz.ntmps18 rfl ?_
  conv => whnf
  (first | (refine SeqOk.go ?_; conv => whnf) | skip)
  refine ⟨fun h1 => ?_, fun h1 => ?_⟩
  · have h1 : 40 < l.length := by simp at h1; omega
    conv => whnf
    exact Ret.int (by simp [logErr, h1])
  · have h1 : ¬ 40 < l.length := by simp at h1; omega
    have he : logErr l = logLoop [] l := by simp [logErr, h1]
    conv => whnf
    refine LoopOk.mk (fun m s => ∃ i, i + m = l.length ∧ logErr l = logLoop (l.take i) (l.drop i) ∧ (∀ e ∈ l.take i, e.id.r = 0 ∨ e.id.r = 1) ∧ s = ⟨[(11, dInt i), (10, dInt (l.map Entry'.enc).length), (9, .dat (.list (l.map Entry'.enc))), (0, .dat (.list (l.map Entry'.enc)))], 0, []⟩) l.length (Into.mono (Into.to [] [(11, dInt (0 : Nat)), (10, dInt (l.map Entry'.enc).length), (9, .dat (.list (l.map Entry'.enc))), (0, .dat (.list (l.map Entry'.enc)))] [] (by repeat (first | exact trivial | refine ⟨.same (congrArg dInt (wrap_up (by omega))), ?_⟩ | refine ⟨.same rfl, ?_⟩ | refine ⟨.any _, ?_⟩)) trivial rfl rfl) fun s' h => ⟨0, by omega, he, by simp, h⟩) ?_
    rintro m s ⟨i, hi, hp, hr, rfl⟩
    conv => whnf
    (first | (refine SeqOk.go ?_; conv => whnf) | skip)
    refine ⟨fun h => ?_, fun h => ?_⟩
    · conv => whnf
      have hi' : i < l.length := by simpa using h
      rw [List.drop_eq_getElem_cons hi'] at hp
      refine AtIdx.ofMap hi' rfl ?_
      conv => whnf
      refine .mk 0 i rfl rfl (Nat.zero_le _) (by simp; omega) ?_
      rw [fits_take]
      conv => whnf
      refine .look _ _ (checkBehind_ok (l.take i) l[i] (hl.take i) hr (hl.links _ (List.getElem_mem hi'))) rfl rfl ?_
      conv => whnf
      refine ⟨by kernel_rfl, ?_⟩
      conv => whnf
      (first | (refine SeqOk.go ?_; conv => whnf) | skip)
      rw [logLoop] at hp
      refine ⟨fun h2 => ?_, fun h2 => ?_⟩
      · have h2 : behindErr (l.take i) l[i] ≠ 0 := by simpa using h2
        conv => whnf
        refine Ret.int ?_
        rw [hp, if_pos h2]
      · have h2 : behindErr (l.take i) l[i] = 0 := by simpa using h2
        conv => whnf
        refine Into.mono (Into.to [] [(11, dInt (i + 1 : Nat)), (10, dInt (l.map Entry'.enc).length), (9, .dat (.list (l.map Entry'.enc))), (0, .dat (.list (l.map Entry'.enc)))] [] (by repeat (first | exact trivial | refine ⟨.same (congrArg dInt (wrap_up (by omega))), ?_⟩ | refine ⟨.same rfl, ?_⟩ | refine ⟨.any _, ?_⟩)) trivial rfl rfl) fun s' h => ⟨m - 1, by omega, i + 1, by omega, ?_, regs_snoc hi' hr h2, h⟩
        rw [hp, if_neg (by simp [h2]), take_snoc hi']
    · conv => whnf
      have hi' : l.length ≤ i := by simpa using h
      refine Ret.int ?_
      rw [hp, List.drop_eq_nil_of_le hi']
      rfl
end Go.Proofs.YtlioojekjnigiaeGreat.AM
