/- What is leaned on: part 3. -/
import Derived.Test.YtlioojekjnigiafGreatQ2
import Derived.ProofKit
import Derived.OpenShut
import Derived.ChangeOld
import Derived.SizedLaws
import Derived.Deep.Slices
import Derived.Below
/- What is known, told otherwise: at a loop's beginning, behind a branch. -/
namespace Go.Proofs.YtlioojekjnigiafGreat.AM
set_option linter.unusedVariables false
set_option linter.unusedSimpArgs false

section
variable {N : Nat}

theorem Into.here {s : St} {p : St → Prop} (h : p s) : Into N s p := fun _ _ _ r A _ _ hs => ⟨s, r, A, h, hs⟩
theorem Into.trans {s : St} {p q : St → Prop} (h : Into N s p) (k : ∀ s', p s' → Into N s' q) : Into N s q := fun w0 A0 B0 r A act w hs => by
  obtain ⟨s', r', A', h1, h2⟩ := h _ _ _ _ _ _ _ hs
  exact k s' h1 _ _ _ _ _ _ _ h2
theorem Into.mono {s : St} {p q : St → Prop} (h : Into N s p) (k : ∀ s', p s' → q s') : Into N s q := h.trans fun s' hs => Into.here (k s' hs)

/-- One thing that is known, told so. -/
inductive Fit (g : Nat → Entry) : AVal → AVal → Prop
  | any (b : AVal) : Fit g .any b
  | same {a b : AVal} (h : a = b) : Fit g a b
  | kb (b : Bool) : Fit g (.dat (.bool b)) (.kb b)
  | data {a b : AVal} (h : pureA (still g) 6 b = some a) : Fit g a b
  | agg {xs ys : List AVal} (hl : xs.length = ys.length) (h : ∀ (j : Nat) (a b : AVal), xs[j]? = some a → ys[j]? = some b → Fit g a b) : Fit g (.agg xs) (.agg ys)
  | tup {xs ys : List AVal} (hl : xs.length = ys.length) (h : ∀ (j : Nat) (a b : AVal), xs[j]? = some a → ys[j]? = some b → Fit g a b) : Fit g (.tup xs) (.tup ys)
theorem Fit.rel {r : Rho} {A : View} {w : World} {g : Nat → Entry} (hc : Core r A w g) {a b : AVal} (h : Fit g a b) {v : Value} (hv : VRel r A v b) : VRel r A v a := by
  induction h generalizing v with
  | any => exact .any v
  | same h => rw [h]; exact hv
  | kb b => cases hv; exact .dat (.bool b)
  | data h => exact pureA_ok (still_reads hc) 6 h hv
  | agg hl _ ih =>
    cases hv with
    | agg cs _ hn hx =>
      refine .agg cs _ (hn.trans hl.symm) fun j a ha => ?_
      have hj := (List.getElem?_eq_some_iff.1 ha).1
      have hb := List.getElem?_eq_getElem (hl ▸ hj)
      exact ih j a _ ha hb (hx j _ hb)
  | tup hl _ ih =>
    cases hv with
    | tup cs _ hn hx =>
      refine .tup cs _ (hn.trans hl.symm) fun j a ha => ?_
      have hj := (List.getElem?_eq_some_iff.1 ha).1
      have hb := List.getElem?_eq_getElem (hl ▸ hj)
      exact ih j a _ ha hb (hx j _ hb)
/-- Values, one by one, told so. -/
def fitAll (g : Nat → Entry) : List AVal → List AVal → Prop
  | [], [] => True
  | a :: t, b :: u => Fit g a b ∧ fitAll g t u
  | _, _ => False
theorem fitAll_get {g : Nat → Entry} : ∀ {xs ys : List AVal}, fitAll g xs ys → xs.length = ys.length ∧ ∀ (j : Nat) (a b : AVal), xs[j]? = some a → ys[j]? = some b → Fit g a b
  | [], [], _ => ⟨rfl, by simp⟩
  | a :: t, b :: u, h => by
    obtain ⟨k1, k2⟩ := fitAll_get h.2
    refine ⟨by simp [k1], fun j x y hx hy => ?_⟩
    match j with
    | 0 =>
      obtain rfl : a = x := by simpa using hx
      obtain rfl : b = y := by simpa using hy
      exact h.1
    | j + 1 => exact k2 j x y (by simpa using hx) (by simpa using hy)
  | [], _ :: _, h => h.elim
  | _ :: _, [], h => h.elim
theorem Fit.aggs {g : Nat → Entry} {xs ys : List AVal} (h : fitAll g xs ys) : Fit g (.agg xs) (.agg ys) := .agg (fitAll_get h).1 (fitAll_get h).2
theorem Fit.tups {g : Nat → Entry} {xs ys : List AVal} (h : fitAll g xs ys) : Fit g (.tup xs) (.tup ys) := .tup (fitAll_get h).1 (fitAll_get h).2

/-- All slots, told so. -/
def envFits (g : Nat → Entry) (f : Nat → Nat) (src : Env) : Env → Prop
  | [] => True
  | (t, a) :: rest => Fit g (a.ren f) (look src t) ∧ envFits g f src rest
/-- Variables, told so. -/
def cellsFit (g : Nat → Entry) (f : Nat → Nat) : List AVal → List AVal → Prop
  | [], [] => True
  | a :: t, b :: u => Fit g (a.ren f) b ∧ a.one = true ∧ cellsFit g f t u
  | _, _ => False
def entFits (g : Nat → Entry) (f : Nat → Nat) : Entry → Entry → Prop
  | .dead, _ => True
  | .vars T sz cs l, .vars T' sz' cs' l' => T = T' ∧ sz = sz' ∧ l = l' ∧ cellsFit g f cs cs'
  | .rows T sz es l, .rows T' sz' es' l' => T = T' ∧ sz = sz' ∧ l = l' ∧ es = es'
  | _, _ => False
def heapFits (g : Nat → Entry) (f : Nat → Nat) : Heap → Prop
  | [] => True
  | (h, e) :: t => entFits g f e (g (f h)) ∧ heapFits g f t
theorem cellsFit_get {g : Nat → Entry} {f : Nat → Nat} : ∀ {cs cs' : List AVal}, cellsFit g f cs cs' → cs.length = cs'.length ∧ ∀ (j : Nat) (a : AVal), cs[j]? = some a → a.one = true ∧ ∃ b, cs'[j]? = some b ∧ Fit g (a.ren f) b
  | [], [], _ => ⟨rfl, by simp⟩
  | a :: t, b :: u, h => by
    obtain ⟨h1, h2, h3⟩ := h
    obtain ⟨k1, k2⟩ := cellsFit_get h3
    refine ⟨by simp [k1], fun j x hj => ?_⟩
    match j with
    | 0 =>
      obtain rfl : a = x := by simpa using hj
      exact ⟨h2, b, rfl, h1⟩
    | j + 1 => exact k2 j x (by simpa using hj)
  | [], _ :: _, h => h.elim
  | _ :: _, [], h => h.elim
theorem heapFits_get {g : Nat → Entry} {f : Nat → Nat} : ∀ {H : Heap}, heapFits g f H → ∀ j, entFits g f (H.get j) (g (f j))
  | [], _, j => trivial
  | (h, e) :: t, hh, j => by
    by_cases hj : h = j
    · subst hj
      have : Heap.get ((h, e) :: t) h = e := by simp [Heap.get, Nat.beq_refl]
      rw [this]; exact hh.1
    · have : Heap.get ((h, e) :: t) j = Heap.get t j := by rw [over_get, over_ne hj, ← over_get]
      rw [this]; exact heapFits_get hh.2 j
theorem envFits_get {g : Nat → Entry} {f : Nat → Nat} {src : Env} : ∀ {e : Env}, envFits g f src e → ∀ t, Fit g ((look e t).ren f) (look src t)
  | [], _, t => .any _
  | (t', a) :: rest, h, t => by
    rw [look_cons]
    by_cases ht : t' = t
    · subst ht; rw [if_pos rfl]; exact h.1
    · rw [if_neg ht]; exact envFits_get h.2 t
def envHb (n : Nat) : Env → Bool
  | [] => true
  | (_, a) :: t => a.hb n && envHb n t
theorem envHb_get {n : Nat} : ∀ {e : Env}, envHb n e = true → ∀ t, (look e t).hb n = true
  | [], _, t => rfl
  | (t', a) :: rest, h, t => by
    simp only [envHb, Bool.and_eq_true] at h
    rw [look_cons]
    split
    · exact h.1
    · exact envHb_get h.2 t
/-- The handles that came in go on as they were. -/
def keepOk : Nat → Nat → List Nat → Bool
  | 0, _, _ => true
  | k + 1, i, h :: t => Nat.beq h i && keepOk k (i + 1) t
  | _ + 1, _, [] => false
theorem keepOk_get : ∀ {k i : Nat} {q : List Nat}, keepOk k i q = true → k ≤ q.length ∧ ∀ j, j < k → q[j]? = some (i + j)
  | 0, _, _, _ => ⟨Nat.zero_le _, fun j h => by omega⟩
  | k + 1, i, h :: t, hk => by
    simp only [keepOk, Bool.and_eq_true] at hk
    obtain rfl := Nat.eq_of_beq_eq_true hk.1
    obtain ⟨h1, h2⟩ := keepOk_get hk.2
    refine ⟨by simpa using h1, fun j hj => ?_⟩
    match j with
    | 0 => rfl
    | j + 1 =>
      rw [List.getElem?_cons_succ, h2 j (by omega)]
      congr 1
      omega
  | _ + 1, _, [], hk => by cases hk
/-- What is known, told by other handles: q's alone go on, as 0, 1, .. -/
theorem retell {r : Rho} {A : View} {w : World} {g : Nat → Entry} (hc : Core r A w g) (q : List Nat) (H : Heap) (hH : heapFits g (ren1 q 0) H) (hq : nodup q = true) (hb : heapHb q.length H = true) :
    ∃ r' : Rho, Core r' A w H.get ∧ (∀ (a b : AVal) (v : Value), a.hb q.length = true → Fit g (a.ren (ren1 q 0)) b → VRel r A v b → VRel r' A v a) ∧ (∀ h, q.length ≤ h → r' h = none) ∧ (∀ j, j < q.length → r' j = r (ren1 q 0 j)) ∧ ∀ b, LiveB r' H.get b → LiveB r g b := by
  let r' : Rho := fun j => if j < q.length then r (ren1 q 0 j) else none
  have hrc : ∀ j l, j < q.length → r (ren1 q 0 j) = some l → r' j = some l := fun j l hj h => by simp only [r', if_pos hj]; exact h
  have inj : ∀ i j, i < q.length → j < q.length → ren1 q 0 i = ren1 q 0 j → i = j := fun i j hi hj e => by
    have h1 := List.getElem?_eq_getElem hi
    have h2 := List.getElem?_eq_getElem hj
    rw [ren1_lt h1, ren1_lt h2] at e
    rw [e] at h1
    exact nodup_get hq i j _ h1 h2
  have lt : ∀ j, (H.get j).live = true → j < q.length := fun j hl => by
    rcases (heapHb_get hb j).1 with hj | hd
    · exact hj
    · rw [hd] at hl; cases hl
  have live : ∀ j, (H.get j).live = true → (g (ren1 q 0 j)).live = true := fun j hl => by
    have := heapFits_get hH j
    cases hj : H.get j with
    | dead => rw [hj] at hl; cases hl
    | vars T sz cs l =>
      rw [hj] at this hl
      cases hs2 : g (ren1 q 0 j) with
      | vars T' sz' cs' l' => rw [hs2] at this; obtain ⟨_, _, rfl, _⟩ := this; exact hl
      | dead => rw [hs2] at this; exact this.elim
      | rows => rw [hs2] at this; exact this.elim
    | rows T sz es l =>
      rw [hj] at this hl
      cases hs2 : g (ren1 q 0 j) with
      | rows T' sz' es' l' => rw [hs2] at this; obtain ⟨_, _, rfl, _⟩ := this; exact hl
      | dead => rw [hs2] at this; exact this.elim
      | vars => rw [hs2] at this; exact this.elim
  have blk : ∀ j b, j < q.length → r'.blk j = some b → r.blk (ren1 q 0 j) = some b := fun j b hj h => by
    simp only [Rho.blk, r', if_pos hj] at h
    exact h
  refine ⟨r', ⟨hc.view, fun j => ?_, fun j j' b hl hl' hb1 hb2 => ?_⟩, fun a b v ha hf hv => VRel.unren hrc a ha (hf.rel hc hv), fun h hh => ?_, fun j hj => if_pos hj, fun b hbb => ?_⟩
  · have hf := heapFits_get hH j
    obtain ⟨i1, i2⟩ := heapHb_get hb j
    rcases i1 with hj | hd
    rotate_left
    · exact (by rw [hd]; trivial)
    have hent := hc.ent (ren1 q 0 j)
    cases hjj : H.get j with
    | dead => trivial
    | vars T sz cs l =>
      rw [hjj] at hf i2
      simp only at i2
      cases hs2 : g (ren1 q 0 j) with
      | dead => rw [hs2] at hf; exact hf.elim
      | rows => rw [hs2] at hf; exact hf.elim
      | vars T' sz' cs' l' =>
        rw [hs2] at hf hent
        obtain ⟨rfl, rfl, rfl, hcf⟩ := hf
        obtain ⟨k1, k2⟩ := cellsFit_get hcf
        cases l with
        | true =>
          obtain ⟨b, n, cap, cells, e1, e2, e3, e4, e5, e6, e7, e8⟩ := hent
          refine ⟨b, n, cap, cells, hrc j _ hj e1, e2, e3, e4, e5, by rw [k1, e6], fun p a ha => ?_, e8⟩
          obtain ⟨ho, x, hx, hfit⟩ := k2 p a ha
          exact ⟨VRel.unren hrc a (hbL_get i2 p a ha) (hfit.rel hc (e7 p x hx).1), ho⟩
        | false =>
          obtain ⟨b, n, cap, e1, e2, e3, e4⟩ := hent
          refine ⟨b, n, cap, hrc j _ hj e1, e2, by rw [k1, e3], fun p a ha => ?_⟩
          obtain ⟨ho, x, hx, hfit⟩ := k2 p a ha
          obtain ⟨_, u, q1, q2⟩ := e4 p x hx
          exact ⟨ho, u, q1, VRel.unren hrc a (hbL_get i2 p a ha) (hfit.rel hc q2)⟩
    | rows T sz es l =>
      rw [hjj] at hf
      cases hs2 : g (ren1 q 0 j) with
      | dead => rw [hs2] at hf; exact hf.elim
      | vars => rw [hs2] at hf; exact hf.elim
      | rows T' sz' es' l' =>
        rw [hs2] at hf hent
        obtain ⟨rfl, rfl, rfl, rfl⟩ := hf
        exact EntOk.unren (f := ren1 q 0) (e := .rows T sz es l) hrc hj rfl hent
  · exact inj j j' (lt j hl) (lt j' hl') (hc.dis _ _ b (live j hl) (live j' hl') (blk j b (lt j hl) hb1) (blk j' b (lt j' hl') hb2))
  · simp only [r']
    rw [if_neg (Nat.not_lt.2 hh)]
  · obtain ⟨j, hl, hbj⟩ := hbb
    exact ⟨_, live j hl, blk j b (lt j hl) hbj⟩
/-- What is known is told otherwise: the handles q alone go on, as 0, 1, .. -/
theorem Into.to {s : St} (q : List Nat) (e : Env) (H : Heap) (he : envFits s.H.get (ren1 q 0) s.env e) (hH : heapFits s.H.get (ren1 q 0) H) (hq : (nodup q && keepOk (kOf N) 0 q) = true) (hb : (envHb q.length e && heapHb q.length H) = true) : Into N s fun s' => s' = ⟨e, q.length, H⟩ := fun w0 A0 B0 r A act w hs => by
  simp only [Bool.and_eq_true] at hb hq
  obtain ⟨r', h1, h2, h3, h4, h5⟩ := retell hs.core q H hH hq.1 hb.2
  obtain ⟨k1, k2⟩ := keepOk_get hq.2
  refine ⟨_, r', A, rfl, hs.defers, hs.size, fun t => h2 _ _ _ (envHb_get hb.1 t) (envFits_get he t) (hs.env t), h1, h3, hs.frame, fun b hbb => hs.own b (h5 b hbb), fun h hh => ?_, k1⟩
  have := k2 h hh
  rw [Nat.zero_add] at this
  rw [h4 h (Nat.lt_of_lt_of_le hh k1), ren1_lt this]
  exact hs.keep h hh
/-- A slice that is none is a row of none. -/
theorem Into.row {s : St} (t T sz : Nat) (h : look s.env t = .nil) : Into N s fun s' => s' = ⟨(t, .row s.next) :: s.env, s.next + 1, (s.next, .rows T sz [] true) :: s.H⟩ := fun w0 A0 B0 r A act w hs => by
  have hn := hs.fresh s.next (Nat.le_refl _)
  have hsub := Rho.set_sub (l := ⟨none, 0, 0⟩) hn
  have hg : Heap.get ((s.next, .rows T sz [] true) :: s.H) = over [(s.next, .rows T sz [] true)] s.H.get := funext fun x => over_app_get [(s.next, .rows T sz [] true)] s.H x
  refine ⟨_, r.set s.next ⟨none, 0, 0⟩, A, rfl, hs.defers, hs.size, fun x => ?_, ?_, fun x hx => ?_, hs.frame, fun b hb => ?_, fun x hx => (Rho.set_ne (by have := hs.low; omega)).trans (hs.keep x hx), Nat.le_succ_of_le hs.low⟩
  · rw [look_cons]
    by_cases hx : t = x
    · subst hx
      rw [if_pos rfl]
      have := hs.env t
      rw [h] at this
      generalize act.tmps.getD t undef = v at this
      cases this with | nil a ha => exact .rowNil _ a ha Rho.set_same
    · rw [if_neg hx]; exact (hs.env x).mono hsub (Sub.refl A)
  · rw [hg]
    refine Core.step hs.core hsub (fun _ => False) (Fr.refl _ _ _) (fun b oo v hA => hs.core.view b oo v hA) (fun b hb => hb.elim) (fun x hx => ?_) (fun x b hx hl hb => ?_) (fun x hx hl => ?_)
    · obtain rfl : x = s.next := by simpa using hx
      rw [over_same]
      exact ⟨by simp, .inl ⟨Rho.set_same, rfl⟩⟩
    · obtain rfl : x = s.next := by simpa using hx
      simp [Rho.blk, Rho.set_same] at hb
    · have hne : x ≠ s.next := by simpa using hx
      simp only [Rho.blk, Rho.set_ne hne]
  · have : s.next ≠ x := by simp only at hx; omega
    rw [Rho.set_ne (Ne.symm this)]
    exact hs.fresh x (by simp only at hx; omega)
  · rw [hg] at hb
    obtain ⟨x, hl, hbx⟩ := hb
    by_cases hx : x = s.next
    · subst hx; simp [Rho.blk, Rho.set_same] at hbx
    · rw [over_ne (Ne.symm hx)] at hl
      exact hs.own b ⟨x, hl, by simpa only [Rho.blk, Rho.set_ne hx] using hbx⟩
/-- A variable's cell that is a slice of none is a row of none. -/
theorem Into.rowAt {s : St} (h T0 sz0 : Nat) (cs : List AVal) (j T sz : Nat) (hh : s.H.get h = .vars T0 sz0 cs true) (hlt : h < s.next) (hj : cs[j]? = some .nil) : Into N s fun s' => s' = ⟨s.env, s.next + 1, (s.next, .rows T sz [] true) :: (h, .vars T0 sz0 (cs.set j (.row s.next)) true) :: s.H⟩ := fun w0 A0 B0 r A act w hs => by
  have hn := hs.fresh s.next (Nat.le_refl _)
  have hsub := Rho.set_sub (l := ⟨none, 0, 0⟩) hn
  have hg : Heap.get ((s.next, .rows T sz [] true) :: (h, .vars T0 sz0 (cs.set j (.row s.next)) true) :: s.H) = over [(s.next, .rows T sz [] true), (h, .vars T0 sz0 (cs.set j (.row s.next)) true)] s.H.get := funext fun x => over_app_get [(s.next, .rows T sz [] true), (h, .vars T0 sz0 (cs.set j (.row s.next)) true)] s.H x
  have hne : h ≠ s.next := Nat.ne_of_lt hlt
  have blk : ∀ x, x ≠ s.next → (r.set s.next ⟨none, 0, 0⟩).blk x = r.blk x := fun x hx => by simp only [Rho.blk, Rho.set_ne hx]
  have hent := hs.core.ent h
  rw [hh] at hent
  have hlive : (s.H.get h).live = true := by rw [hh]; rfl
  refine ⟨_, r.set s.next ⟨none, 0, 0⟩, A, rfl, hs.defers, hs.size, fun x => (hs.env x).mono hsub (Sub.refl A), ?_, fun x hx => ?_, hs.frame, fun b hb => ?_, fun x hx => (Rho.set_ne (by have := hs.low; omega)).trans (hs.keep x hx), Nat.le_succ_of_le hs.low⟩
  · rw [hg]
    refine Core.step hs.core hsub (fun _ => False) (Fr.refl _ _ _) (fun b oo v hA => hs.core.view b oo v hA) (fun b hb => hb.elim) (fun x hx => ?_) (fun x b hx hl hb => ?_) (fun x hx hl => ?_)
    · by_cases hxn : x = s.next
      · subst hxn
        rw [over_same]
        exact ⟨by simp, .inl ⟨Rho.set_same, rfl⟩⟩
      · obtain rfl : x = h := by simpa [hxn] using hx
        rw [over_ne (Ne.symm hxn), over_same]
        obtain ⟨b, n, cap, cells, e1, e2, e3, e4, e5, e6, e7, e8⟩ := hent
        refine ⟨b, n, cap, cells, hsub _ _ e1, e2, e3, e4, e5, by simpa using e6, fun i a ha => ?_, e8⟩
        by_cases hij : j = i
        · subst hij
          have hjl := (List.getElem?_eq_some_iff.1 hj).1
          rw [List.getElem?_set_self hjl] at ha
          obtain rfl : AVal.row s.next = a := by simpa using ha
          obtain ⟨k1, k2⟩ := e7 j _ hj
          generalize cells.getD j undef = v at k1
          cases k1 with | nil a0 ha0 => exact ⟨.rowNil _ a0 ha0 Rho.set_same, rfl⟩
        · rw [List.getElem?_set_ne hij] at ha
          exact ⟨(e7 i a ha).1.mono hsub (Sub.refl A), (e7 i a ha).2⟩
    · by_cases hxn : x = s.next
      · subst hxn
        simp [Rho.blk, Rho.set_same] at hb
      · obtain rfl : x = h := by simpa [hxn] using hx
        rw [blk x hxn] at hb
        refine ⟨.inr ⟨x, by simp, hlive, hb⟩, fun h2 hh2 hl2 hb2 => ?_⟩
        by_cases hn2 : h2 = s.next
        · subst hn2; simp [Rho.blk, Rho.set_same] at hb2
        · simpa [hn2] using hh2
    · have hxn : x ≠ s.next := fun e => hx (by simp [e])
      exact blk x hxn
  · have : s.next ≠ x := by simp only at hx; omega
    rw [Rho.set_ne (Ne.symm this)]
    exact hs.fresh x (by simp only at hx; omega)
  · rw [hg] at hb
    obtain ⟨x, hl, hbx⟩ := hb
    by_cases hx : x = s.next
    · subst hx; simp [Rho.blk, Rho.set_same] at hbx
    · rw [blk x hx] at hbx
      rw [over_ne (Ne.symm hx)] at hl
      by_cases hxh : x = h
      · subst hxh; exact hs.own b ⟨x, hlive, hbx⟩
      · rw [over_ne (Ne.symm hxh)] at hl
        exact hs.own b ⟨x, hl, hbx⟩
theorem EntOk.rename {r r' : Rho} {A : View} {w : World} {h h' : Nat} {e : Entry} (hr : RSub r r') (hh : r' h' = r h) (he : EntOk r A w h e) : EntOk r' A w h' e := by
  match e, he with
  | .dead, _ => trivial
  | .vars T sz cs true, ⟨b, n, cap, cells, h1, h2, h3, h4, h5, h6, h7, h8⟩ => exact ⟨b, n, cap, cells, hh.trans h1, h2, h3, h4, h5, h6, fun j a ha => ⟨(h7 j a ha).1.mono hr (Sub.refl A), (h7 j a ha).2⟩, h8⟩
  | .vars T sz cs false, ⟨b, n, cap, h1, h2, h3, h4⟩ => exact ⟨b, n, cap, hh.trans h1, h2, h3, fun j a ha => let ⟨k1, v, k2, k3⟩ := h4 j a ha; ⟨k1, v, k2, k3.mono hr (Sub.refl A)⟩⟩
  | .rows T sz es true, ⟨h0, .inl ⟨h1, h2⟩⟩ => exact ⟨h0, .inl ⟨hh.trans h1, h2⟩⟩
  | .rows T sz es true, ⟨h0, .inr ⟨b, cap, cells, h1, h2, h3, h4, h5, h6, h7⟩⟩ => exact ⟨h0, .inr ⟨b, cap, cells, hh.trans h1, h2, h3, h4, h5, h6, h7⟩⟩
  | .rows T sz es false, ⟨h0, .inl ⟨h1, h2⟩⟩ => exact ⟨h0, .inl ⟨hh.trans h1, h2⟩⟩
  | .rows T sz es false, ⟨h0, .inr ⟨b, cap, h1, h2, f, h3, h4⟩⟩ => exact ⟨h0, .inr ⟨b, cap, hh.trans h1, h2, f, h3, h4⟩⟩
theorem EntOk.loc {r : Rho} {A : View} {w : World} {h : Nat} {e : Entry} (he : EntOk r A w h e) (hl : e.live = true) : ∃ l, r h = some l := by
  match e, he with
  | .dead, _ => cases hl
  | .vars T sz cs true, ⟨b, n, cap, cells, h1, _⟩ => exact ⟨_, h1⟩
  | .vars T sz cs false, ⟨b, n, cap, h1, _⟩ => exact ⟨_, h1⟩
  | .rows T sz es true, ⟨h0, .inl ⟨h1, h2⟩⟩ => exact ⟨_, h1⟩
  | .rows T sz es true, ⟨h0, .inr ⟨b, cap, cells, h1, _⟩⟩ => exact ⟨_, h1⟩
  | .rows T sz es false, ⟨h0, .inl ⟨h1, h2⟩⟩ => exact ⟨_, h1⟩
  | .rows T sz es false, ⟨h0, .inr ⟨b, cap, h1, _⟩⟩ => exact ⟨_, h1⟩
/-- A row of one's own goes on by another handle. -/
theorem Into.alias {s : St} (t h : Nat) (e : Entry) (ht : look s.env t = .row h) (he : s.H.get h = e) (hl : e.live = true) (hlt : h < s.next) : Into N s fun s' => s' = ⟨(t, .row s.next) :: s.env, s.next + 1, (s.next, e) :: (h, .dead) :: s.H⟩ := fun w0 A0 B0 r A act w hs => by
  have hn := hs.fresh s.next (Nat.le_refl _)
  have hent := hs.core.ent h
  rw [he] at hent
  obtain ⟨loc, hloc⟩ := hent.loc hl
  have hsub := Rho.set_sub (l := loc) hn
  have hg : Heap.get ((s.next, e) :: (h, .dead) :: s.H) = over [(s.next, e), (h, .dead)] s.H.get := funext fun x => over_app_get [(s.next, e), (h, .dead)] s.H x
  have hne : h ≠ s.next := Nat.ne_of_lt hlt
  have blk : ∀ x, x ≠ s.next → (r.set s.next loc).blk x = r.blk x := fun x hx => by simp only [Rho.blk, Rho.set_ne hx]
  have bnx : (r.set s.next loc).blk s.next = r.blk h := by simp only [Rho.blk, Rho.set_same, hloc]
  have hlive : (s.H.get h).live = true := by rw [he]; exact hl
  refine ⟨_, r.set s.next loc, A, rfl, hs.defers, hs.size, fun x => ?_, ?_, fun x hx => ?_, hs.frame, fun b hb => ?_, fun x hx => (Rho.set_ne (by have := hs.low; omega)).trans (hs.keep x hx), Nat.le_succ_of_le hs.low⟩
  · rw [look_cons]
    by_cases hx : t = x
    · subst hx
      rw [if_pos rfl]
      have := hs.env t
      rw [ht] at this
      generalize act.tmps.getD t undef = v at this
      cases this with
      | row _ b n cap hb => rw [hloc] at hb; cases hb; exact .row _ b n cap Rho.set_same
      | rowNil _ a ha hb => rw [hloc] at hb; cases hb; exact .rowNil _ a ha Rho.set_same
    · rw [if_neg hx]; exact (hs.env x).mono hsub (Sub.refl A)
  · rw [hg]
    refine Core.step hs.core hsub (fun _ => False) (Fr.refl _ _ _) (fun b oo v hA => hs.core.view b oo v hA) (fun b hb => hb.elim) (fun x hx => ?_) (fun x b hx hl2 hb => ?_) (fun x hx hl2 => ?_)
    · by_cases hxn : x = s.next
      · subst hxn
        rw [over_same]
        exact hent.rename hsub (by rw [Rho.set_same, hloc])
      · obtain rfl : x = h := by simpa [hxn] using hx
        rw [over_ne (Ne.symm hxn), over_same]
        trivial
    · by_cases hxn : x = s.next
      · subst hxn
        rw [bnx] at hb
        refine ⟨.inr ⟨h, by simp, hlive, hb⟩, fun h2 hh2 hl3 hb2 => ?_⟩
        by_cases hn2 : h2 = s.next
        · exact hn2
        · obtain rfl : h2 = h := by simpa [hn2] using hh2
          rw [over_ne (Ne.symm hn2), over_same] at hl3
          cases hl3
      · obtain rfl : x = h := by simpa [hxn] using hx
        rw [over_ne (Ne.symm hxn), over_same] at hl2
        cases hl2
    · have hxn : x ≠ s.next := fun e => hx (by simp [e])
      exact blk x hxn
  · have : s.next ≠ x := by simp only at hx; omega
    rw [Rho.set_ne (Ne.symm this)]
    exact hs.fresh x (by simp only at hx; omega)
  · rw [hg] at hb
    obtain ⟨x, hl2, hbx⟩ := hb
    by_cases hx : x = s.next
    · subst hx
      rw [bnx] at hbx
      exact hs.own b ⟨h, hlive, hbx⟩
    · rw [blk x hx] at hbx
      rw [over_ne (Ne.symm hx)] at hl2
      by_cases hxh : x = h
      · subst hxh; rw [over_same] at hl2; cases hl2
      · rw [over_ne (Ne.symm hxh)] at hl2
        exact hs.own b ⟨x, hl2, hbx⟩
/-- A row of one's own stays from here on. -/
theorem Into.stay {s : St} (h : Nat) (e : Entry) (he : (match s.H.get h with
    | .vars T sz cs true => some (.vars T sz cs false)
    | .rows T sz es true => some (.rows T sz es false)
    | _ => none) = some e) : Into N s fun s' => s' = ⟨s.env, s.next, (h, e) :: s.H⟩ := fun w0 A0 B0 r A act w hs => by
  have hg : Heap.get ((h, e) :: s.H) = over [(h, e)] s.H.get := funext fun x => over_app_get [(h, e)] s.H x
  have hent := hs.core.ent h
  have hlf : e.live = false := by
    split at he
    · cases he; rfl
    · cases he; rfl
    · cases he
  have hll : (s.H.get h).live = true := by
    split at he
    · rename_i hx; rw [hx]; rfl
    · rename_i hx; rw [hx]; rfl
    · cases he
  -- the view with that row's cells
  let A2 : View := fun b o => if r.blk h = some b then w.cell? ⟨b, o, none⟩ else A b o
  have hfree : ∀ b, r.blk h = some b → ∀ o, A b o = none := fun b hb => (hent.block hll hb).2
  have hA : Sub A A2 := fun b o v hv => by
    simp only [A2]
    split
    · rename_i hb
      rw [hfree b hb] at hv; cases hv
    · exact hv
  have hview : ∀ b o v, A2 b o = some v → w.cell? ⟨b, o, none⟩ = some v := fun b o v hv => by
    simp only [A2] at hv
    split at hv
    · exact hv
    · exact hs.core.view b o v hv
  have hcore : Core r A2 w (over [(h, e)] s.H.get) := by
    refine ⟨hview, fun x => ?_, fun x y b hx hy hbx hby => ?_⟩
    · by_cases hxh : x = h
      · subst hxh
        rw [over_same]
        split at he
        · rename_i T sz cs hx
          cases he
          rw [hx] at hent
          obtain ⟨b, n, cap, cells, e1, e2, e3, e4, e5, e6, e7, e8⟩ := hent
          refine ⟨b, n, cap, e1, e5, e6, fun j a ha => ⟨(e7 j a ha).2, cells.getD j undef, ?_, (e7 j a ha).1.mono (RSub.refl r) hA⟩⟩
          have hlt : j < cells.size := by
            have := (List.getElem?_eq_some_iff.1 ha).1
            have hm : n * sz ≤ cap * sz := Nat.mul_le_mul_right _ e5
            omega
          simp only [A2]
          rw [if_pos (by simp [Rho.blk, e1])]
          exact cell_of e2 (getD_some hlt undef)
        · rename_i T sz es hx
          cases he
          rw [hx] at hent
          obtain ⟨k0, ⟨k1, k2⟩ | ⟨b, cap, cells, e1, e2, e3, e4, e5, e6, e7⟩⟩ := hent
          · exact ⟨k0, .inl ⟨k1, k2⟩⟩
          · refine ⟨k0, .inr ⟨b, cap, e1, e5, fun i j => cells.getD (i * sz + j) undef, fun i j hi hj => ?_, fun i x hx j d hd => (e6 i x hx j d hd).mono hA⟩⟩
            have hlt : i * sz + j < cells.size := by
              have h1 : (i + 1) * sz ≤ es.length * sz := Nat.mul_le_mul_right _ hi
              have h2 : es.length * sz ≤ cap * sz := Nat.mul_le_mul_right _ e5
              rw [Nat.add_mul] at h1
              omega
            simp only [A2]
            rw [if_pos (by simp [Rho.blk, e1])]
            exact cell_of e2 (getD_some hlt undef)
        · cases he
      · rw [over_ne (Ne.symm hxh)]
        refine EntOk.mono (RSub.refl r) hA (fun hl b hb => ⟨rfl, funext fun o => ?_⟩) (hs.core.ent x)
        simp only [A2]
        rw [if_neg fun hb2 => hxh (hs.core.dis x h b hl hll hb hb2)]
    · have nx : x ≠ h := fun e0 => by subst e0; rw [over_same, hlf] at hx; cases hx
      have ny : y ≠ h := fun e0 => by subst e0; rw [over_same, hlf] at hy; cases hy
      rw [over_ne (Ne.symm nx)] at hx
      rw [over_ne (Ne.symm ny)] at hy
      exact hs.core.dis x y b hx hy hbx hby
  refine ⟨_, r, A2, rfl, hs.defers, hs.size, fun t => (hs.env t).mono (RSub.refl r) hA, by rw [hg]; exact hcore, hs.fresh, ⟨hs.frame.os, hs.frame.tape, hs.frame.output, hs.frame.size, hs.frame.block, hs.frame.sub.trans hA, fun b hb hn => funext fun o => ?_⟩, fun b hb => ?_, hs.keep, hs.low⟩
  · simp only [A2]
    rw [if_neg fun hb2 => ?_]
    · rw [hs.frame.keep b hb hn]
    · rcases hs.own b ⟨h, hll, hb2⟩ with h1 | h1
      · omega
      · exact hn h1
  · rw [hg] at hb
    obtain ⟨x, hl, hbx⟩ := hb
    have nx : x ≠ h := fun e0 => by subst e0; rw [over_same, hlf] at hl; cases hl
    rw [over_ne (Ne.symm nx)] at hl
    exact hs.own b ⟨x, hl, hbx⟩
end
end Go.Proofs.YtlioojekjnigiafGreat.AM
/- What came in, opened: data of their types. -/
namespace Go.Proofs.YtlioojekjnigiafGreat.AM
set_option linter.unusedVariables false
set_option linter.unusedSimpArgs false

def szAt (tab : Tab) (T : Nat) : Nat := match nth tab T with
  | some ti => ti.size
  | none => 0
def byAt (tab : Tab) (T : Nat) : Nat := match nth tab T with
  | some ti => ti.bytes
  | none => 0
/-- Fields that lie side by side. -/
def contig (tab : Tab) : List (Nat × Nat) → Nat → Nat → Bool
  | [], o, n => Nat.beq o n
  | (t, off) :: fs, o, n => Nat.beq off o && contig tab fs (o + szAt tab t) n
/-- Types that can be opened. -/
def okT (tab : Tab) : Nat → Nat → Bool
  | 0, _ => false
  | n + 1, T => match nth tab T with
    | none => false
    | some ti => match ti.kind with
      | .bool | .int _ | .string => true
      | .slice e => (nth tab e).isSome && Nat.blt 0 (szAt tab e) && okT tab n e
      | .struct fs => contig tab fs 0 ti.size && fs.all fun f => (nth tab f.1).isSome && okT tab n f.1
      | .array c e => (nth tab e).isSome && Nat.beq (c * szAt tab e) ti.size && okT tab n e
      | _ => false
/-- Data of several types, side by side. -/
def WTs (wt : Nat → List D → Prop) : List Nat → List D → Prop
  | [], ds => ds = []
  | t :: ts, ds => ∃ xs ys, ds = xs ++ ys ∧ wt t xs ∧ WTs wt ts ys
/-- Data of a type. -/
def WT (tab : Tab) : Nat → Nat → List D → Prop
  | 0, _, _ => False
  | n + 1, T, ds => match nth tab T with
    | none => False
    | some ti => match ti.kind with
      | .bool => ∃ b, ds = [.bool b]
      | .int k => ∃ m, ds = [.int k m] ∧ (Lit.int k m).wf = true
      | .string => ∃ s, ds = [.str s] ∧ s.size ≤ 140737488351232
      | .slice e => ∃ es, ds = [.list es] ∧ es.length * byAt tab e ≤ 140737488351232 ∧ ∀ e' ∈ es, WT tab n e e'
      | .struct fs => WTs (WT tab n) (fs.map (·.1)) ds
      | .array c e => WTs (WT tab n) (List.replicate c e) ds
      | _ => False

section
variable {P : Program} {tab : Tab} {H : Type} {enc : TypeId × Value → H} {w : World} {base : Nat} {sp : Nat → Bool} {held : Bool}

/-- Cells and what they say. -/
def Reads1 (w : World) (cs : List Value) (ds : List D) : Prop := ds.length = cs.length ∧ ∀ (j : Nat) (d : D), ds[j]? = some d → ∃ v, cs[j]? = some v ∧ Rep (full w) v d
theorem szAt_ok (ht : TabOk P tab) {t : Nat} (h : (nth tab t).isSome = true) : P.cellsOf t = szAt tab t := by
  obtain ⟨ti, hti⟩ := Option.isSome_iff_exists.1 h
  obtain ⟨i, hi, hs, _⟩ := (ht t ti hti).info
  simp [Program.cellsOf, hi, szAt, hti, hs]
theorem byAt_ok (ht : TabOk P tab) {t : Nat} (h : (nth tab t).isSome = true) : P.bytesOf t = byAt tab t := by
  obtain ⟨ti, hti⟩ := Option.isSome_iff_exists.1 h
  obtain ⟨i, hi, _, hs, _⟩ := (ht t ti hti).info
  simp [Program.bytesOf, hi, byAt, hti, hs]
theorem contig_le : ∀ {fs : List (Nat × Nat)} {o n : Nat}, contig tab fs o n = true → o ≤ n
  | [], o, n, h => by simp only [contig] at h; exact Nat.le_of_eq (Nat.eq_of_beq_eq_true h)
  | (t, off) :: fs, o, n, h => by
    simp only [contig, Bool.and_eq_true] at h
    have := contig_le h.2
    omega
theorem segs {cs : List Value} {wt : Nat → List D → Prop} : ∀ (fs : List (Nat × Nat)) (o : Nat), contig tab fs o cs.length = true → (∀ f ∈ fs, ∃ xs, wt f.1 xs ∧ Reads1 w ((cs.drop f.2).take (szAt tab f.1)) xs) → ∃ ds, WTs wt (fs.map (·.1)) ds ∧ Reads1 w (cs.drop o) ds
  | [], o, h, _ => by
    simp only [contig] at h
    have := Nat.eq_of_beq_eq_true h
    exact ⟨[], rfl, by simp; omega, by simp⟩
  | (t, off) :: fs, o, h, hx => by
    simp only [contig, Bool.and_eq_true] at h
    obtain rfl := Nat.eq_of_beq_eq_true h.1
    obtain ⟨xs, h1, h2, h3⟩ := hx (t, off) (by simp)
    obtain ⟨ys, k1, k2, k3⟩ := segs fs (off + szAt tab t) h.2 fun f hf => hx f (by simp [hf])
    have hle := contig_le h.2
    simp only [List.length_take, List.length_drop] at h2 k2
    have h2' : xs.length = min (szAt tab t) (cs.length - off) := h2
    refine ⟨xs ++ ys, ⟨xs, ys, rfl, h1, k1⟩, by simp; omega, fun j d hj => ?_⟩
    by_cases hlt : j < xs.length
    · rw [List.getElem?_append_left hlt] at hj
      obtain ⟨v, q1, q2⟩ := h3 j d hj
      have hj2 : j < szAt tab t := by omega
      rw [List.getElem?_take, if_pos hj2] at q1
      exact ⟨v, q1, q2⟩
    · rw [List.getElem?_append_right (by omega)] at hj
      obtain ⟨v, q1, q2⟩ := k3 _ d hj
      rw [List.getElem?_drop] at q1
      refine ⟨v, ?_, q2⟩
      rw [List.getElem?_drop, ← q1]
      congr 1
      omega
theorem contig_array {e c n : Nat} (hn : c * szAt tab e = n) : contig tab ((List.range c).map fun i => (e, i * szAt tab e)) 0 n = true := by
  have key : ∀ (c s : Nat), contig tab ((List.range' s c).map fun i => (e, i * szAt tab e)) (s * szAt tab e) ((s + c) * szAt tab e) = true := by
    intro c
    induction c with
    | zero => intro s; simp [contig, Nat.beq_refl]
    | succ c ih =>
      intro s
      rw [List.range'_succ, List.map_cons]
      simp only [contig, Nat.beq_refl, Bool.true_and]
      have := ih (s + 1)
      rw [Nat.add_mul, Nat.one_mul] at this
      rw [show s + (c + 1) = s + 1 + c by omega]
      exact this
  have := key c 0
  rw [Nat.zero_mul, Nat.zero_add, hn] at this
  rw [List.range_eq_range']
  exact this
theorem mem_weightsAll {e : TypeId} : ∀ {ds : List (DataW H)} {i : Nat} {d : DataW H}, ds[i]? = some d → ∀ n ∈ d.weights P e, n ∈ DataW.weightsAll P e ds
  | [], i, d, h, n, hn => by simp at h
  | d0 :: ds, 0, d, h, n, hn => by
    obtain rfl : d0 = d := by simpa using h
    simp only [DataW.weightsAll, List.mem_append]
    exact .inl hn
  | d0 :: ds, i + 1, d, h, n, hn => by
    simp only [DataW.weightsAll, List.mem_append]
    exact .inr (mem_weightsAll (ds := ds) (i := i) (by simpa using h) n hn)
/-- What is read as data of a type, opened. -/
theorem open_wt (ht : TabOk P tab) : ∀ (n T fuel : Nat) (cs : List Value) (x : DataW H × List MemPlace), okT tab n T = true → DataW.trod enc P w base sp held fuel T cs = some x → (∀ m ∈ DataW.weights P T x.1, m ≤ reachBytes) → ∃ ds, WT tab n T ds ∧ Reads1 w cs ds := by
  intro n
  induction n with
  | zero => intro T fuel cs x h; cases h
  | succ n ih =>
    intro T fuel cs x hok h hw
    simp only [okT] at hok
    cases hti : nth tab T with
    | none => rw [hti] at hok; cases hok
    | some ti =>
      rw [hti] at hok
      simp only at hok
      simp only [WT, hti]
      obtain ⟨d, hd, hk⟩ := (ht T ti hti).kind
      have one : ∀ {v : Value} {d : D}, Rep (full w) v d → Reads1 w [v] [d] := fun {v d} hr => ⟨rfl, fun j d' hj => by
        match j with
        | 0 =>
          obtain rfl : d = d' := by simpa using hj
          exact ⟨v, rfl, hr⟩
        | j + 1 => simp at hj⟩
      cases hkk : ti.kind with
      | bool =>
        rw [hkk] at hk
        obtain rfl : d = .bool := hk
        obtain ⟨b, rfl, _⟩ := DataW.trod_bool hd h
        exact ⟨_, ⟨b, rfl⟩, one (.bool b)⟩
      | int k =>
        rw [hkk] at hk
        obtain rfl : d = .int k := hk
        obtain ⟨m, rfl, _, hwf⟩ := DataW.trod_int hd h
        exact ⟨_, ⟨m, rfl, hwf⟩, one (.int k m)⟩
      | string =>
        rw [hkk] at hk
        obtain rfl : d = .string := hk
        obtain ⟨s, rfl, rfl, _⟩ := DataW.trod_string hd h
        have := hw s.data.toList.length (by simp only [DataW.weights, List.mem_singleton])
        have hsz : s.data.toList.length = s.size := by rw [Array.length_toList]; rfl
        rw [hsz] at this
        exact ⟨_, ⟨s, rfl, this⟩, one (.str s)⟩
      | slice e =>
        rw [hkk] at hk
        simp only [hkk] at hok
        obtain rfl : d = .slice e := hk
        simp only [Bool.and_eq_true] at hok
        rcases DataW.trod_slice hd h with ⟨rfl, rfl⟩ | ⟨a, len, cap, elems, rest, m, _, rfl, rfl, _, hle, hcap, hlen, hel, _, _⟩
        · exact ⟨_, ⟨[], rfl, by simp, by simp⟩, one (.list none 0 0 [] (fun _ _ => undef) (Nat.le_refl _) (by simp) (fun h => absurd rfl h) (by simp))⟩
        · have hsz := szAt_ok ht hok.1.1
          have hpos : 0 < szAt tab e := by simpa [Nat.blt_eq] using hok.1.2
          have each : ∀ i, i < len → ∃ es : List D, WT tab n e es ∧ es.length = szAt tab e ∧ ∀ j d, es[j]? = some d → ∃ v, w.cell? ((a.add (i * szAt tab e)).add j) = some v ∧ Rep (full w) v d := by
            intro i hi
            have h1 := hel i hi
            have hi' : i < elems.length := by omega
            rw [List.getElem?_eq_getElem hi', Option.bind_eq_some_iff] at h1
            obtain ⟨cs', hc, htr⟩ := h1
            rw [hsz] at hc
            obtain ⟨_, hcl, hcc⟩ := World.cells?_some hc
            obtain ⟨es, k1, k2, k3⟩ := ih e m cs' _ hok.2 htr fun q hq => hw q (by
              simp only [DataW.weights, hd, List.mem_cons, List.mem_append]
              exact .inr (.inl (mem_weightsAll (i := i) (by simp [hi']) q hq)))
            refine ⟨es, k1, by rw [k2, hcl], fun j d hj => ?_⟩
            obtain ⟨v, q1, q2⟩ := k3 j d hj
            have hj' : j < szAt tab e := by
              have := (List.getElem?_eq_some_iff.1 q1).1
              omega
            exact ⟨v, by rw [hcc j hj', q1], q2⟩
          obtain ⟨F, hF⟩ := Go.Deep.choose_lt each
          have hEl : ((List.range len).map F).length = len := by simp
          have hEg : ∀ (i : Nat) (e' : List D), ((List.range len).map F)[i]? = some e' → i < len ∧ F i = e' := fun i e' h => by
            have hi : i < len := by
              have := (List.getElem?_eq_some_iff.1 h).1
              omega
            exact ⟨hi, by simpa [hi] using h⟩
          have hby := hw ((elems.length + rest.length) * P.bytesOf e) (by simp [DataW.weights, hd])
          rw [byAt_ok ht hok.1.1] at hby
          refine ⟨_, ⟨(List.range len).map F, rfl, ?_, fun e' he => ?_⟩, ?_⟩
          · rw [hEl]
            have : len * byAt tab e ≤ (elems.length + rest.length) * byAt tab e := Nat.mul_le_mul_right _ (by omega)
            unfold reachBytes at hby
            omega
          · obtain ⟨i, hi⟩ := List.getElem?_of_mem he
            obtain ⟨h1, rfl⟩ := hEg i e' hi
            exact (hF i h1).1
          · by_cases h0 : len = 0
            · subst h0
              exact one (Rep.list (some a) cap 0 [] (fun _ _ => undef) (Nat.zero_le _) (by simp) (fun h => absurd rfl h) (by simp))
            · obtain ⟨_, f1, f2⟩ := hF 0 (by omega)
              obtain ⟨v0, q1, _⟩ := f2 0 _ (List.getElem?_eq_getElem (by omega))
              have hspot := World.cell?_spot q1
              obtain ⟨b, off, spot⟩ := a
              obtain rfl : spot = none := by
                simp only [Addr.add] at hspot
                simpa using hspot
              have hadd : ∀ o i, (⟨b, o, none⟩ : Addr).add i = ⟨b, o + i, none⟩ := fun o i => by unfold Addr.add; split <;> simp_all
              have hr : Rep (full w) (.slice (some ⟨b, off, none⟩) len cap) (.list ((List.range len).map F)) := by
                refine rep_of_rows (b := b) (off := off) (sz := szAt tab e) hEl.symm (by omega) (fun e' he => ?_) (fun _ => rfl) fun i e' hi j d hj => ?_
                · obtain ⟨i, hi⟩ := List.getElem?_of_mem he
                  obtain ⟨h1, rfl⟩ := hEg i e' hi
                  exact (hF i h1).2.1
                · obtain ⟨h1, rfl⟩ := hEg i e' hi
                  obtain ⟨v, q1, q2⟩ := (hF i h1).2.2 j d hj
                  rw [hadd, hadd] at q1
                  exact ⟨v, q1, q2⟩
              exact one hr
      | struct fs =>
        rw [hkk] at hk
        simp only [hkk] at hok
        obtain ⟨fields, rfl, rfl⟩ := hk
        simp only [Bool.and_eq_true] at hok
        obtain ⟨xs, m, _, rfl, hl, hn, hf⟩ := DataW.trod_struct hd h
        have hT : P.cellsOf T = ti.size := by
          rw [szAt_ok ht (by rw [hti]; rfl)]
          simp [szAt, hti]
        refine segs _ 0 (by rw [hl, hT]; exact hok.1) fun f hf2 => ?_
        have hall := List.all_eq_true.1 hok.2 f hf2
        simp only [Bool.and_eq_true] at hall
        obtain ⟨i, hi⟩ := List.getElem?_of_mem hf2
        rw [List.getElem?_map, Option.map_eq_some_iff] at hi
        obtain ⟨g, hg, rfl⟩ := hi
        have hg' : fields[i]? = some g := by simpa using hg
        have h1 := hf i g hg'
        have hi' : i < xs.length := by rw [hn]; exact (Array.getElem?_eq_some_iff.1 hg').1
        rw [List.getElem?_eq_getElem hi', szAt_ok ht hall.1] at h1
        exact ih g.type m _ _ hall.2 h1 fun q hq => hw q (by
          simp only [DataW.weights, hd]
          exact DataW.weights_mem_each (j := i) (t := g.type) (by rw [List.getElem?_map, hg]; rfl) (by rw [List.getElem?_map, List.getElem?_eq_getElem hi']; rfl) q hq)
      | array c e =>
        rw [hkk] at hk
        simp only [hkk] at hok
        obtain rfl : d = .array c e := hk
        simp only [Bool.and_eq_true] at hok
        obtain ⟨xs, m, _, rfl, hl, hn, hf⟩ := DataW.trod_array hd h
        have hT : P.cellsOf T = ti.size := by
          rw [szAt_ok ht (by rw [hti]; rfl)]
          simp [szAt, hti]
        have hse := szAt_ok ht hok.1.1
        have := segs (w := w) (tab := tab) (cs := cs) (wt := WT tab n) ((List.range c).map fun i => (e, i * szAt tab e)) 0 (contig_array (by rw [hl, hT]; exact Nat.eq_of_beq_eq_true hok.1.2)) fun f hf2 => by
          rw [List.mem_map] at hf2
          obtain ⟨i, hi, rfl⟩ := hf2
          rw [List.mem_range] at hi
          have h1 := hf i hi
          have hi' : i < xs.length := by omega
          rw [List.getElem?_eq_getElem hi', hse] at h1
          exact ih e m _ _ hok.2 h1 fun q hq => hw q (by
            simp only [DataW.weights, hd]
            exact mem_weightsAll (i := i) (by rw [List.getElem?_map, List.getElem?_eq_getElem hi']; rfl) q hq)
        have hm : ((List.range c).map fun i => (e, i * szAt tab e)).map (·.1) = List.replicate c e := by
          rw [List.map_map]
          exact List.ext_getElem? fun i => by by_cases hi : i < c <;> simp [hi, List.getElem?_replicate]
        rw [hm] at this
        exact this
      | pointer e => simp only [hkk] at hok; cases hok
      | other => simp only [hkk] at hok; cases hok
end
end Go.Proofs.YtlioojekjnigiafGreat.AM
/- A law that answers true whatever data it is handed: called with what came in, it answers true, and nothing of old is changed. -/
namespace Go.Proofs.YtlioojekjnigiafGreat.AM
set_option linter.unusedVariables false
set_option linter.unusedSimpArgs false

def oneA : List D → AVal
  | [d] => .dat d
  | _ => .any
def argA (tab : Tab) (T : Nat) (ds : List D) : AVal := match nth tab T with
  | some ti => bif ti.kind.isAgg then .agg (ds.map .dat) else oneA ds
  | none => .any
def argsA (tab : Tab) : List Nat → List (List D) → List AVal
  | t :: ts, ds :: dss => argA tab t ds :: argsA tab ts dss
  | _, _ => []
def AllWT (tab : Tab) (n : Nat) : List Nat → List (List D) → Prop
  | [], [] => True
  | t :: ts, ds :: dss => WT tab n t ds ∧ AllWT tab n ts dss
  | _, _ => False

section
variable {P : Program} {tab : Tab} {H : Type} {enc : TypeId × Value → H} {W : World} {sp : Nat → Bool} {held : Bool}

theorem cell_not_agg {base : Nat} {t : TypeId} {d : TypeDesc} {cs : Array Value} (hd : P.underlying t = some d) (hk : (match d with | .bool | .int _ | .string | .slice _ => true | _ => false) = true) (h : Cell.okWide P W .any base t (.agg cs)) : False := by
  unfold Cell.okWide Cell.ok at h
  rw [hd] at h
  cases d <;> first | exact h | cases hk
theorem arg_rel (ht : TabOk P tab) {n T base : Nat} {v : Value} {d : DataW H} {ps : List MemPlace} (hok : okT tab n T = true) (hv : Value.okWide P W .any base T v) (h : DataW.Trod enc P W 0 sp held T v d ps) (hw : ∀ m ∈ DataW.weights P T d, m ≤ reachBytes) : ∃ ds, WT tab n T ds ∧ VRel (fun _ => none) (full W) v (argA tab T ds) := by
  obtain ⟨fuel, hf⟩ := h
  obtain ⟨ds, h1, h2, h3⟩ := open_wt ht n T fuel _ _ hok hf hw
  refine ⟨ds, h1, ?_⟩
  cases n with
  | zero => cases hok
  | succ n =>
    simp only [okT] at hok
    cases hti : nth tab T with
    | none => rw [hti] at hok; cases hok
    | some ti =>
      rw [hti] at hok
      simp only at hok
      simp only [argA, hti]
      obtain ⟨td, hd, hk⟩ := (ht T ti hti).kind
      have agg : (∃ cs, v = .agg cs) → VRel (fun _ => none) (full W) v (.agg (ds.map .dat)) := fun ⟨cs, e⟩ => by
        subst e
        simp only [Value.cells, Array.length_toList] at h2 h3
        refine .agg cs _ (by simp [h2]) fun j a ha => ?_
        rw [List.getElem?_map, Option.map_eq_some_iff] at ha
        obtain ⟨x, hx, rfl⟩ := ha
        obtain ⟨u, q1, q2⟩ := h3 j x hx
        rw [Array.getElem?_toList] at q1
        rw [Array.getD_eq_getD_getElem?, q1]
        exact .dat q2
      have one : (∀ cs, v ≠ .agg cs) → VRel (fun _ => none) (full W) v (oneA ds) := fun hne => by
        have hc : v.cells = #[v] := by
          cases v <;> first | rfl | exact absurd rfl (hne _)
        rw [hc] at h2 h3
        match ds, h2 with
        | [x], _ =>
          obtain ⟨u, q1, q2⟩ := h3 0 x rfl
          obtain rfl : v = u := by simpa using q1
          exact .dat q2
      cases hkk : ti.kind <;> simp only [hkk] at hok hk
      case pointer e => cases hok
      case other => cases hok
      case struct fs =>
        obtain ⟨fields, rfl, _⟩ := hk
        obtain ⟨cs, hcs, _⟩ := Go.WideShapes.okWide_struct hd hv
        exact agg ⟨cs, hcs⟩
      case array c e =>
        obtain rfl : td = .array c e := hk
        simp only [Value.okWide, hd] at hv
        obtain ⟨cs, hcs, _⟩ := hv
        exact agg ⟨cs, hcs⟩
      case bool =>
        obtain rfl : td = .bool := hk
        simp only [Value.okWide, hd] at hv
        exact one fun cs e => by subst e; exact cell_not_agg hd rfl hv
      case int k =>
        obtain rfl : td = .int k := hk
        simp only [Value.okWide, hd] at hv
        exact one fun cs e => by subst e; exact cell_not_agg hd rfl hv
      case string =>
        obtain rfl : td = .string := hk
        simp only [Value.okWide, hd] at hv
        exact one fun cs e => by subst e; exact cell_not_agg hd rfl hv
      case slice e =>
        obtain rfl : td = .slice e := hk
        simp only [Value.okWide, hd] at hv
        exact one fun cs e => by subst e; exact cell_not_agg hd rfl hv
theorem args_rel (ht : TabOk P tab) {n base : Nat} : ∀ {ts : List Nat} {vs : List Value} {ds : List (DataW H)} {ps : List MemPlace}, (ts.all (okT tab n) = true) → (∀ (j : Nat) t v, ts[j]? = some t → vs[j]? = some v → Value.okWide P W .any base t v) → DataW.TrodAll enc P W 0 sp held ts vs ds ps → (∀ m ∈ DataW.weightsEach P ts ds, m ≤ reachBytes) →
    ∃ dss, AllWT tab n ts dss ∧ vs.length = (argsA tab ts dss).length ∧ ∀ (j : Nat) (a : AVal), (argsA tab ts dss)[j]? = some a → ∃ v, vs[j]? = some v ∧ VRel (fun _ => none) (full W) v a
  | [], [], [], ps, _, _, _, _ => ⟨[], trivial, rfl, by simp [argsA]⟩
  | t :: ts, v :: vs, d :: ds, ps, hok, hv, h, hw => by
    obtain ⟨p, q, h1, h2, _⟩ := h
    simp only [List.all_cons, Bool.and_eq_true] at hok
    obtain ⟨xs, k1, k2⟩ := arg_rel ht hok.1 (hv 0 t v rfl rfl) h1 fun m hm => hw m (by simp only [DataW.weightsEach, List.mem_append]; exact .inl hm)
    obtain ⟨dss, k3, k4, k5⟩ := args_rel ht hok.2 (fun j t v h1 h2 => hv (j + 1) t v h1 h2) h2 fun m hm => hw m (by simp only [DataW.weightsEach, List.mem_append]; exact .inr hm)
    refine ⟨xs :: dss, ⟨k1, k3⟩, by simp [argsA, k4], fun j a ha => ?_⟩
    match j with
    | 0 =>
      obtain rfl : argA tab t xs = a := by simpa [argsA] using ha
      exact ⟨v, rfl, k2⟩
    | j + 1 => exact k5 j a (by simpa [argsA] using ha)
  | [], _ :: _, _, _, _, _, h, _ => h.elim
  | [], [], _ :: _, _, _, _, h, _ => h.elim
  | _ :: _, [], _, _, _, _, h, _ => h.elim
  | _ :: _, _ :: _, [], _, _, _, h, _ => h.elim
/-- A law that answers true. -/
theorem law_run (ht : TabOk P tab) {n base F : Nat} {ts : List Nat} {args : Array Value} {ds : List (DataW H)} {ps : List MemPlace} (hok : ts.all (okT tab n) = true) (hv : ∀ (j : Nat) t v, ts[j]? = some t → args[j]? = some v → Value.okWide P W .any base t v) (h : DataW.TrodAll enc P W 0 sp held ts args.toList ds ps) (hw : ∀ m ∈ DataW.weightsEach P ts ds, m ≤ reachBytes)
    (hlaw : ∀ dss, AllWT tab n ts dss → PCall P F (argsA tab ts dss) (.dat (.bool true))) : Calls P F args W fun e W' => e = .returned (.bool true) ∧ Go.RowKit.Below W.heap.size W W' := by
  obtain ⟨dss, h1, h2, h3⟩ := args_rel ht hok (fun j t v h1 h2 => hv j t v h1 (by simpa using h2)) h hw
  refine ((hlaw dss h1).2 (fun _ => none) (full W) W args (fun _ _ => rfl) ⟨fun b o v h => h, fun h => trivial, fun h h' b hl => by cases hl⟩ (by simpa using h2) fun j a ha => ?_).mono fun e W' he => ?_
  · obtain ⟨v, q1, q2⟩ := h3 j a ha
    rw [Array.getElem?_toList] at q1
    rw [Array.getD_eq_getD_getElem?, q1]
    exact q2
  · obtain ⟨v, r', A', x, H', n', rfl, ⟨rfl, rfl, rfl⟩, _, _, _, _, hvr, hfr, _⟩ := he
    cases hvr with
    | dat hr =>
      cases hr
      exact ⟨rfl, hfr.os, hfr.tape, hfr.output, hfr.size, fun k hk => hfr.block k hk fun ⟨_, hl, _⟩ => by cases hl⟩
end
end Go.Proofs.YtlioojekjnigiafGreat.AM
/- Ids and entries, as data. -/
namespace Go.Proofs.YtlioojekjnigiafGreat.AM
set_option linter.unusedVariables false
set_option linter.unusedSimpArgs false

structure Id where
  r : Int
  n : Int
theorem Id.ext' {a b : Id} (h1 : a.r = b.r) (h2 : a.n = b.n) : a = b := by cases a; cases b; simp_all
instance : DecidableEq Id := fun a b => if h : a.r = b.r ∧ a.n = b.n then .isTrue (Id.ext' h.1 h.2) else .isFalse fun e => h ⟨by rw [e], by rw [e]⟩
def Id.enc (x : Id) : List D := [.int .i64 x.r, .int .i64 x.n]
def Id.arg (x : Id) : AVal := .agg [.dat (.int .i64 x.r), .dat (.int .i64 x.n)]
structure Entry' where
  id : Id
  colors : Int
  text : ByteArray
  links : List Id
def Entry'.enc (e : Entry') : List D := [.int .i64 e.id.r, .int .i64 e.id.n, .int .i64 e.colors, .str e.text, .list (e.links.map Id.enc)]
def Entry'.arg (e : Entry') : AVal := .agg [.dat (.int .i64 e.id.r), .dat (.int .i64 e.id.n), .dat (.int .i64 e.colors), .dat (.str e.text), .dat (.list (e.links.map Id.enc))]
def dInt (n : Int) : AVal := .dat (.int .i64 n)
def dBool (b : Bool) : AVal := .dat (.bool b)

def Id.less (a b : Id) : Bool := if a.r = b.r then decide (a.n < b.n) else decide (a.r < b.r)
theorem less_ok (a b : Id) : PCall Tryz.prog 82 [a.arg, b.arg] (dBool (a.less b)) := by
  refine pcall_intro tab_all tab_mixed Tryz.func82 (by kernel_rfl) Tryz.ntmps82 rfl ?_
  conv => whnf
  refine ⟨fun h => ?_, fun h => ?_⟩
  · conv => whnf
    refine ⟨congrArg dBool ?_⟩
    have h : a.r ≠ b.r := by simpa using h
    simp [Id.less, h]
  · conv => whnf
    refine ⟨congrArg dBool ?_⟩
    have h : a.r = b.r := by simpa using h
    simp [Id.less, h]
theorem isRegion_ok (n : Int) : PCall Tryz.prog 220 [dInt n] (dBool (decide (n = 0) || decide (n = 1))) := by
  refine pcall_intro tab_all tab_mixed Tryz.func220 (by kernel_rfl) Tryz.ntmps220 rfl ?_
  conv => whnf
  refine ⟨fun h => ?_, fun h => ?_⟩
  · conv => whnf
    refine ⟨congrArg dBool ?_⟩
    have h : n = 0 := by simpa using h
    simp [h]
  · conv => whnf
    refine ⟨congrArg dBool ?_⟩
    have h : n ≠ 0 := by simpa using h
    simp only [h, decide_false, Bool.false_or]
    rfl
theorem AtIdx.ofMap {α : Type} {enc : α → List D} {l : List α} {i sz : Nat} {k : Nat → List D → Prop} (h : i < l.length) (hl : (enc l[i]).length = sz) (hk : k i (enc l[i])) : AtIdx (i : Nat) (l.map enc) sz k :=
  .mk i (enc l[i]) rfl (by simp [h]) hl hk
theorem Ret.bool {a b : Bool} (h : a = b) : Ret (.dat (.bool a)) (dBool b) := ⟨congrArg dBool h⟩
theorem Ret.int {a b : Int} (h : a = b) : Ret (.dat (.int .i64 a)) (dInt b) := ⟨congrArg dInt h⟩
theorem wrap_id {n : Int} (h1 : -9223372036854775808 ≤ n) (h2 : n ≤ 9223372036854775807) : IntKind.i64.wrap n = n := by
  simp only [IntKind.wrap, IntKind.bits, IntKind.signed, Bool.true_and]
  split <;> simp_all <;> omega
theorem wrap_up {i : Nat} (h : i + 1 ≤ 140737488355328) : ((i + 1 : Nat) : Int) = IntKind.i64.wrap ((i : Int) + 1) := by
  rw [wrap_id (by omega) (by omega)]
  rfl
def isIdx {α : Type} (p : α → Bool) : List α → Nat → Option Nat
  | [], _ => none
  | a :: t, i => if p a then some i else isIdx p t (i + 1)
def idxOf (o : Option Nat) : Int := match o with
  | some i => i
  | none => -1
theorem indexFunc_entry {cl : Nat} {ds : List D} {l : List Entry'} {p : Entry' → Bool} (hl : l.length ≤ 140737488355328) (hcl : ∀ x ∈ l, PCall Tryz.prog cl [x.arg, .dat (.ptr ds)] (dBool (p x))) :
    PCall Tryz.prog 214 [.dat (.list (l.map Entry'.enc)), .fn (.func cl) [] [.dat (.ptr ds)]] (dInt (idxOf (isIdx p l 0))) := by
  refine pcall_intro tab_all tab_mixed Tryz.func214 (by kernel_rfl) Tryz.ntmps214 rfl ?_
  conv => whnf
  refine LoopOk.mk (fun m s => ∃ i, i + m = l.length ∧ isIdx p l 0 = isIdx p (l.drop i) i ∧ s = ⟨[(8, dInt i), (7, dInt (l.map Entry'.enc).length), (1, .fn (.func cl) [] [.dat (.ptr ds)]), (0, .dat (.list (l.map Entry'.enc)))], 0, []⟩) l.length (Into.mono (Into.to [] [(8, dInt (0 : Nat)), (7, dInt (l.map Entry'.enc).length), (1, .fn (.func cl) [] [.dat (.ptr ds)]), (0, .dat (.list (l.map Entry'.enc)))] [] ⟨.same rfl, .same rfl, .same rfl, .same rfl, trivial⟩ trivial rfl rfl) fun s' h => ⟨0, by omega, rfl, h⟩) ?_
  rintro m s ⟨i, hi, hp, rfl⟩
  conv => whnf
  refine SeqOk.go ?_
  conv => whnf
  refine ⟨fun h => ?_, fun h => ?_⟩
  · conv => whnf
    have hi' : i < l.length := by simpa using h
    refine AtIdx.ofMap hi' rfl ?_
    conv => whnf
    refine .look _ _ (hcl l[i] (List.getElem_mem hi')) rfl rfl ?_
    conv => whnf
    rw [List.drop_eq_getElem_cons hi'] at hp
    refine ⟨fun h => ?_, fun h => ?_⟩
    · conv => whnf
      refine Ret.int ?_
      rw [hp]
      simp [isIdx, h, idxOf]
    · conv => whnf
      refine Into.mono (Into.to [] [(8, dInt (i + 1 : Nat)), (7, dInt (l.map Entry'.enc).length), (1, .fn (.func cl) [] [.dat (.ptr ds)]), (0, .dat (.list (l.map Entry'.enc)))] [] ⟨.same (congrArg dInt ?_), .same rfl, .same rfl, .same rfl, trivial⟩ trivial rfl rfl) fun s' h' => ⟨m - 1, by omega, i + 1, by omega, ?_, h'⟩
      · exact wrap_up (by omega)
      · rw [hp]
        simp [isIdx, h]
  · conv => whnf
    refine Ret.int ?_
    have hi' : l.length ≤ i := by simpa using h
    rw [hp, List.drop_eq_nil_of_le hi']
    rfl
end Go.Proofs.YtlioojekjnigiafGreat.AM
/- Ids and entries: what may stand there. -/
namespace Go.Proofs.YtlioojekjnigiafGreat.AM
set_option linter.unusedVariables false
set_option linter.unusedSimpArgs false

theorem Ret.to {y x : AVal} (h : y = x) : Ret y x := ⟨h⟩
theorem between_ok (n a b : Int) : PCall Tryz.prog 85 [dInt n, dInt a, dInt b] (dBool (decide (a ≤ n) && decide (n ≤ b))) := by
  refine pcall_intro tab_all tab_mixed Tryz.func85 (by kernel_rfl) Tryz.ntmps85 rfl ?_
  conv => whnf
  refine ⟨fun h => ?_, fun h => ?_⟩
  · conv => whnf
    exact Ret.bool (by simp [h])
  · conv => whnf
    exact Ret.bool (by simp [h])
def Id.ok (x : Id) : Bool := decide (0 ≤ x.r) && decide (x.r ≤ 1) && (decide (1 ≤ x.n) && decide (x.n ≤ 20))
theorem refIsId_ok (x : Id) : PCall Tryz.prog 211 [x.arg] (dBool x.ok) := by
  refine pcall_intro tab_all tab_mixed Tryz.func211 (by kernel_rfl) Tryz.ntmps211 rfl ?_
  conv => whnf
  refine .look _ _ (between_ok _ _ _) rfl rfl ?_
  conv => whnf
  refine ⟨fun h => ?_, fun h => ?_⟩
  · conv => whnf
    refine .look _ _ (between_ok _ _ _) rfl rfl ?_
    conv => whnf
    exact Ret.bool (by simp only [Id.ok, h, Bool.true_and])
  · conv => whnf
    exact Ret.bool (by simp only [Id.ok, h, Bool.false_and])
theorem isId_ok (x : Id) : PCall Tryz.prog 143 [x.arg] (dBool x.ok) := by
  refine pcall_intro tab_all tab_mixed Tryz.func143 (by kernel_rfl) Tryz.ntmps143 rfl ?_
  conv => whnf
  refine .look _ _ (isRegion_ok _) rfl rfl ?_
  conv => whnf
  have hr : ∀ r : Int, (decide (r = 0) || decide (r = 1)) = (decide (0 ≤ r) && decide (r ≤ 1)) := fun r => by
    rw [Bool.eq_iff_iff]; simp; omega
  rw [hr]
  refine ⟨fun h => ?_, fun h => ?_⟩
  · conv => whnf
    refine ⟨fun h => ?_, fun h => ?_⟩
    · rename_i h1
      conv => whnf
      exact Ret.bool (by simp only [Id.ok, h1, h, Bool.true_and])
    · rename_i h1
      conv => whnf
      exact Ret.bool (by simp only [Id.ok, h1, h, Bool.true_and, Bool.false_and])
  · conv => whnf
    exact Ret.bool (by simp only [Id.ok, h, Bool.false_and])
theorem isAhead_ok (a b : Id) : PCall Tryz.prog 209 [a.arg, b.arg] (dBool (a.less b)) := by
  refine pcall_intro tab_all tab_mixed Tryz.func209 (by kernel_rfl) Tryz.ntmps209 rfl ?_
  conv => whnf
  refine ⟨fun h => ?_, fun h => ?_⟩
  · conv => whnf
    refine Ret.bool ?_
    have h : a.r < b.r := by simpa using h
    simp [Id.less, show a.r ≠ b.r by omega, h]
  · conv => whnf
    have h : ¬ a.r < b.r := by simpa using h
    refine ⟨fun h2 => ?_, fun h2 => ?_⟩
    · have h2 : a.r = b.r := by simpa using h2
      conv => whnf
      refine Ret.bool ?_
      simp [Id.less, h2]
    · have h2 : a.r ≠ b.r := by simpa using h2
      conv => whnf
      refine Ret.bool ?_
      simp [Id.less, h2, h]
end Go.Proofs.YtlioojekjnigiafGreat.AM
/- Entries: what is wrong with one. -/
namespace Go.Proofs.YtlioojekjnigiafGreat.AM
set_option linter.unusedVariables false
set_option linter.unusedSimpArgs false

/-- What is wrong with links, the last one ahead of them being known. -/
def linksErr (own : Id) : Option Id → List Id → Int
  | _, [] => 0
  | p, x :: t => if x.ok = false then 3 else if (match p with
      | some y => !y.less x
      | none => false) = true then 4 else if x.r = own.r ∧ own.n ≤ x.n then 4 else linksErr own (some x) t
def prevOf (l : List Id) (i : Nat) : Option Id := match i with
  | 0 => none
  | i + 1 => l[i]?
theorem AtIdx.ofMap' {α : Type} {enc : α → List D} {l : List α} {n : Int} (i : Nat) {sz : Nat} {k : Nat → List D → Prop} (hn : n = (i : Int)) (h : i < l.length) (hl : (enc l[i]).length = sz) (hk : k i (enc l[i])) : AtIdx n (l.map enc) sz k :=
  .mk i (enc l[i]) hn (by simp [h]) hl hk
theorem wrap_down {i : Nat} (h0 : 0 < i) (h : i ≤ 140737488355328) : IntKind.i64.wrap ((i : Int) - 1) = ((i - 1 : Nat) : Int) := by
  rw [wrap_id (by omega) (by omega)]
  omega
theorem prevOf_pos {l : List Id} {i : Nat} (h0 : 0 < i) (h : i - 1 < l.length) : prevOf l i = some l[i - 1] := by
  cases i with
  | zero => omega
  | succ i => simp [prevOf] at h ⊢
set_option maxHeartbeats 0 in
theorem checkLinks_ok (own : Id) (l : List Id) (hl : l.length ≤ 140737488355328) : PCall Tryz.prog 144 [own.arg, .dat (.list (l.map Id.enc))] (dInt (linksErr own none l)) := by
  refine pcall_intro tab_all tab_mixed Tryz.func144 (by kernel_rfl) Tryz.ntmps144 rfl ?_
  conv => whnf
  refine LoopOk.mk (fun m s => ∃ i, i + m = l.length ∧ linksErr own none l = linksErr own (prevOf l i) (l.drop i) ∧ s = ⟨[(9, dInt i), (8, dInt (l.map Id.enc).length), (7, .dat (.list (l.map Id.enc))), (1, .dat (.list (l.map Id.enc))), (2, .ptr 0 0)], 1, [(0, .vars 25 2 [dInt own.r, dInt own.n] true)]⟩) l.length (Into.mono (Into.to [0] [(9, dInt (0 : Nat)), (8, dInt (l.map Id.enc).length), (7, .dat (.list (l.map Id.enc))), (1, .dat (.list (l.map Id.enc))), (2, .ptr 0 0)] [(0, .vars 25 2 [dInt own.r, dInt own.n] true)] (by repeat (first | exact trivial | refine ⟨.same (congrArg dInt (wrap_up (by omega))), ?_⟩ | refine ⟨.same rfl, ?_⟩ | refine ⟨.any _, ?_⟩)) ⟨⟨rfl, rfl, rfl, .same rfl, rfl, .same rfl, rfl, trivial⟩, trivial⟩ rfl rfl) fun s' h => ⟨0, by omega, rfl, h⟩) ?_
  rintro m s ⟨i, hi, hp, rfl⟩
  conv => whnf
  refine SeqOk.go ?_
  conv => whnf
  refine ⟨fun h => ?_, fun h => ?_⟩
  · conv => whnf
    have hi' : i < l.length := by simpa using h
    rw [List.drop_eq_getElem_cons hi'] at hp
    have hn : prevOf l (i + 1) = some l[i] := by simp [prevOf, hi']
    refine AtIdx.ofMap hi' rfl ?_
    conv => whnf
    refine .look _ _ (isId_ok l[i]) rfl rfl ?_
    conv => whnf
    (first | (refine SeqOk.go ?_; conv => whnf) | skip)
    refine ⟨fun h1 => ?_, fun h1 => ?_⟩
    · conv => whnf
      refine Ret.int ?_
      rw [hp]
      have h1 : l[i].ok = false := by simpa using h1
      simp [linksErr, h1]
    · have h1 : l[i].ok = true := by simpa using h1
      conv => whnf
      refine ⟨fun h2 => ?_, fun h2 => ?_⟩
      · have h2 : 0 < i := by simpa using h2
        have hv := prevOf_pos h2 (show i - 1 < l.length by omega)
        conv => whnf
        refine AtIdx.ofMap' (i - 1) (wrap_down h2 (by omega)) (by omega) rfl ?_
        conv => whnf
        refine .look _ _ (less_ok l[i - 1] l[i]) rfl rfl ?_
        conv => whnf
        refine ⟨by kernel_rfl, ?_⟩
        conv => whnf
        (first | (refine SeqOk.go ?_; conv => whnf) | skip)
        refine ⟨fun h3 => ?_, fun h3 => ?_⟩
        · conv => whnf
          refine Ret.int ?_
          have h3 : l[i - 1].less l[i] = false := by simpa using h3
          rw [hp]
          simp [linksErr, h1, hv, h3]
        · have h3 : l[i - 1].less l[i] = true := by simpa using h3
          conv => whnf
          (first | (refine SeqOk.go ?_; conv => whnf) | skip)
          refine ⟨fun h4 => ?_, fun h4 => ?_⟩
          · conv => whnf
            have h4 : l[i].r = own.r := by simpa using h4
            refine ⟨fun h5 => ?_, fun h5 => ?_⟩
            · conv => whnf
              refine Ret.int ?_
              have h5 : own.n ≤ l[i].n := by simpa using h5
              rw [hp]
              simp [linksErr, h1, hv, h3, h4, h5]
            · conv => whnf
              have h5 : ¬ own.n ≤ l[i].n := by simpa using h5
              refine Into.mono (Into.to [0] [(9, dInt (i + 1 : Nat)), (8, dInt (l.map Id.enc).length), (7, .dat (.list (l.map Id.enc))), (1, .dat (.list (l.map Id.enc))), (2, .ptr 0 0)] [(0, .vars 25 2 [dInt own.r, dInt own.n] true)] (by repeat (first | exact trivial | refine ⟨.same (congrArg dInt (wrap_up (by omega))), ?_⟩ | refine ⟨.same rfl, ?_⟩ | refine ⟨.any _, ?_⟩)) ⟨⟨rfl, rfl, rfl, .same rfl, rfl, .same rfl, rfl, trivial⟩, trivial⟩ rfl rfl) fun s' h => ⟨m - 1, by omega, i + 1, by omega, ?_, h⟩
              rw [hp]
              simp [linksErr, h1, hv, h3, h4, h5, hn]
          · conv => whnf
            have h4 : ¬ l[i].r = own.r := by simpa using h4
            refine Into.mono (Into.to [0] [(9, dInt (i + 1 : Nat)), (8, dInt (l.map Id.enc).length), (7, .dat (.list (l.map Id.enc))), (1, .dat (.list (l.map Id.enc))), (2, .ptr 0 0)] [(0, .vars 25 2 [dInt own.r, dInt own.n] true)] (by repeat (first | exact trivial | refine ⟨.same (congrArg dInt (wrap_up (by omega))), ?_⟩ | refine ⟨.same rfl, ?_⟩ | refine ⟨.any _, ?_⟩)) ⟨⟨rfl, rfl, rfl, .same rfl, rfl, .same rfl, rfl, trivial⟩, trivial⟩ rfl rfl) fun s' h => ⟨m - 1, by omega, i + 1, by omega, ?_, h⟩
            rw [hp]
            simp [linksErr, h1, hv, h3, h4, hn]
      · have h2 : i = 0 := by simpa using h2
        have hv : prevOf l i = none := by rw [h2]; rfl
        conv => whnf
        refine ⟨by kernel_rfl, ?_⟩
        conv => whnf
        (first | (refine SeqOk.go ?_; conv => whnf) | skip)
        refine ⟨fun h4 => ?_, fun h4 => ?_⟩
        · conv => whnf
          have h4 : l[i].r = own.r := by simpa using h4
          refine ⟨fun h5 => ?_, fun h5 => ?_⟩
          · conv => whnf
            refine Ret.int ?_
            have h5 : own.n ≤ l[i].n := by simpa using h5
            rw [hp]
            simp [linksErr, h1, hv, h4, h5]
          · conv => whnf
            have h5 : ¬ own.n ≤ l[i].n := by simpa using h5
            refine Into.mono (Into.to [0] [(9, dInt (i + 1 : Nat)), (8, dInt (l.map Id.enc).length), (7, .dat (.list (l.map Id.enc))), (1, .dat (.list (l.map Id.enc))), (2, .ptr 0 0)] [(0, .vars 25 2 [dInt own.r, dInt own.n] true)] (by repeat (first | exact trivial | refine ⟨.same (congrArg dInt (wrap_up (by omega))), ?_⟩ | refine ⟨.same rfl, ?_⟩ | refine ⟨.any _, ?_⟩)) ⟨⟨rfl, rfl, rfl, .same rfl, rfl, .same rfl, rfl, trivial⟩, trivial⟩ rfl rfl) fun s' h => ⟨m - 1, by omega, i + 1, by omega, ?_, h⟩
            rw [hp]
            simp [linksErr, h1, hv, h4, h5, hn]
        · conv => whnf
          have h4 : ¬ l[i].r = own.r := by simpa using h4
          refine Into.mono (Into.to [0] [(9, dInt (i + 1 : Nat)), (8, dInt (l.map Id.enc).length), (7, .dat (.list (l.map Id.enc))), (1, .dat (.list (l.map Id.enc))), (2, .ptr 0 0)] [(0, .vars 25 2 [dInt own.r, dInt own.n] true)] (by repeat (first | exact trivial | refine ⟨.same (congrArg dInt (wrap_up (by omega))), ?_⟩ | refine ⟨.same rfl, ?_⟩ | refine ⟨.any _, ?_⟩)) ⟨⟨rfl, rfl, rfl, .same rfl, rfl, .same rfl, rfl, trivial⟩, trivial⟩ rfl rfl) fun s' h => ⟨m - 1, by omega, i + 1, by omega, ?_, h⟩
          rw [hp]
          simp [linksErr, h1, hv, h4, hn]
  · conv => whnf
    have hi' : l.length ≤ i := by simpa using h
    refine Ret.int ?_
    rw [hp, List.drop_eq_nil_of_le hi']
    rfl
end Go.Proofs.YtlioojekjnigiafGreat.AM
/- Entries: Check, and what the document says of it. -/
namespace Go.Proofs.YtlioojekjnigiafGreat.AM
set_option linter.unusedVariables false
set_option linter.unusedSimpArgs false

def Entry'.err (e : Entry') : Int :=
  if e.id.ok = false ∨ e.colors < 1 ∨ 7 < e.colors then 3
  else if 12 < e.text.size ∨ 6 < e.links.length then 2
  else linksErr e.id none e.links
set_option maxHeartbeats 0 in
theorem check_ok (e : Entry') (hl : e.links.length ≤ 140737488355328) : PCall Tryz.prog 63 [e.arg] (dInt e.err) := by
  refine pcall_intro tab_all tab_mixed Tryz.func63 (by kernel_rfl) Tryz.ntmps63 rfl ?_
  conv => whnf
  refine .look _ _ (isId_ok e.id) rfl rfl ?_
  conv => whnf
  refine ⟨fun h1 => ?_, fun h1 => ?_⟩
  · have h1 : e.id.ok = false := by simpa using h1
    conv => whnf
    exact Ret.int (by simp [Entry'.err, h1])
  · have h1 : e.id.ok = true := by simpa using h1
    conv => whnf
    refine ⟨fun h2 => ?_, fun h2 => ?_⟩
    · have h2 : e.colors < 1 := by simpa using h2
      conv => whnf
      exact Ret.int (by simp [Entry'.err, h2])
    · have h2 : ¬ e.colors < 1 := by simpa using h2
      conv => whnf
      refine ⟨fun h3 => ?_, fun h3 => ?_⟩
      · have h3 : 7 < e.colors := by simpa using h3
        conv => whnf
        exact Ret.int (by simp [Entry'.err, h3])
      · have h3 : ¬ 7 < e.colors := by simpa using h3
        have k1 : ¬ (e.id.ok = false ∨ e.colors < 1 ∨ 7 < e.colors) := by simp [h1]; omega
        conv => whnf
        refine ⟨fun h4 => ?_, fun h4 => ?_⟩
        · have h4 : 12 < e.text.size := by simp at h4; omega
          conv => whnf
          exact Ret.int (by simp [Entry'.err, k1, h4])
        · have h4 : ¬ 12 < e.text.size := by simp at h4; omega
          conv => whnf
          refine ⟨fun h5 => ?_, fun h5 => ?_⟩
          · have h5 : 6 < e.links.length := by simp at h5; omega
            conv => whnf
            exact Ret.int (by simp [Entry'.err, k1, h5])
          · have h5 : ¬ 6 < e.links.length := by simp at h5; omega
            conv => whnf
            refine .look _ _ (checkLinks_ok e.id e.links hl) rfl rfl ?_
            conv => whnf
            exact Ret.int (by simp [Entry'.err, k1, h4, h5])
set_option maxHeartbeats 0 in
theorem checkEntry_ok (e : Entry') (hl : e.links.length ≤ 140737488355328) : PCall Tryz.prog 121 [e.arg] (dInt e.err) := by
  refine pcall_intro tab_all tab_mixed Tryz.func121 (by kernel_rfl) Tryz.ntmps121 rfl ?_
  conv => whnf
  refine .look _ _ (refIsId_ok e.id) rfl rfl ?_
  conv => whnf
  refine ⟨fun h1 => ?_, fun h1 => ?_⟩
  · have h1 : e.id.ok = false := by simpa using h1
    conv => whnf
    exact Ret.int (by simp [Entry'.err, h1])
  · have h1 : e.id.ok = true := by simpa using h1
    conv => whnf
    refine .look _ _ (between_ok e.colors 1 7) rfl rfl ?_
    conv => whnf
    refine ⟨fun h2 => ?_, fun h2 => ?_⟩
    · have h2 : e.colors < 1 ∨ 7 < e.colors := by simp at h2; omega
      conv => whnf
      exact Ret.int (by simp [Entry'.err, h2])
    · have h2 : ¬ (e.colors < 1 ∨ 7 < e.colors) := by simp at h2; omega
      have k1 : ¬ (e.id.ok = false ∨ e.colors < 1 ∨ 7 < e.colors) := by simp [h1]; omega
      conv => whnf
      refine ⟨fun h4 => ?_, fun h4 => ?_⟩
      · have h4 : 12 < e.text.size := by simp at h4; omega
        conv => whnf
        exact Ret.int (by simp [Entry'.err, k1, h4])
      · have h4 : ¬ 12 < e.text.size := by simp at h4; omega
        conv => whnf
        refine ⟨fun h5 => ?_, fun h5 => ?_⟩
        · have h5 : 6 < e.links.length := by simp at h5; omega
          conv => whnf
          exact Ret.int (by simp [Entry'.err, k1, h5])
        · have h5 : ¬ 6 < e.links.length := by simp at h5; omega
          have k2 : e.err = linksErr e.id none e.links := by simp [Entry'.err, k1, h4, h5]
          rw [k2]
          conv => whnf
          refine LoopOk.mk (fun m s => ∃ i, i + m = e.links.length ∧ linksErr e.id none e.links = linksErr e.id (prevOf e.links i) (e.links.drop i) ∧ s = ⟨[(3, dInt i), (1, .ptr 0 0)], 1, [(0, .vars 28 5 [dInt e.id.r, dInt e.id.n, dInt e.colors, .dat (.str e.text), .dat (.list (e.links.map Id.enc))] true)]⟩) e.links.length (Into.mono (Into.to [0] [(3, dInt (0 : Nat)), (1, .ptr 0 0)] [(0, .vars 28 5 [dInt e.id.r, dInt e.id.n, dInt e.colors, .dat (.str e.text), .dat (.list (e.links.map Id.enc))] true)] (by repeat (first | exact trivial | refine ⟨.same (congrArg dInt (wrap_up (by omega))), ?_⟩ | refine ⟨.same rfl, ?_⟩ | refine ⟨.any _, ?_⟩)) ⟨⟨rfl, rfl, rfl, .same rfl, rfl, .same rfl, rfl, .same rfl, rfl, .same rfl, rfl, .same rfl, rfl, trivial⟩, trivial⟩ rfl rfl) fun s' h => ⟨0, by omega, rfl, h⟩) ?_
          rintro m s ⟨i, hi, hp, rfl⟩
          conv => whnf
          (first | (refine SeqOk.go ?_; conv => whnf) | skip)
          refine ⟨fun h => ?_, fun h => ?_⟩
          · conv => whnf
            have hi' : i < e.links.length := by simpa using h
            rw [List.drop_eq_getElem_cons hi'] at hp
            have hn : prevOf e.links (i + 1) = some e.links[i] := by simp [prevOf, hi']
            refine AtIdx.ofMap hi' rfl ?_
            conv => whnf
            refine .look _ _ (refIsId_ok e.links[i]) rfl rfl ?_
            conv => whnf
            (first | (refine SeqOk.go ?_; conv => whnf) | skip)
            refine ⟨fun h1 => ?_, fun h1 => ?_⟩
            · conv => whnf
              refine Ret.int ?_
              rw [hp]
              have h1 : e.links[i].ok = false := by simpa using h1
              simp [linksErr, h1]
            · have h1 : e.links[i].ok = true := by simpa using h1
              conv => whnf
              refine ⟨fun h2 => ?_, fun h2 => ?_⟩
              · have h2 : 0 < i := by simpa using h2
                have hv := prevOf_pos h2 (show i - 1 < e.links.length by omega)
                conv => whnf
                refine AtIdx.ofMap' (i - 1) (wrap_down h2 (by omega)) (by omega) rfl ?_
                conv => whnf
                refine AtIdx.ofMap hi' rfl ?_
                conv => whnf
                refine .look _ _ (isAhead_ok e.links[i - 1] e.links[i]) rfl rfl ?_
                conv => whnf
                refine ⟨fun h3 => ?_, fun h3 => ?_⟩
                · conv => whnf
                  refine ⟨by kernel_rfl, ?_⟩
                  conv => whnf
                  refine Ret.int ?_
                  have h3 : e.links[i - 1].less e.links[i] = false := by simpa using h3
                  rw [hp]
                  simp [linksErr, h1, hv, h3]
                · have h3 : e.links[i - 1].less e.links[i] = true := by simpa using h3
                  conv => whnf
                  refine AtIdx.ofMap hi' rfl ?_
                  conv => whnf
                  refine ⟨fun h4 => ?_, fun h4 => ?_⟩
                  · have h4 : e.links[i].r = e.id.r := by simpa using h4
                    conv => whnf
                    refine AtIdx.ofMap hi' rfl ?_
                    conv => whnf
                    refine ⟨by kernel_rfl, ?_⟩
                    conv => whnf
                    refine ⟨fun h5 => ?_, fun h5 => ?_⟩
                    · have h5 : e.id.n ≤ e.links[i].n := by simpa using h5
                      conv => whnf
                      refine Ret.int ?_
                      rw [hp]
                      simp [linksErr, h1, hv, h3, h4, h5]
                    · have h5 : ¬ e.id.n ≤ e.links[i].n := by simpa using h5
                      conv => whnf
                      refine Into.mono (Into.to [0] [(3, dInt (i + 1 : Nat)), (1, .ptr 0 0)] [(0, .vars 28 5 [dInt e.id.r, dInt e.id.n, dInt e.colors, .dat (.str e.text), .dat (.list (e.links.map Id.enc))] true)] (by repeat (first | exact trivial | refine ⟨.same (congrArg dInt (wrap_up (by omega))), ?_⟩ | refine ⟨.same rfl, ?_⟩ | refine ⟨.any _, ?_⟩)) ⟨⟨rfl, rfl, rfl, .same rfl, rfl, .same rfl, rfl, .same rfl, rfl, .same rfl, rfl, .same rfl, rfl, trivial⟩, trivial⟩ rfl rfl) fun s' h => ⟨m - 1, by omega, i + 1, by omega, ?_, h⟩
                      rw [hp]
                      simp [linksErr, h1, hv, h3, h4, h5, hn]
                  · have h4 : ¬ e.links[i].r = e.id.r := by simpa using h4
                    conv => whnf
                    refine ⟨by kernel_rfl, ?_⟩
                    conv => whnf
                    (first | (refine SeqOk.go ?_; conv => whnf) | skip)
                    refine Into.mono (Into.to [0] [(3, dInt (i + 1 : Nat)), (1, .ptr 0 0)] [(0, .vars 28 5 [dInt e.id.r, dInt e.id.n, dInt e.colors, .dat (.str e.text), .dat (.list (e.links.map Id.enc))] true)] (by repeat (first | exact trivial | refine ⟨.same (congrArg dInt (wrap_up (by omega))), ?_⟩ | refine ⟨.same rfl, ?_⟩ | refine ⟨.any _, ?_⟩)) ⟨⟨rfl, rfl, rfl, .same rfl, rfl, .same rfl, rfl, .same rfl, rfl, .same rfl, rfl, .same rfl, rfl, trivial⟩, trivial⟩ rfl rfl) fun s' h => ⟨m - 1, by omega, i + 1, by omega, ?_, h⟩
                    rw [hp]
                    simp [linksErr, h1, hv, h3, h4, hn]
              · have h2 : i = 0 := by simpa using h2
                have hv : prevOf e.links i = none := by rw [h2]; rfl
                conv => whnf
                refine AtIdx.ofMap hi' rfl ?_
                conv => whnf
                refine ⟨fun h4 => ?_, fun h4 => ?_⟩
                · have h4 : e.links[i].r = e.id.r := by simpa using h4
                  conv => whnf
                  refine AtIdx.ofMap hi' rfl ?_
                  conv => whnf
                  refine ⟨by kernel_rfl, ?_⟩
                  conv => whnf
                  refine ⟨fun h5 => ?_, fun h5 => ?_⟩
                  · have h5 : e.id.n ≤ e.links[i].n := by simpa using h5
                    conv => whnf
                    refine Ret.int ?_
                    rw [hp]
                    simp [linksErr, h1, hv, h4, h5]
                  · have h5 : ¬ e.id.n ≤ e.links[i].n := by simpa using h5
                    conv => whnf
                    refine Into.mono (Into.to [0] [(3, dInt (i + 1 : Nat)), (1, .ptr 0 0)] [(0, .vars 28 5 [dInt e.id.r, dInt e.id.n, dInt e.colors, .dat (.str e.text), .dat (.list (e.links.map Id.enc))] true)] (by repeat (first | exact trivial | refine ⟨.same (congrArg dInt (wrap_up (by omega))), ?_⟩ | refine ⟨.same rfl, ?_⟩ | refine ⟨.any _, ?_⟩)) ⟨⟨rfl, rfl, rfl, .same rfl, rfl, .same rfl, rfl, .same rfl, rfl, .same rfl, rfl, .same rfl, rfl, trivial⟩, trivial⟩ rfl rfl) fun s' h => ⟨m - 1, by omega, i + 1, by omega, ?_, h⟩
                    rw [hp]
                    simp [linksErr, h1, hv, h4, h5, hn]
                · have h4 : ¬ e.links[i].r = e.id.r := by simpa using h4
                  conv => whnf
                  refine ⟨by kernel_rfl, ?_⟩
                  conv => whnf
                  (first | (refine SeqOk.go ?_; conv => whnf) | skip)
                  refine Into.mono (Into.to [0] [(3, dInt (i + 1 : Nat)), (1, .ptr 0 0)] [(0, .vars 28 5 [dInt e.id.r, dInt e.id.n, dInt e.colors, .dat (.str e.text), .dat (.list (e.links.map Id.enc))] true)] (by repeat (first | exact trivial | refine ⟨.same (congrArg dInt (wrap_up (by omega))), ?_⟩ | refine ⟨.same rfl, ?_⟩ | refine ⟨.any _, ?_⟩)) ⟨⟨rfl, rfl, rfl, .same rfl, rfl, .same rfl, rfl, .same rfl, rfl, .same rfl, rfl, .same rfl, rfl, trivial⟩, trivial⟩ rfl rfl) fun s' h => ⟨m - 1, by omega, i + 1, by omega, ?_, h⟩
                  rw [hp]
                  simp [linksErr, h1, hv, h4, hn]
          · conv => whnf
            have hi' : e.links.length ≤ i := by simpa using h
            refine Ret.int ?_
            rw [hp, List.drop_eq_nil_of_le hi']
            rfl
end Go.Proofs.YtlioojekjnigiafGreat.AM
/- Logs: is one there; how many of each region. -/
namespace Go.Proofs.YtlioojekjnigiafGreat.AM
set_option linter.unusedVariables false
set_option linter.unusedSimpArgs false

theorem idx_any' {α : Type} (p : α → Bool) : ∀ (l : List α) (i : Nat), idxOf (isIdx p l i) ≥ 0 ↔ l.any p = true
  | [], i => by simp [isIdx, idxOf]
  | a :: t, i => by
    unfold isIdx
    by_cases h : p a = true
    · simp [h, idxOf]
    · simp only [h, if_false, List.any_cons, Bool.false_or, Bool.false_eq_true]
      simpa [h] using idx_any' p t (i + 1)
theorem idx_any {α : Type} (p : α → Bool) (l : List α) (i : Nat) : decide (idxOf (isIdx p l i) ≥ 0) = l.any p := by
  rw [Bool.eq_iff_iff, decide_eq_true_iff]
  exact idx_any' p l i
theorem containsFunc_entry {cl : Nat} {ds : List D} {l : List Entry'} {p : Entry' → Bool} (hl : l.length ≤ 140737488355328) (hcl : ∀ x ∈ l, PCall Tryz.prog cl [x.arg, .dat (.ptr ds)] (dBool (p x))) :
    PCall Tryz.prog 131 [.dat (.list (l.map Entry'.enc)), .fn (.func cl) [] [.dat (.ptr ds)]] (dBool (l.any p)) := by
  refine pcall_intro tab_all tab_mixed Tryz.func131 (by kernel_rfl) Tryz.ntmps131 rfl ?_
  conv => whnf
  refine .look _ _ (indexFunc_entry hl hcl) rfl rfl ?_
  conv => whnf
  exact Ret.bool (by rw [← idx_any p l 0])
def isThe (x : Id) (e : Entry') : Bool := e.id.r == x.r && (e.id.n == x.n && true)
theorem isThe_iff {x : Id} {e : Entry'} : isThe x e = true ↔ e.id = x := by
  simp only [isThe, Bool.and_eq_true, beq_iff_eq, and_true]
  exact ⟨fun h => Id.ext' h.1 h.2, fun h => by rw [h]; exact ⟨rfl, rfl⟩⟩
theorem has1_ok (x : Id) (e : Entry') : PCall Tryz.prog 183 [e.arg, .dat (.ptr x.enc)] (dBool (isThe x e)) := by
  refine pcall_intro tab_all tab_mixed Tryz.func183 (by kernel_rfl) Tryz.ntmps183 rfl ?_
  conv => whnf
  exact Ret.bool rfl
theorem has_ok (x : Id) (l : List Entry') (hl : l.length ≤ 140737488355328) : PCall Tryz.prog 101 [.dat (.list (l.map Entry'.enc)), x.arg] (dBool (l.any (isThe x))) := by
  refine pcall_intro tab_all tab_mixed Tryz.func101 (by kernel_rfl) Tryz.ntmps101 rfl ?_
  conv => whnf
  refine .look _ _ (containsFunc_entry hl fun e _ => has1_ok x e) rfl rfl ?_
  conv => whnf
  exact Ret.bool rfl
def entryAt (l : List Entry') (x : Id) : Int := idxOf (isIdx (isThe x) l 0)
set_option maxHeartbeats 0 in
theorem entryAt_ok (x : Id) (l : List Entry') (hl : l.length ≤ 140737488355328) : PCall Tryz.prog 86 [.dat (.list (l.map Entry'.enc)), x.arg] (dInt (entryAt l x)) := by
  refine pcall_intro tab_all tab_mixed Tryz.func86 (by kernel_rfl) Tryz.ntmps86 rfl ?_
  conv => whnf
  refine LoopOk.mk (fun m s => ∃ i, i + m = l.length ∧ isIdx (isThe x) l 0 = isIdx (isThe x) (l.drop i) i ∧ s = ⟨[(5, dInt i), (0, .dat (.list (l.map Entry'.enc))), (3, .ptr 0 0)], 1, [(0, .vars 25 2 [dInt x.r, dInt x.n] true)]⟩) l.length (Into.mono (Into.to [0] [(5, dInt (0 : Nat)), (0, .dat (.list (l.map Entry'.enc))), (3, .ptr 0 0)] [(0, .vars 25 2 [dInt x.r, dInt x.n] true)] (by repeat (first | exact trivial | refine ⟨.same (congrArg dInt (wrap_up (by omega))), ?_⟩ | refine ⟨.same rfl, ?_⟩ | refine ⟨.any _, ?_⟩)) ⟨⟨rfl, rfl, rfl, .same rfl, rfl, .same rfl, rfl, trivial⟩, trivial⟩ rfl rfl) fun s' h => ⟨0, by omega, rfl, h⟩) ?_
  rintro m s ⟨i, hi, hp, rfl⟩
  conv => whnf
  (first | (refine SeqOk.go ?_; conv => whnf) | skip)
  refine ⟨fun h => ?_, fun h => ?_⟩
  · conv => whnf
    have hi' : i < l.length := by simpa using h
    rw [List.drop_eq_getElem_cons hi'] at hp
    refine AtIdx.ofMap hi' rfl ?_
    conv => whnf
    refine ⟨by kernel_rfl, ?_⟩
    conv => whnf
    refine ⟨fun h1 => ?_, fun h1 => ?_⟩
    · have h1 : isThe x l[i] = true := h1
      conv => whnf
      refine Ret.int ?_
      rw [entryAt, hp]
      simp [isIdx, h1, idxOf]
    · have h1 : isThe x l[i] = false := h1
      conv => whnf
      refine Into.mono (Into.to [0] [(5, dInt (i + 1 : Nat)), (0, .dat (.list (l.map Entry'.enc))), (3, .ptr 0 0)] [(0, .vars 25 2 [dInt x.r, dInt x.n] true)] (by repeat (first | exact trivial | refine ⟨.same (congrArg dInt (wrap_up (by omega))), ?_⟩ | refine ⟨.same rfl, ?_⟩ | refine ⟨.any _, ?_⟩)) ⟨⟨rfl, rfl, rfl, .same rfl, rfl, .same rfl, rfl, trivial⟩, trivial⟩ rfl rfl) fun s' h => ⟨m - 1, by omega, i + 1, by omega, ?_, h⟩
      rw [hp]
      simp [isIdx, h1]
  · conv => whnf
    have hi' : l.length ≤ i := by simpa using h
    refine Ret.int ?_
    rw [entryAt, hp, List.drop_eq_nil_of_le hi']
    rfl
/-- How many of a region. -/
def cnt (r : Int) (l : List Entry') : Nat := l.countP fun e => e.id.r == r
theorem cnt_le (r : Int) (l : List Entry') : cnt r l ≤ l.length := List.countP_le_length
theorem cnt_succ (r : Int) {l : List Entry'} {i : Nat} (h : i < l.length) : cnt r (l.take (i + 1)) = cnt r (l.take i) + if l[i].id.r == r then 1 else 0 := by
  simp only [cnt]
  rw [List.take_add_one, List.getElem?_eq_getElem h, List.countP_append]
  simp [List.countP_cons]
def vecA (a b : Int) : AVal := .agg [dInt a, dInt b]
set_option maxHeartbeats 0 in
theorem count_ok (l : List Entry') (hl : l.length ≤ 140737488355328) (hr : ∀ e ∈ l, e.id.r = 0 ∨ e.id.r = 1) : PCall Tryz.prog 140 [.dat (.list (l.map Entry'.enc))] (vecA (cnt 0 l) (cnt 1 l)) := by
  refine pcall_intro tab_all tab_mixed Tryz.func140 (by kernel_rfl) Tryz.ntmps140 rfl ?_
  conv => whnf
  refine LoopOk.mk (fun m s => ∃ i, i + m = l.length ∧ s = ⟨[(8, dInt (i : Nat)), (7, dInt (l.map Entry'.enc).length), (6, .dat (.list (l.map Entry'.enc))), (2, .ptr 0 0), (3, .ptr 1 0)], 2, [(0, .vars 38 2 [dInt 0, dInt 0] true), (1, .vars 38 2 [dInt (cnt 0 (l.take i)), dInt (cnt 1 (l.take i))] true)]⟩) l.length (Into.mono (Into.to [0, 1] [(8, dInt (0 : Nat)), (7, dInt (l.map Entry'.enc).length), (6, .dat (.list (l.map Entry'.enc))), (2, .ptr 0 0), (3, .ptr 1 0)] [(0, .vars 38 2 [dInt 0, dInt 0] true), (1, .vars 38 2 [dInt (cnt 0 (l.take 0)), dInt (cnt 1 (l.take 0))] true)] (by repeat (first | exact trivial | refine ⟨.same (congrArg dInt (wrap_up (by omega))), ?_⟩ | refine ⟨.same rfl, ?_⟩ | refine ⟨.any _, ?_⟩)) ⟨⟨rfl, rfl, rfl, .same rfl, rfl, .same rfl, rfl, trivial⟩, ⟨rfl, rfl, rfl, .same (congrArg dInt rfl), rfl, .same (congrArg dInt rfl), rfl, trivial⟩, trivial⟩ rfl rfl) fun s' h => ⟨0, by omega, h⟩) ?_
  rintro m s ⟨i, hi, rfl⟩
  conv => whnf
  (first | (refine SeqOk.go ?_; conv => whnf) | skip)
  refine ⟨fun h => ?_, fun h => ?_⟩
  · conv => whnf
    have hi' : i < l.length := by simpa using h
    refine AtIdx.ofMap hi' rfl ?_
    conv => whnf
    have c0 := cnt_le 0 (l.take i)
    have c1 := cnt_le 1 (l.take i)
    rw [List.length_take] at c0 c1
    have s0 := cnt_succ 0 hi'
    have s1 := cnt_succ 1 hi'
    rcases hr l[i] (List.getElem_mem hi') with h1 | h1
    · simp only [h1, beq_self_eq_true, if_true, show ((0 : Int) == 1) = false from rfl, Bool.false_eq_true, if_false, Nat.add_zero] at s0 s1
      refine .mk 0 h1 (by decide) ?_
      conv => whnf
      refine .mk 0 h1 (by decide) ?_
      conv => whnf
      refine Into.mono (Into.to [0, 1] [(8, dInt (i + 1 : Nat)), (7, dInt (l.map Entry'.enc).length), (6, .dat (.list (l.map Entry'.enc))), (2, .ptr 0 0), (3, .ptr 1 0)] [(0, .vars 38 2 [dInt 0, dInt 0] true), (1, .vars 38 2 [dInt (cnt 0 (l.take (i + 1))), dInt (cnt 1 (l.take (i + 1)))] true)] (by repeat (first | exact trivial | refine ⟨.same (congrArg dInt (wrap_up (by omega))), ?_⟩ | refine ⟨.same rfl, ?_⟩ | refine ⟨.any _, ?_⟩)) ⟨⟨rfl, rfl, rfl, .same rfl, rfl, .same rfl, rfl, trivial⟩, ⟨rfl, rfl, rfl, .same (congrArg dInt (by rw [s0]; exact wrap_up (by omega))), rfl, .same (congrArg dInt (by rw [s1])), rfl, trivial⟩, trivial⟩ rfl rfl) fun s' h => ⟨m - 1, by omega, i + 1, by omega, h⟩
    · simp only [h1, beq_self_eq_true, if_true, show ((1 : Int) == 0) = false from rfl, Bool.false_eq_true, if_false, Nat.add_zero] at s0 s1
      refine .mk 1 h1 (by decide) ?_
      conv => whnf
      refine .mk 1 h1 (by decide) ?_
      conv => whnf
      refine Into.mono (Into.to [0, 1] [(8, dInt (i + 1 : Nat)), (7, dInt (l.map Entry'.enc).length), (6, .dat (.list (l.map Entry'.enc))), (2, .ptr 0 0), (3, .ptr 1 0)] [(0, .vars 38 2 [dInt 0, dInt 0] true), (1, .vars 38 2 [dInt (cnt 0 (l.take (i + 1))), dInt (cnt 1 (l.take (i + 1)))] true)] (by repeat (first | exact trivial | refine ⟨.same (congrArg dInt (wrap_up (by omega))), ?_⟩ | refine ⟨.same rfl, ?_⟩ | refine ⟨.any _, ?_⟩)) ⟨⟨rfl, rfl, rfl, .same rfl, rfl, .same rfl, rfl, trivial⟩, ⟨rfl, rfl, rfl, .same (congrArg dInt (by rw [s0])), rfl, .same (congrArg dInt (by rw [s1]; exact wrap_up (by omega))), rfl, trivial⟩, trivial⟩ rfl rfl) fun s' h => ⟨m - 1, by omega, i + 1, by omega, h⟩
  · conv => whnf
    have hi' : l.length ≤ i := by simpa using h
    refine Ret.to ?_
    rw [List.take_of_length_le hi']
    rfl
set_option maxHeartbeats 0 in
theorem countOf_ok (l : List Entry') (hl : l.length ≤ 140737488355328) (hr : ∀ e ∈ l, e.id.r = 0 ∨ e.id.r = 1) : PCall Tryz.prog 171 [.dat (.list (l.map Entry'.enc))] (vecA (cnt 0 l) (cnt 1 l)) := by
  refine pcall_intro tab_all tab_mixed Tryz.func171 (by kernel_rfl) Tryz.ntmps171 rfl ?_
  conv => whnf
  refine LoopOk.mk (fun m s => ∃ i, i + m = l.length ∧ s = ⟨[(4, dInt i), (0, .dat (.list (l.map Entry'.enc))), (2, .ptr 0 0), (3, .ptr 1 0)], 2, [(0, .vars 38 2 [dInt 0, dInt 0] true), (1, .vars 38 2 [dInt (cnt 0 (l.take i)), dInt (cnt 1 (l.take i))] true)]⟩) l.length (Into.mono (Into.to [0, 1] [(4, dInt (0 : Nat)), (0, .dat (.list (l.map Entry'.enc))), (2, .ptr 0 0), (3, .ptr 1 0)] [(0, .vars 38 2 [dInt 0, dInt 0] true), (1, .vars 38 2 [dInt (cnt 0 (l.take 0)), dInt (cnt 1 (l.take 0))] true)] (by repeat (first | exact trivial | refine ⟨.same (congrArg dInt (wrap_up (by omega))), ?_⟩ | refine ⟨.same rfl, ?_⟩ | refine ⟨.any _, ?_⟩)) ⟨⟨rfl, rfl, rfl, .same rfl, rfl, .same rfl, rfl, trivial⟩, ⟨rfl, rfl, rfl, .same rfl, rfl, .same rfl, rfl, trivial⟩, trivial⟩ rfl rfl) fun s' h => ⟨0, by omega, h⟩) ?_
  rintro m s ⟨i, hi, rfl⟩
  conv => whnf
  (first | (refine SeqOk.go ?_; conv => whnf) | skip)
  refine ⟨fun h => ?_, fun h => ?_⟩
  · conv => whnf
    have hi' : i < l.length := by simpa using h
    refine AtIdx.ofMap hi' rfl ?_
    conv => whnf
    have c0 := cnt_le 0 (l.take i)
    have c1 := cnt_le 1 (l.take i)
    rw [List.length_take] at c0 c1
    have s0 := cnt_succ 0 hi'
    have s1 := cnt_succ 1 hi'
    refine ⟨fun h1 => ?_, fun h1 => ?_⟩
    · have h1 : l[i].id.r = 0 := by simpa using h1
      simp only [h1, beq_self_eq_true, if_true, show ((0 : Int) == 1) = false from rfl, Bool.false_eq_true, if_false, Nat.add_zero] at s0 s1
      conv => whnf
      refine .mk 0 rfl (by decide) ?_
      conv => whnf
      refine .mk 0 rfl (by decide) ?_
      conv => whnf
      refine Into.mono (Into.to [0, 1] [(4, dInt (i + 1 : Nat)), (0, .dat (.list (l.map Entry'.enc))), (2, .ptr 0 0), (3, .ptr 1 0)] [(0, .vars 38 2 [dInt 0, dInt 0] true), (1, .vars 38 2 [dInt (cnt 0 (l.take (i + 1))), dInt (cnt 1 (l.take (i + 1)))] true)] (by repeat (first | exact trivial | refine ⟨.same (congrArg dInt (wrap_up (by omega))), ?_⟩ | refine ⟨.same rfl, ?_⟩ | refine ⟨.any _, ?_⟩)) ⟨⟨rfl, rfl, rfl, .same rfl, rfl, .same rfl, rfl, trivial⟩, ⟨rfl, rfl, rfl, .same (congrArg dInt (by rw [s0]; exact wrap_up (by omega))), rfl, .same (congrArg dInt (by rw [s1])), rfl, trivial⟩, trivial⟩ rfl rfl) fun s' h => ⟨m - 1, by omega, i + 1, by omega, h⟩
    · have h1 : l[i].id.r = 1 := by
        have h1 : ¬ l[i].id.r = 0 := by simpa using h1
        exact (hr l[i] (List.getElem_mem hi')).resolve_left h1
      simp only [h1, beq_self_eq_true, if_true, show ((1 : Int) == 0) = false from rfl, Bool.false_eq_true, if_false, Nat.add_zero] at s0 s1
      conv => whnf
      refine .mk 1 rfl (by decide) ?_
      conv => whnf
      refine .mk 1 rfl (by decide) ?_
      conv => whnf
      refine Into.mono (Into.to [0, 1] [(4, dInt (i + 1 : Nat)), (0, .dat (.list (l.map Entry'.enc))), (2, .ptr 0 0), (3, .ptr 1 0)] [(0, .vars 38 2 [dInt 0, dInt 0] true), (1, .vars 38 2 [dInt (cnt 0 (l.take (i + 1))), dInt (cnt 1 (l.take (i + 1)))] true)] (by repeat (first | exact trivial | refine ⟨.same (congrArg dInt (wrap_up (by omega))), ?_⟩ | refine ⟨.same rfl, ?_⟩ | refine ⟨.any _, ?_⟩)) ⟨⟨rfl, rfl, rfl, .same rfl, rfl, .same rfl, rfl, trivial⟩, ⟨rfl, rfl, rfl, .same (congrArg dInt (by rw [s0])), rfl, .same (congrArg dInt (by rw [s1]; exact wrap_up (by omega))), rfl, trivial⟩, trivial⟩ rfl rfl) fun s' h => ⟨m - 1, by omega, i + 1, by omega, h⟩
  · conv => whnf
    have hi' : l.length ≤ i := by simpa using h
    refine Ret.to ?_
    rw [List.take_of_length_le hi']
    rfl
end Go.Proofs.YtlioojekjnigiafGreat.AM
/- Logs: Check. -/
namespace Go.Proofs.YtlioojekjnigiafGreat.AM
set_option linter.unusedVariables false
set_option linter.unusedSimpArgs false

/-- No list is greater than memory. -/
structure LogOk (l : List Entry') : Prop where
  len : l.length ≤ 140737488355328
  links : ∀ e ∈ l, e.links.length ≤ 140737488355328
theorem LogOk.take {l : List Entry'} (h : LogOk l) (i : Nat) : LogOk (l.take i) := ⟨by have := h.len; simp; omega, fun e he => h.links e (List.mem_of_mem_take he)⟩
def behindErr (ahead : List Entry') (e : Entry') : Int :=
  if e.err ≠ 0 then e.err else if ahead.any (isThe e.id) = true then 6 else if e.id.n ≠ (cnt e.id.r ahead : Int) + 1 then 4 else if e.links.all (fun x => ahead.any (isThe x)) = true then 0 else 5
theorem ok_of_err {e : Entry'} (h : e.err = 0) : e.id.ok = true := by
  unfold Entry'.err at h
  by_cases h1 : e.id.ok = true
  · exact h1
  · simp [h1] at h
theorem r_of_ok {x : Id} (h : x.ok = true) : x.r = 0 ∨ x.r = 1 := by
  simp [Id.ok] at h
  omega
theorem behind_links {ahead : List Entry'} {e : Entry'} (h1 : e.err = 0) (h2 : ahead.any (isThe e.id) = false) (h3 : e.id.n = (cnt e.id.r ahead : Int) + 1) : behindErr ahead e = if (e.links.drop 0).all (fun x => ahead.any (isThe x)) = true then 0 else 5 := by
  unfold behindErr
  rw [if_neg (by simp [h1]), if_neg (by simp [h2]), if_neg (by simp [← h3])]
  rfl
set_option maxHeartbeats 0 in
theorem checkBehind_ok (ahead : List Entry') (e : Entry') (hl : LogOk ahead) (hr : ∀ e ∈ ahead, e.id.r = 0 ∨ e.id.r = 1) (he : e.links.length ≤ 140737488355328) : PCall Tryz.prog 58 [.dat (.list (ahead.map Entry'.enc)), e.arg] (dInt (behindErr ahead e)) := by
  refine pcall_intro tab_all tab_mixed Tryz.func58 (by kernel_rfl) Tryz.ntmps58 rfl ?_
  conv => whnf
  refine .look _ _ (check_ok e he) rfl rfl ?_
  conv => whnf
  (first | (refine SeqOk.go ?_; conv => whnf) | skip)
  refine ⟨fun h1 => ?_, fun h1 => ?_⟩
  · have h1 : e.err ≠ 0 := by simpa using h1
    conv => whnf
    exact Ret.int (by simp [behindErr, h1])
  · have h1 : e.err = 0 := by simpa using h1
    conv => whnf
    refine .look _ _ (has_ok e.id ahead hl.len) rfl rfl ?_
    conv => whnf
    (first | (refine SeqOk.go ?_; conv => whnf) | skip)
    refine ⟨fun h2 => ?_, fun h2 => ?_⟩
    · conv => whnf
      exact Ret.int (by simp [behindErr, h1, h2])
    · conv => whnf
      refine .look _ _ (count_ok ahead hl.len hr) rfl rfl ?_
      conv => whnf
      have hreg := r_of_ok (ok_of_err h1)
      have hc := cnt_le 0 ahead
      have hc1 := cnt_le 1 ahead
      have hlen := hl.len
      rcases hreg with hreg | hreg
      · refine .mk 0 hreg (by decide) ?_
        conv => whnf
        refine ⟨by kernel_rfl, ?_⟩
        conv => whnf
        (first | (refine SeqOk.go ?_; conv => whnf) | skip)
        refine ⟨fun h3 => ?_, fun h3 => ?_⟩
        · conv => whnf
          refine Ret.int ?_
          have h3 : e.id.n ≠ (cnt e.id.r ahead : Int) + 1 := by
            rw [hreg]
            rw [wrap_id (by omega) (by omega)] at h3
            simpa using h3
          simp [behindErr, h1, h2, h3]
        · have h3 : e.id.n = (cnt e.id.r ahead : Int) + 1 := by
            rw [hreg]
            rw [wrap_id (by omega) (by omega)] at h3
            simpa using h3
          have hd := behind_links h1 h2 h3
          conv => whnf
          refine LoopOk.mk (fun m s => ∃ i, i + m = e.links.length ∧ behindErr ahead e = (if (e.links.drop i).all (fun x => ahead.any (isThe x)) = true then 0 else 5) ∧ s = ⟨[(31, dInt (i : Nat)), (30, dInt (e.links.map Id.enc).length), (29, .dat (.list (e.links.map Id.enc))), (0, .dat (.list (ahead.map Entry'.enc)))], 0, []⟩) e.links.length (Into.mono (Into.to [] [(31, dInt (0 : Nat)), (30, dInt (e.links.map Id.enc).length), (29, .dat (.list (e.links.map Id.enc))), (0, .dat (.list (ahead.map Entry'.enc)))] [] (by repeat (first | exact trivial | refine ⟨.same (congrArg dInt (wrap_up (by omega))), ?_⟩ | refine ⟨.same rfl, ?_⟩ | refine ⟨.any _, ?_⟩)) trivial rfl rfl) fun s' h => ⟨0, by omega, hd, h⟩) ?_
          rintro m s ⟨i, hi, hp, rfl⟩
          conv => whnf
          (first | (refine SeqOk.go ?_; conv => whnf) | skip)
          refine ⟨fun h => ?_, fun h => ?_⟩
          · conv => whnf
            have hi' : i < e.links.length := by simpa using h
            rw [List.drop_eq_getElem_cons hi', List.all_cons] at hp
            refine AtIdx.ofMap hi' rfl ?_
            conv => whnf
            refine .look _ _ (has_ok e.links[i] ahead hl.len) rfl rfl ?_
            conv => whnf
            (first | (refine SeqOk.go ?_; conv => whnf) | skip)
            refine ⟨fun h4 => ?_, fun h4 => ?_⟩
            · have h4 : ahead.any (isThe e.links[i]) = false := by simpa using h4
              conv => whnf
              refine Ret.int ?_
              rw [hp, h4]
              rfl
            · have h4 : ahead.any (isThe e.links[i]) = true := by simpa using h4
              conv => whnf
              refine Into.mono (Into.to [] [(31, dInt (i + 1 : Nat)), (30, dInt (e.links.map Id.enc).length), (29, .dat (.list (e.links.map Id.enc))), (0, .dat (.list (ahead.map Entry'.enc)))] [] (by repeat (first | exact trivial | refine ⟨.same (congrArg dInt (wrap_up (by omega))), ?_⟩ | refine ⟨.same rfl, ?_⟩ | refine ⟨.any _, ?_⟩)) trivial rfl rfl) fun s' h => ⟨m - 1, by omega, i + 1, by omega, ?_, h⟩
              rw [hp, h4, Bool.true_and]
          · conv => whnf
            have hi' : e.links.length ≤ i := by simpa using h
            refine Ret.int ?_
            rw [hp, List.drop_eq_nil_of_le hi']
            rfl
      · refine .mk 1 hreg (by decide) ?_
        conv => whnf
        refine ⟨by kernel_rfl, ?_⟩
        conv => whnf
        (first | (refine SeqOk.go ?_; conv => whnf) | skip)
        refine ⟨fun h3 => ?_, fun h3 => ?_⟩
        · conv => whnf
          refine Ret.int ?_
          have h3 : e.id.n ≠ (cnt e.id.r ahead : Int) + 1 := by
            rw [hreg]
            rw [wrap_id (by omega) (by omega)] at h3
            simpa using h3
          simp [behindErr, h1, h2, h3]
        · have h3 : e.id.n = (cnt e.id.r ahead : Int) + 1 := by
            rw [hreg]
            rw [wrap_id (by omega) (by omega)] at h3
            simpa using h3
          have hd := behind_links h1 h2 h3
          conv => whnf
          refine LoopOk.mk (fun m s => ∃ i, i + m = e.links.length ∧ behindErr ahead e = (if (e.links.drop i).all (fun x => ahead.any (isThe x)) = true then 0 else 5) ∧ s = ⟨[(31, dInt (i : Nat)), (30, dInt (e.links.map Id.enc).length), (29, .dat (.list (e.links.map Id.enc))), (0, .dat (.list (ahead.map Entry'.enc)))], 0, []⟩) e.links.length (Into.mono (Into.to [] [(31, dInt (0 : Nat)), (30, dInt (e.links.map Id.enc).length), (29, .dat (.list (e.links.map Id.enc))), (0, .dat (.list (ahead.map Entry'.enc)))] [] (by repeat (first | exact trivial | refine ⟨.same (congrArg dInt (wrap_up (by omega))), ?_⟩ | refine ⟨.same rfl, ?_⟩ | refine ⟨.any _, ?_⟩)) trivial rfl rfl) fun s' h => ⟨0, by omega, hd, h⟩) ?_
          rintro m s ⟨i, hi, hp, rfl⟩
          conv => whnf
          (first | (refine SeqOk.go ?_; conv => whnf) | skip)
          refine ⟨fun h => ?_, fun h => ?_⟩
          · conv => whnf
            have hi' : i < e.links.length := by simpa using h
            rw [List.drop_eq_getElem_cons hi', List.all_cons] at hp
            refine AtIdx.ofMap hi' rfl ?_
            conv => whnf
            refine .look _ _ (has_ok e.links[i] ahead hl.len) rfl rfl ?_
            conv => whnf
            (first | (refine SeqOk.go ?_; conv => whnf) | skip)
            refine ⟨fun h4 => ?_, fun h4 => ?_⟩
            · have h4 : ahead.any (isThe e.links[i]) = false := by simpa using h4
              conv => whnf
              refine Ret.int ?_
              rw [hp, h4]
              rfl
            · have h4 : ahead.any (isThe e.links[i]) = true := by simpa using h4
              conv => whnf
              refine Into.mono (Into.to [] [(31, dInt (i + 1 : Nat)), (30, dInt (e.links.map Id.enc).length), (29, .dat (.list (e.links.map Id.enc))), (0, .dat (.list (ahead.map Entry'.enc)))] [] (by repeat (first | exact trivial | refine ⟨.same (congrArg dInt (wrap_up (by omega))), ?_⟩ | refine ⟨.same rfl, ?_⟩ | refine ⟨.any _, ?_⟩)) trivial rfl rfl) fun s' h => ⟨m - 1, by omega, i + 1, by omega, ?_, h⟩
              rw [hp, h4, Bool.true_and]
          · conv => whnf
            have hi' : e.links.length ≤ i := by simpa using h
            refine Ret.int ?_
            rw [hp, List.drop_eq_nil_of_le hi']
            rfl
end Go.Proofs.YtlioojekjnigiafGreat.AM
/- Logs: Check of a whole one, and what the document says of it. -/
namespace Go.Proofs.YtlioojekjnigiafGreat.AM
set_option linter.unusedVariables false
set_option linter.unusedSimpArgs false

/-- What is wrong with the rest of a log, behind those that are right. -/
def logLoop (ahead : List Entry') : List Entry' → Int
  | [] => 0
  | e :: t => if behindErr ahead e ≠ 0 then behindErr ahead e else logLoop (ahead ++ [e]) t
def logErr (l : List Entry') : Int := if 40 < l.length then 2 else logLoop [] l
theorem take_snoc {α : Type} {l : List α} {i : Nat} (h : i < l.length) : l.take (i + 1) = l.take i ++ [l[i]] := by
  rw [List.take_add_one, List.getElem?_eq_getElem h]
  rfl
theorem behind_err {ahead : List Entry'} {e : Entry'} (h : behindErr ahead e = 0) : e.err = 0 := by
  unfold behindErr at h
  split at h
  · exact h
  · rename_i h1; simpa using h1
theorem fits_take {es : List Entry'} {i : Nat} : (List.map Entry'.enc es).take i = (es.take i).map Entry'.enc := by rw [List.map_take]
theorem regs_snoc {l : List Entry'} {i : Nat} (hi : i < l.length) (hr : ∀ e ∈ l.take i, e.id.r = 0 ∨ e.id.r = 1) (h : behindErr (l.take i) l[i] = 0) : ∀ e ∈ l.take (i + 1), e.id.r = 0 ∨ e.id.r = 1 := fun e he => by
  rw [take_snoc hi, List.mem_append] at he
  rcases he with he | he
  · exact hr e he
  · obtain rfl : e = l[i] := by simpa using he
    exact r_of_ok (ok_of_err (behind_err h))
set_option maxHeartbeats 0 in
theorem dagCheck_ok (l : List Entry') (hl : LogOk l) : PCall Tryz.prog 9 [.dat (.list (l.map Entry'.enc))] (dInt (logErr l)) := by
  refine pcall_intro tab_all tab_mixed Tryz.func9 (by kernel_rfl) Tryz.ntmps9 rfl ?_
  conv => whnf
  (first | (refine SeqOk.go ?_; conv => whnf) | skip)
  refine ⟨fun h1 => ?_, fun h1 => ?_⟩
  · have h1 : 40 < l.length := by simp at h1; omega
    conv => whnf
    exact Ret.int (by simp [logErr, h1])
  · have h1 : ¬ 40 < l.length := by simp at h1; omega
    have he : logErr l = logLoop [] l := by simp [logErr, h1]
    conv => whnf
    refine LoopOk.mk (fun m s => ∃ i, i + m = l.length ∧ logErr l = logLoop (l.take i) (l.drop i) ∧ (∀ e ∈ l.take i, e.id.r = 0 ∨ e.id.r = 1) ∧ s = ⟨[(11, dInt i), (10, dInt (l.map Entry'.enc).length), (9, .dat (.list (l.map Entry'.enc))), (0, .dat (.list (l.map Entry'.enc)))], 0, []⟩) l.length (Into.mono (Into.to [] [(11, dInt (0 : Nat)), (10, dInt (l.map Entry'.enc).length), (9, .dat (.list (l.map Entry'.enc))), (0, .dat (.list (l.map Entry'.enc)))] [] (by repeat (first | exact trivial | refine ⟨.same (congrArg dInt (wrap_up (by omega))), ?_⟩ | refine ⟨.same rfl, ?_⟩ | refine ⟨.any _, ?_⟩)) trivial rfl rfl) fun s' h => ⟨0, by omega, he, by simp, h⟩) ?_
    rintro m s ⟨i, hi, hp, hr, rfl⟩
    conv => whnf
    (first | (refine SeqOk.go ?_; conv => whnf) | skip)
    refine ⟨fun h => ?_, fun h => ?_⟩
    · conv => whnf
      have hi' : i < l.length := by simpa using h
      rw [List.drop_eq_getElem_cons hi'] at hp
      refine AtIdx.ofMap hi' rfl ?_
      conv => whnf
      refine .mk 0 i rfl rfl (Nat.zero_le _) (by simp; omega) ?_
      rw [fits_take]
      conv => whnf
      refine .look _ _ (checkBehind_ok (l.take i) l[i] (hl.take i) hr (hl.links _ (List.getElem_mem hi'))) rfl rfl ?_
      conv => whnf
      refine ⟨by kernel_rfl, ?_⟩
      conv => whnf
      (first | (refine SeqOk.go ?_; conv => whnf) | skip)
      rw [logLoop] at hp
      refine ⟨fun h2 => ?_, fun h2 => ?_⟩
      · have h2 : behindErr (l.take i) l[i] ≠ 0 := by simpa using h2
        conv => whnf
        refine Ret.int ?_
        rw [hp, if_pos h2]
      · have h2 : behindErr (l.take i) l[i] = 0 := by simpa using h2
        conv => whnf
        refine Into.mono (Into.to [] [(11, dInt (i + 1 : Nat)), (10, dInt (l.map Entry'.enc).length), (9, .dat (.list (l.map Entry'.enc))), (0, .dat (.list (l.map Entry'.enc)))] [] (by repeat (first | exact trivial | refine ⟨.same (congrArg dInt (wrap_up (by omega))), ?_⟩ | refine ⟨.same rfl, ?_⟩ | refine ⟨.any _, ?_⟩)) trivial rfl rfl) fun s' h => ⟨m - 1, by omega, i + 1, by omega, ?_, regs_snoc hi' hr h2, h⟩
        rw [hp, if_neg (by simp [h2]), take_snoc hi']
    · conv => whnf
      have hi' : l.length ≤ i := by simpa using h
      refine Ret.int ?_
      rw [hp, List.drop_eq_nil_of_le hi']
      rfl
end Go.Proofs.YtlioojekjnigiafGreat.AM
/- Logs: what the document says of a whole one. -/
namespace Go.Proofs.YtlioojekjnigiafGreat.AM
set_option linter.unusedVariables false
set_option linter.unusedSimpArgs false

/-- What comes behind a loop, hidden while it is walked. -/
theorem LoopOk.hide {N : Nat} {body : (X → St → Prop) → St → Prop} {Q : X → St → Prop} {s : St} (h : ∀ Q', Q' = Q → LoopOk N body Q' s) : LoopOk N body Q s := h Q rfl
theorem entryAt_iff {l : List Entry'} {x : Id} : entryAt l x ≥ 0 ↔ l.any (isThe x) = true := idx_any' _ _ _
set_option maxHeartbeats 0 in
theorem checkLog_ok (l : List Entry') (hl : LogOk l) : PCall Tryz.prog 83 [.dat (.list (l.map Entry'.enc))] (dInt (logErr l)) := by
  refine pcall_intro tab_all tab_mixed Tryz.func83 (by kernel_rfl) Tryz.ntmps83 rfl ?_
  conv => whnf
  (first | (refine SeqOk.go ?_; conv => whnf) | skip)
  refine ⟨fun h1 => ?_, fun h1 => ?_⟩
  · have h1 : 40 < l.length := by simp at h1; omega
    conv => whnf
    exact Ret.int (by simp [logErr, h1])
  · have h1 : ¬ 40 < l.length := by simp at h1; omega
    have he : logErr l = logLoop [] l := by simp [logErr, h1]
    conv => whnf
    refine LoopOk.hide fun Q1 hQ1 => ?_
    refine LoopOk.mk (fun m s => ∃ i, i + m = l.length ∧ logErr l = logLoop (l.take i) (l.drop i) ∧ (∀ e ∈ l.take i, e.id.r = 0 ∨ e.id.r = 1) ∧ s = ⟨[(3, dInt i), (0, .dat (.list (l.map Entry'.enc)))], 0, []⟩) l.length (Into.mono (Into.to [] [(3, dInt (0 : Nat)), (0, .dat (.list (l.map Entry'.enc)))] [] (by repeat (first | exact trivial | refine ⟨.same (congrArg dInt (wrap_up (by omega))), ?_⟩ | refine ⟨.same rfl, ?_⟩ | refine ⟨.any _, ?_⟩)) trivial rfl rfl) fun s' h => ⟨0, by omega, he, by simp, h⟩) ?_
    rintro m s ⟨i, hi, hp, hr, rfl⟩
    conv => whnf
    (first | (refine SeqOk.go ?_; conv => whnf) | skip)
    refine ⟨fun h => ?_, fun h => ?_⟩
    · conv => whnf
      have hi' : i < l.length := by simpa using h
      rw [List.drop_eq_getElem_cons hi', logLoop] at hp
      refine AtIdx.ofMap hi' rfl ?_
      conv => whnf
      refine .look _ _ (checkEntry_ok l[i] (hl.links _ (List.getElem_mem hi'))) rfl rfl ?_
      conv => whnf
      (first | (refine SeqOk.go ?_; conv => whnf) | skip)
      refine ⟨fun h2 => ?_, fun h2 => ?_⟩
      · have h2 : l[i].err ≠ 0 := by simpa using h2
        conv => whnf
        subst hQ1
        conv => whnf
        refine Ret.int ?_
        have : behindErr (l.take i) l[i] = l[i].err := by simp [behindErr, h2]
        rw [hp, if_pos (by rw [this]; exact h2), this]
      · have h2 : l[i].err = 0 := by simpa using h2
        conv => whnf
        refine .mk 0 i rfl rfl (Nat.zero_le _) (by simp; omega) ?_
        rw [fits_take]
        conv => whnf
        refine AtIdx.ofMap hi' rfl ?_
        conv => whnf
        refine .look _ _ (entryAt_ok l[i].id (l.take i) (hl.take i).len) rfl rfl ?_
        conv => whnf
        refine ⟨by kernel_rfl, ?_⟩
        conv => whnf
        (first | (refine SeqOk.go ?_; conv => whnf) | skip)
        refine ⟨fun h3 => ?_, fun h3 => ?_⟩
        · have h3 : (l.take i).any (isThe l[i].id) = true := entryAt_iff.1 (by simpa using h3)
          conv => whnf
          subst hQ1
          conv => whnf
          refine Ret.int ?_
          have : behindErr (l.take i) l[i] = 6 := by simp [behindErr, h2, h3]
          rw [hp, if_pos (by rw [this]; decide), this]
        · have h3 : (l.take i).any (isThe l[i].id) = false := by
            rw [Bool.eq_false_iff]
            intro hh
            have := entryAt_iff.2 hh
            simp at h3
            omega
          have hreg := r_of_ok (ok_of_err h2)
          have hc := cnt_le 0 (l.take i)
          have hc1 := cnt_le 1 (l.take i)
          have hlen := (hl.take i).len
          conv => whnf
          refine .mk 0 i rfl rfl (Nat.zero_le _) (by simp; omega) ?_
          rw [fits_take]
          conv => whnf
          refine .look _ _ (countOf_ok (l.take i) (hl.take i).len hr) rfl rfl ?_
          conv => whnf
          refine AtIdx.ofMap hi' rfl ?_
          conv => whnf
          rcases hreg with hreg | hreg
          · refine .mk 0 hreg (by decide) ?_
            conv => whnf
            refine AtIdx.ofMap hi' rfl ?_
            conv => whnf
            refine ⟨by kernel_rfl, ?_⟩
            conv => whnf
            (first | (refine SeqOk.go ?_; conv => whnf) | skip)
            refine ⟨fun h4 => ?_, fun h4 => ?_⟩
            · conv => whnf
              subst hQ1
              conv => whnf
              refine Ret.int ?_
              have h4 : l[i].id.n ≠ (cnt l[i].id.r (l.take i) : Int) + 1 := by
                rw [hreg]
                rw [wrap_id (by omega) (by omega)] at h4
                simp at h4
                omega
              have : behindErr (l.take i) l[i] = 4 := by simp [behindErr, h2, h3, h4]
              rw [hp, if_pos (by rw [this]; decide), this]
            · have h4 : l[i].id.n = (cnt l[i].id.r (l.take i) : Int) + 1 := by
                rw [hreg]
                rw [wrap_id (by omega) (by omega)] at h4
                simp at h4
                omega
              have hd := behind_links h2 h3 h4
              conv => whnf
              refine LoopOk.hide fun Q2 hQ2 => ?_
              refine LoopOk.mk (fun m' s => ∃ k, k + m' = l[i].links.length ∧ behindErr (l.take i) l[i] = (if (l[i].links.drop k).all (fun x => (l.take i).any (isThe x)) = true then 0 else 5) ∧ s = ⟨[(5, dInt k), (3, dInt i), (0, .dat (.list (l.map Entry'.enc)))], 0, []⟩) l[i].links.length (Into.mono (Into.to [] [(5, dInt (0 : Nat)), (3, dInt i), (0, .dat (.list (l.map Entry'.enc)))] [] (by repeat (first | exact trivial | refine ⟨.same (congrArg dInt (wrap_up (by omega))), ?_⟩ | refine ⟨.same rfl, ?_⟩ | refine ⟨.any _, ?_⟩)) trivial rfl rfl) fun s' h => ⟨0, by omega, hd, h⟩) ?_
              rintro m' s ⟨k, hk, hq, rfl⟩
              conv => whnf
              refine AtIdx.ofMap hi' rfl ?_
              conv => whnf
              (first | (refine SeqOk.go ?_; conv => whnf) | skip)
              refine ⟨fun h5 => ?_, fun h5 => ?_⟩
              · have hk' : k < l[i].links.length := by simpa using h5
                rw [List.drop_eq_getElem_cons hk', List.all_cons] at hq
                conv => whnf
                refine .mk 0 i rfl rfl (Nat.zero_le _) (by simp; omega) ?_
                rw [fits_take]
                conv => whnf
                refine AtIdx.ofMap hi' rfl ?_
                conv => whnf
                refine AtIdx.ofMap hk' rfl ?_
                conv => whnf
                refine .look _ _ (entryAt_ok l[i].links[k] (l.take i) (hl.take i).len) rfl rfl ?_
                conv => whnf
                refine ⟨by kernel_rfl, ?_⟩
                conv => whnf
                (first | (refine SeqOk.go ?_; conv => whnf) | skip)
                refine ⟨fun h6 => ?_, fun h6 => ?_⟩
                · have h6 : (l.take i).any (isThe l[i].links[k]) = false := by
                    rw [Bool.eq_false_iff]
                    intro hh
                    have := entryAt_iff.2 hh
                    simp at h6
                    omega
                  conv => whnf
                  subst hQ2
                  conv => whnf
                  subst hQ1
                  conv => whnf
                  refine Ret.int ?_
                  rw [h6] at hq
                  have hq : behindErr (l.take i) l[i] = 5 := hq
                  rw [hp, if_pos (by rw [hq]; decide), hq]
                · have h6 : (l.take i).any (isThe l[i].links[k]) = true := entryAt_iff.1 (by simpa using h6)
                  have hlk := hl.links _ (List.getElem_mem hi')
                  conv => whnf
                  refine Into.mono (Into.to [] [(5, dInt (k + 1 : Nat)), (3, dInt i), (0, .dat (.list (l.map Entry'.enc)))] [] (by repeat (first | exact trivial | refine ⟨.same (congrArg dInt (wrap_up (by omega))), ?_⟩ | refine ⟨.same rfl, ?_⟩ | refine ⟨.any _, ?_⟩)) trivial rfl rfl) fun s' h => ⟨m' - 1, by omega, k + 1, by omega, ?_, h⟩
                  rw [hq, h6, Bool.true_and]
              · conv => whnf
                have hk' : l[i].links.length ≤ k := by simpa using h5
                rw [List.drop_eq_nil_of_le hk'] at hq
                have hz : behindErr (l.take i) l[i] = 0 := hq
                subst hQ2
                conv => whnf
                refine Into.mono (Into.to [] [(3, dInt (i + 1 : Nat)), (0, .dat (.list (l.map Entry'.enc)))] [] (by repeat (first | exact trivial | refine ⟨.same (congrArg dInt (wrap_up (by omega))), ?_⟩ | refine ⟨.same rfl, ?_⟩ | refine ⟨.any _, ?_⟩)) trivial rfl rfl) fun s' h => ⟨m - 1, by omega, i + 1, by omega, ?_, regs_snoc hi' hr hz, h⟩
                rw [hp, if_neg (by simp [hz]), take_snoc hi']
          · refine .mk 1 hreg (by decide) ?_
            conv => whnf
            refine AtIdx.ofMap hi' rfl ?_
            conv => whnf
            refine ⟨by kernel_rfl, ?_⟩
            conv => whnf
            (first | (refine SeqOk.go ?_; conv => whnf) | skip)
            refine ⟨fun h4 => ?_, fun h4 => ?_⟩
            · conv => whnf
              subst hQ1
              conv => whnf
              refine Ret.int ?_
              have h4 : l[i].id.n ≠ (cnt l[i].id.r (l.take i) : Int) + 1 := by
                rw [hreg]
                rw [wrap_id (by omega) (by omega)] at h4
                simp at h4
                omega
              have : behindErr (l.take i) l[i] = 4 := by simp [behindErr, h2, h3, h4]
              rw [hp, if_pos (by rw [this]; decide), this]
            · have h4 : l[i].id.n = (cnt l[i].id.r (l.take i) : Int) + 1 := by
                rw [hreg]
                rw [wrap_id (by omega) (by omega)] at h4
                simp at h4
                omega
              have hd := behind_links h2 h3 h4
              conv => whnf
              refine LoopOk.hide fun Q2 hQ2 => ?_
              refine LoopOk.mk (fun m' s => ∃ k, k + m' = l[i].links.length ∧ behindErr (l.take i) l[i] = (if (l[i].links.drop k).all (fun x => (l.take i).any (isThe x)) = true then 0 else 5) ∧ s = ⟨[(5, dInt k), (3, dInt i), (0, .dat (.list (l.map Entry'.enc)))], 0, []⟩) l[i].links.length (Into.mono (Into.to [] [(5, dInt (0 : Nat)), (3, dInt i), (0, .dat (.list (l.map Entry'.enc)))] [] (by repeat (first | exact trivial | refine ⟨.same (congrArg dInt (wrap_up (by omega))), ?_⟩ | refine ⟨.same rfl, ?_⟩ | refine ⟨.any _, ?_⟩)) trivial rfl rfl) fun s' h => ⟨0, by omega, hd, h⟩) ?_
              rintro m' s ⟨k, hk, hq, rfl⟩
              conv => whnf
              refine AtIdx.ofMap hi' rfl ?_
              conv => whnf
              (first | (refine SeqOk.go ?_; conv => whnf) | skip)
              refine ⟨fun h5 => ?_, fun h5 => ?_⟩
              · have hk' : k < l[i].links.length := by simpa using h5
                rw [List.drop_eq_getElem_cons hk', List.all_cons] at hq
                conv => whnf
                refine .mk 0 i rfl rfl (Nat.zero_le _) (by simp; omega) ?_
                rw [fits_take]
                conv => whnf
                refine AtIdx.ofMap hi' rfl ?_
                conv => whnf
                refine AtIdx.ofMap hk' rfl ?_
                conv => whnf
                refine .look _ _ (entryAt_ok l[i].links[k] (l.take i) (hl.take i).len) rfl rfl ?_
                conv => whnf
                refine ⟨by kernel_rfl, ?_⟩
                conv => whnf
                (first | (refine SeqOk.go ?_; conv => whnf) | skip)
                refine ⟨fun h6 => ?_, fun h6 => ?_⟩
                · have h6 : (l.take i).any (isThe l[i].links[k]) = false := by
                    rw [Bool.eq_false_iff]
                    intro hh
                    have := entryAt_iff.2 hh
                    simp at h6
                    omega
                  conv => whnf
                  subst hQ2
                  conv => whnf
                  subst hQ1
                  conv => whnf
                  refine Ret.int ?_
                  rw [h6] at hq
                  have hq : behindErr (l.take i) l[i] = 5 := hq
                  rw [hp, if_pos (by rw [hq]; decide), hq]
                · have h6 : (l.take i).any (isThe l[i].links[k]) = true := entryAt_iff.1 (by simpa using h6)
                  have hlk := hl.links _ (List.getElem_mem hi')
                  conv => whnf
                  refine Into.mono (Into.to [] [(5, dInt (k + 1 : Nat)), (3, dInt i), (0, .dat (.list (l.map Entry'.enc)))] [] (by repeat (first | exact trivial | refine ⟨.same (congrArg dInt (wrap_up (by omega))), ?_⟩ | refine ⟨.same rfl, ?_⟩ | refine ⟨.any _, ?_⟩)) trivial rfl rfl) fun s' h => ⟨m' - 1, by omega, k + 1, by omega, ?_, h⟩
                  rw [hq, h6, Bool.true_and]
              · conv => whnf
                have hk' : l[i].links.length ≤ k := by simpa using h5
                rw [List.drop_eq_nil_of_le hk'] at hq
                have hz : behindErr (l.take i) l[i] = 0 := hq
                subst hQ2
                conv => whnf
                refine Into.mono (Into.to [] [(3, dInt (i + 1 : Nat)), (0, .dat (.list (l.map Entry'.enc)))] [] (by repeat (first | exact trivial | refine ⟨.same (congrArg dInt (wrap_up (by omega))), ?_⟩ | refine ⟨.same rfl, ?_⟩ | refine ⟨.any _, ?_⟩)) trivial rfl rfl) fun s' h => ⟨m - 1, by omega, i + 1, by omega, ?_, regs_snoc hi' hr hz, h⟩
                rw [hp, if_neg (by simp [hz]), take_snoc hi']
    · conv => whnf
      have hi' : l.length ≤ i := by simpa using h
      subst hQ1
      conv => whnf
      refine Ret.int ?_
      rw [hp, List.drop_eq_nil_of_le hi']
      rfl
end Go.Proofs.YtlioojekjnigiafGreat.AM
/- Ids: is one among some. -/
namespace Go.Proofs.YtlioojekjnigiafGreat.AM
set_option linter.unusedVariables false
set_option linter.unusedSimpArgs false

def isId2 (x y : Id) : Bool := x.r == y.r && (x.n == y.n && true)
theorem isId2_iff {x y : Id} : isId2 x y = true ↔ x = y := by
  simp only [isId2, Bool.and_eq_true, beq_iff_eq, and_true]
  exact ⟨fun h => Id.ext' h.1 h.2, fun h => by rw [h]; exact ⟨rfl, rfl⟩⟩
set_option maxHeartbeats 0 in
theorem indexId_ok (x : Id) (l : List Id) (hl : l.length ≤ 140737488355328) : PCall Tryz.prog 182 [.dat (.list (l.map Id.enc)), x.arg] (dInt (idxOf (isIdx (isId2 x) l 0))) := by
  refine pcall_intro tab_all tab_mixed Tryz.func182 (by kernel_rfl) Tryz.ntmps182 rfl ?_
  conv => whnf
  refine LoopOk.mk (fun m s => ∃ i, i + m = l.length ∧ isIdx (isId2 x) l 0 = isIdx (isId2 x) (l.drop i) i ∧ s = ⟨[(8, dInt i), (7, dInt (l.map Id.enc).length), (0, .dat (.list (l.map Id.enc))), (3, .ptr 0 0)], 1, [(0, .vars 25 2 [dInt x.r, dInt x.n] true)]⟩) l.length (Into.mono (Into.to [0] [(8, dInt (0 : Nat)), (7, dInt (l.map Id.enc).length), (0, .dat (.list (l.map Id.enc))), (3, .ptr 0 0)] [(0, .vars 25 2 [dInt x.r, dInt x.n] true)] (by repeat (first | exact trivial | refine ⟨.same (congrArg dInt (wrap_up (by omega))), ?_⟩ | refine ⟨.same rfl, ?_⟩ | refine ⟨.any _, ?_⟩)) ⟨⟨rfl, rfl, rfl, .same rfl, rfl, .same rfl, rfl, trivial⟩, trivial⟩ rfl rfl) fun s' h => ⟨0, by omega, rfl, h⟩) ?_
  rintro m s ⟨i, hi, hp, rfl⟩
  conv => whnf
  (first | (refine SeqOk.go ?_; conv => whnf) | skip)
  refine ⟨fun h => ?_, fun h => ?_⟩
  · conv => whnf
    have hi' : i < l.length := by simpa using h
    rw [List.drop_eq_getElem_cons hi'] at hp
    refine AtIdx.ofMap hi' rfl ?_
    conv => whnf
    refine ⟨by kernel_rfl, ?_⟩
    conv => whnf
    (first | (refine SeqOk.go ?_; conv => whnf) | skip)
    refine ⟨fun h1 => ?_, fun h1 => ?_⟩
    · have h1 : isId2 x l[i] = true := h1
      conv => whnf
      refine Ret.int ?_
      rw [hp]
      simp [isIdx, h1, idxOf]
    · have h1 : isId2 x l[i] = false := h1
      conv => whnf
      refine Into.mono (Into.to [0] [(8, dInt (i + 1 : Nat)), (7, dInt (l.map Id.enc).length), (0, .dat (.list (l.map Id.enc))), (3, .ptr 0 0)] [(0, .vars 25 2 [dInt x.r, dInt x.n] true)] (by repeat (first | exact trivial | refine ⟨.same (congrArg dInt (wrap_up (by omega))), ?_⟩ | refine ⟨.same rfl, ?_⟩ | refine ⟨.any _, ?_⟩)) ⟨⟨rfl, rfl, rfl, .same rfl, rfl, .same rfl, rfl, trivial⟩, trivial⟩ rfl rfl) fun s' h => ⟨m - 1, by omega, i + 1, by omega, ?_, h⟩
      rw [hp]
      simp [isIdx, h1]
  · conv => whnf
    have hi' : l.length ≤ i := by simpa using h
    refine Ret.int ?_
    rw [hp, List.drop_eq_nil_of_le hi']
    rfl
theorem containsId_ok (x : Id) (l : List Id) (hl : l.length ≤ 140737488355328) : PCall Tryz.prog 100 [.dat (.list (l.map Id.enc)), x.arg] (dBool (l.any (isId2 x))) := by
  refine pcall_intro tab_all tab_mixed Tryz.func100 (by kernel_rfl) Tryz.ntmps100 rfl ?_
  conv => whnf
  refine .look _ _ (indexId_ok x l hl) rfl rfl ?_
  conv => whnf
  exact Ret.bool (by rw [← idx_any (isId2 x) l 0])
def hasId (l : List Id) (x : Id) : Bool := l.any fun y => isId2 y x
set_option maxHeartbeats 0 in
theorem hasId_ok (x : Id) (l : List Id) (hl : l.length ≤ 140737488355328) : PCall Tryz.prog 90 [.dat (.list (l.map Id.enc)), x.arg] (dBool (hasId l x)) := by
  refine pcall_intro tab_all tab_mixed Tryz.func90 (by kernel_rfl) Tryz.ntmps90 rfl ?_
  conv => whnf
  refine LoopOk.mk (fun m s => ∃ i, i + m = l.length ∧ hasId l x = hasId (l.drop i) x ∧ s = ⟨[(5, dInt i), (0, .dat (.list (l.map Id.enc))), (3, .ptr 0 0)], 1, [(0, .vars 25 2 [dInt x.r, dInt x.n] true)]⟩) l.length (Into.mono (Into.to [0] [(5, dInt (0 : Nat)), (0, .dat (.list (l.map Id.enc))), (3, .ptr 0 0)] [(0, .vars 25 2 [dInt x.r, dInt x.n] true)] (by repeat (first | exact trivial | refine ⟨.same (congrArg dInt (wrap_up (by omega))), ?_⟩ | refine ⟨.same rfl, ?_⟩ | refine ⟨.any _, ?_⟩)) ⟨⟨rfl, rfl, rfl, .same rfl, rfl, .same rfl, rfl, trivial⟩, trivial⟩ rfl rfl) fun s' h => ⟨0, by omega, rfl, h⟩) ?_
  rintro m s ⟨i, hi, hp, rfl⟩
  conv => whnf
  (first | (refine SeqOk.go ?_; conv => whnf) | skip)
  refine ⟨fun h => ?_, fun h => ?_⟩
  · conv => whnf
    have hi' : i < l.length := by simpa using h
    rw [List.drop_eq_getElem_cons hi', hasId, hasId, List.any_cons] at hp
    refine AtIdx.ofMap hi' rfl ?_
    conv => whnf
    refine ⟨by kernel_rfl, ?_⟩
    conv => whnf
    (first | (refine SeqOk.go ?_; conv => whnf) | skip)
    refine ⟨fun h1 => ?_, fun h1 => ?_⟩
    · have h1 : isId2 l[i] x = true := h1
      conv => whnf
      refine Ret.bool ?_
      rw [hasId, hp, h1]
      rfl
    · have h1 : isId2 l[i] x = false := h1
      conv => whnf
      refine Into.mono (Into.to [0] [(5, dInt (i + 1 : Nat)), (0, .dat (.list (l.map Id.enc))), (3, .ptr 0 0)] [(0, .vars 25 2 [dInt x.r, dInt x.n] true)] (by repeat (first | exact trivial | refine ⟨.same (congrArg dInt (wrap_up (by omega))), ?_⟩ | refine ⟨.same rfl, ?_⟩ | refine ⟨.any _, ?_⟩)) ⟨⟨rfl, rfl, rfl, .same rfl, rfl, .same rfl, rfl, trivial⟩, trivial⟩ rfl rfl) fun s' h => ⟨m - 1, by omega, i + 1, by omega, ?_, h⟩
      rw [hasId, hp, h1, Bool.false_or]
      rfl
  · conv => whnf
    have hi' : l.length ≤ i := by simpa using h
    refine Ret.to ?_
    rw [hp, List.drop_eq_nil_of_le hi']
    rfl
end Go.Proofs.YtlioojekjnigiafGreat.AM
/- Ids: are two rows of them the same. -/
namespace Go.Proofs.YtlioojekjnigiafGreat.AM
set_option linter.unusedVariables false
set_option linter.unusedSimpArgs false

def sameIds : List Id → List Id → Bool
  | [], [] => true
  | a :: t, b :: u => isId2 a b && sameIds t u
  | _, _ => false
theorem sameIds_iff : ∀ {a b : List Id}, sameIds a b = true ↔ a = b
  | [], [] => by simp [sameIds]
  | a :: t, b :: u => by simp [sameIds, isId2_iff, sameIds_iff (a := t) (b := u)]
  | [], _ :: _ => by simp [sameIds]
  | _ :: _, [] => by simp [sameIds]
set_option maxHeartbeats 0 in
theorem sameIds_ok (a b : List Id) (hl : a.length ≤ 140737488355328) : PCall Tryz.prog 37 [.dat (.list (a.map Id.enc)), .dat (.list (b.map Id.enc))] (dBool (sameIds a b)) := by
  refine pcall_intro tab_all tab_mixed Tryz.func37 (by kernel_rfl) Tryz.ntmps37 rfl ?_
  conv => whnf
  (first | (refine SeqOk.go ?_; conv => whnf) | skip)
  refine ⟨fun h0 => ?_, fun h0 => ?_⟩
  · have h0 : a.length ≠ b.length := by simp at h0; omega
    conv => whnf
    refine Ret.bool ?_
    have : ¬ sameIds a b = true := fun h => h0 (by rw [sameIds_iff.1 h])
    simp [this]
  · have h0 : a.length = b.length := by simp at h0; omega
    conv => whnf
    refine LoopOk.mk (fun m s => ∃ i, i + m = a.length ∧ sameIds a b = sameIds (a.drop i) (b.drop i) ∧ s = ⟨[(5, dInt i), (0, .dat (.list (a.map Id.enc))), (1, .dat (.list (b.map Id.enc)))], 0, []⟩) a.length (Into.mono (Into.to [] [(5, dInt (0 : Nat)), (0, .dat (.list (a.map Id.enc))), (1, .dat (.list (b.map Id.enc)))] [] (by repeat (first | exact trivial | refine ⟨.same (congrArg dInt (wrap_up (by omega))), ?_⟩ | refine ⟨.same rfl, ?_⟩ | refine ⟨.any _, ?_⟩)) trivial rfl rfl) fun s' h => ⟨0, by omega, rfl, h⟩) ?_
    rintro m s ⟨i, hi, hp, rfl⟩
    conv => whnf
    (first | (refine SeqOk.go ?_; conv => whnf) | skip)
    refine ⟨fun h => ?_, fun h => ?_⟩
    · conv => whnf
      have hi' : i < a.length := by simpa using h
      have hj' : i < b.length := by omega
      rw [List.drop_eq_getElem_cons hi', List.drop_eq_getElem_cons hj', sameIds] at hp
      refine AtIdx.ofMap hi' rfl ?_
      conv => whnf
      refine AtIdx.ofMap hj' rfl ?_
      conv => whnf
      refine ⟨by kernel_rfl, ?_⟩
      conv => whnf
      (first | (refine SeqOk.go ?_; conv => whnf) | skip)
      refine ⟨fun h1 => ?_, fun h1 => ?_⟩
      · have h1 : isId2 a[i] b[i] = false := (Bool.not_eq_true' _).mp h1
        conv => whnf
        refine Ret.bool ?_
        rw [hp, h1]
        rfl
      · have h1 : isId2 a[i] b[i] = true := (Bool.not_eq_false' (b := isId2 a[i] b[i])).mp h1
        conv => whnf
        refine Into.mono (Into.to [] [(5, dInt (i + 1 : Nat)), (0, .dat (.list (a.map Id.enc))), (1, .dat (.list (b.map Id.enc)))] [] (by repeat (first | exact trivial | refine ⟨.same (congrArg dInt (wrap_up (by omega))), ?_⟩ | refine ⟨.same rfl, ?_⟩ | refine ⟨.any _, ?_⟩)) trivial rfl rfl) fun s' h => ⟨m - 1, by omega, i + 1, by omega, ?_, h⟩
        rw [hp, h1, Bool.true_and]
    · conv => whnf
      have hi' : a.length ≤ i := by simpa using h
      refine Ret.to ?_
      rw [hp, List.drop_eq_nil_of_le hi', List.drop_eq_nil_of_le (by omega)]
      rfl
end Go.Proofs.YtlioojekjnigiafGreat.AM
/- Plain: right logs, and what is in the past of what. -/
namespace Go.Proofs.YtlioojekjnigiafGreat.AM
set_option linter.unusedVariables false
set_option linter.unusedSimpArgs false

theorem any_isId2 {l : List Id} {x : Id} : l.any (isId2 x) = true ↔ x ∈ l := by
  rw [List.any_eq_true]
  exact ⟨fun ⟨y, h1, h2⟩ => by rw [isId2_iff.1 h2]; exact h1, fun h => ⟨x, h, isId2_iff.2 rfl⟩⟩
theorem any_isThe {l : List Entry'} {x : Id} : l.any (isThe x) = true ↔ ∃ e ∈ l, e.id = x := by
  rw [List.any_eq_true]
  exact ⟨fun ⟨e, h1, h2⟩ => ⟨e, h1, isThe_iff.1 h2⟩, fun ⟨e, h1, h2⟩ => ⟨e, h1, isThe_iff.2 h2⟩⟩
theorem hasId_iff {l : List Id} {x : Id} : hasId l x = true ↔ x ∈ l := by
  unfold hasId
  rw [List.any_eq_true]
  exact ⟨fun ⟨y, h1, h2⟩ => by rw [← isId2_iff.1 h2]; exact h1, fun h => ⟨x, h, isId2_iff.2 rfl⟩⟩

structure Behind (a : List Entry') (e : Entry') : Prop where
  err : e.err = 0
  new : ∀ x ∈ a, x.id ≠ e.id
  num : e.id.n = (cnt e.id.r a : Int) + 1
  links : ∀ y ∈ e.links, ∃ x ∈ a, x.id = y
theorem behindErr_iff {a : List Entry'} {e : Entry'} : behindErr a e = 0 ↔ Behind a e := by
  unfold behindErr
  by_cases h1 : e.err = 0
  · rw [if_neg (by simp [h1])]
    by_cases h2 : a.any (isThe e.id) = true
    · rw [if_pos h2]
      refine ⟨fun h => by simp at h, fun h => ?_⟩
      obtain ⟨x, hx, hxe⟩ := any_isThe.1 h2
      exact absurd hxe (h.new x hx)
    · rw [if_neg h2]
      have h2' : ∀ x ∈ a, x.id ≠ e.id := fun x hx he => h2 (any_isThe.2 ⟨x, hx, he⟩)
      by_cases h3 : e.id.n = (cnt e.id.r a : Int) + 1
      · rw [if_neg (by simp [← h3])]
        by_cases h4 : e.links.all (fun x => a.any (isThe x)) = true
        · rw [if_pos h4]
          refine ⟨fun _ => ⟨h1, h2', h3, fun y hy => any_isThe.1 (List.all_eq_true.1 h4 y hy)⟩, fun _ => rfl⟩
        · rw [if_neg h4]
          refine ⟨fun h => by simp at h, fun h => absurd ?_ h4⟩
          exact List.all_eq_true.2 fun y hy => any_isThe.2 (h.links y hy)
      · rw [if_pos h3]
        exact ⟨fun h => by simp at h, fun h => absurd h.num h3⟩
  · rw [if_pos h1]
    exact ⟨fun h => absurd h h1, fun h => absurd h.err h1⟩
/-- A log of which Check has nothing to say. -/
structure Right (l : List Entry') : Prop where
  len : l.length ≤ 40
  at' : ∀ a e b, l = a ++ e :: b → Behind a e
theorem logLoop_iff : ∀ (t ahead : List Entry'), logLoop ahead t = 0 ↔ ∀ a e b, t = a ++ e :: b → Behind (ahead ++ a) e
  | [], ahead => ⟨fun _ a e b h => by simp at h, fun _ => rfl⟩
  | x :: t, ahead => by
    unfold logLoop
    by_cases h : behindErr ahead x = 0
    · rw [if_neg (by simp [h]), logLoop_iff t]
      refine ⟨fun k a e b hh => ?_, fun k a e b hh => ?_⟩
      · cases a with
        | nil =>
          simp only [List.nil_append, List.cons.injEq] at hh
          rw [← hh.1, List.append_nil]
          exact behindErr_iff.1 h
        | cons y a =>
          simp only [List.cons_append, List.cons.injEq] at hh
          obtain ⟨rfl, hh⟩ := hh
          have := k a e b hh
          rwa [List.append_assoc] at this
      · have := k (x :: a) e b (by rw [hh]; rfl)
        rwa [List.append_cons] at this
    · rw [if_pos h]
      refine ⟨fun k => absurd k h, fun k => ?_⟩
      have := k [] x t rfl
      rw [List.append_nil] at this
      exact behindErr_iff.2 this
theorem right_iff {l : List Entry'} : logErr l = 0 ↔ Right l := by
  unfold logErr
  by_cases h : 40 < l.length
  · rw [if_pos h]
    exact ⟨fun h => by simp at h, fun k => by have := k.len; omega⟩
  · rw [if_neg h, logLoop_iff]
    exact ⟨fun k => ⟨by omega, fun a e b hh => by simpa using k a e b hh⟩, fun k a e b hh => by simpa using k.at' a e b hh⟩
theorem Right.of_append {a b : List Entry'} (h : Right (a ++ b)) : Right a :=
  ⟨by have := h.len; simp at this; omega, fun c e d hh => h.at' c e (d ++ b) (by rw [hh]; simp)⟩
theorem Right.take {l : List Entry'} (h : Right l) (n : Nat) : Right (l.take n) := by
  refine Right.of_append (b := l.drop n) ?_
  rw [List.take_append_drop]; exact h
theorem Right.get {l : List Entry'} (h : Right l) {i : Nat} (hi : i < l.length) : Behind (l.take i) l[i] :=
  h.at' _ _ (l.drop (i + 1)) (by rw [← List.drop_eq_getElem_cons hi, List.take_append_drop])
theorem Right.mem {l : List Entry'} (h : Right l) {e : Entry'} (he : e ∈ l) : e.err = 0 := by
  obtain ⟨a, b, rfl⟩ := List.append_of_mem he
  exact (h.at' a e b rfl).err
theorem Right.regs {l : List Entry'} (h : Right l) : ∀ e ∈ l, e.id.r = 0 ∨ e.id.r = 1 := fun e he => r_of_ok (ok_of_err (h.mem he))
theorem Right.links {l : List Entry'} (h : Right l) {e : Entry'} (he : e ∈ l) {y : Id} (hy : y ∈ e.links) : ∃ x ∈ l, x.id = y := by
  obtain ⟨a, b, rfl⟩ := List.append_of_mem he
  obtain ⟨x, hx, h1⟩ := (h.at' a e b rfl).links y hy
  exact ⟨x, by simp [hx], h1⟩
theorem Right.inj {l : List Entry'} (h : Right l) {i j : Nat} (hi : i < l.length) (hj : j < l.length) (e : l[i].id = l[j].id) : i = j := by
  have key : ∀ i j (hi : i < l.length) (hj : j < l.length), i < j → l[i].id ≠ l[j].id := fun i j hi hj hij => by
    have := (h.get hj).new l[i] (by rw [List.mem_take_iff_getElem]; exact ⟨i, by omega, rfl⟩)
    exact this
  rcases Nat.lt_trichotomy i j with h1 | h1 | h1
  · exact absurd e (key i j hi hj h1)
  · exact h1
  · exact absurd e.symm (key j i hj hi h1)
theorem Right.ent {l : List Entry'} (h : Right l) {x y : Entry'} (hx : x ∈ l) (hy : y ∈ l) (e : x.id = y.id) : x = y := by
  obtain ⟨i, hi, rfl⟩ := List.getElem_of_mem hx
  obtain ⟨j, hj, rfl⟩ := List.getElem_of_mem hy
  obtain rfl := h.inj hi hj e
  rfl
theorem Right.ok {l : List Entry'} (h : Right l) {e : Entry'} (he : e ∈ l) : e.id.ok = true := ok_of_err (h.mem he)

/-- In the past of. -/
inductive Anc (l : List Entry') : Id → Id → Prop
  | link {e : Entry'} (he : e ∈ l) {y : Id} (hy : y ∈ e.links) : Anc l e.id y
  | step {e : Entry'} (he : e ∈ l) {z y : Id} (hz : z ∈ e.links) (h : Anc l z y) : Anc l e.id y
theorem Anc.trans {l : List Entry'} {x y z : Id} (h : Anc l x y) (k : Anc l y z) : Anc l x z := by
  induction h with
  | link he hy => exact .step he hy k
  | step he hz _ ih => exact .step he hz (ih k)
theorem Anc.mono {l l' : List Entry'} (hl : ∀ e ∈ l, e ∈ l') {x y : Id} (h : Anc l x y) : Anc l' x y := by
  induction h with
  | link he hy => exact .link (hl _ he) hy
  | step he hz _ ih => exact .step (hl _ he) hz ih
theorem Anc.left {l : List Entry'} {x y : Id} (h : Anc l x y) : ∃ e ∈ l, e.id = x := by
  cases h with
  | link he _ => exact ⟨_, he, rfl⟩
  | step he _ _ => exact ⟨_, he, rfl⟩
theorem Anc.right {l : List Entry'} (hr : Right l) {x y : Id} (h : Anc l x y) : ∃ e ∈ l, e.id = y := by
  induction h with
  | link he hy => exact hr.links he hy
  | step _ _ _ ih => exact ih
theorem Anc.inv {l : List Entry'} (hr : Right l) {e : Entry'} (he : e ∈ l) {y : Id} (h : Anc l e.id y) : y ∈ e.links ∨ ∃ z ∈ e.links, Anc l z y := by
  generalize hx : e.id = x at h
  cases h with
  | link he' hy =>
    obtain rfl := hr.ent he he' hx
    exact .inl hy
  | step he' hz h =>
    obtain rfl := hr.ent he he' hx
    exact .inr ⟨_, hz, h⟩
/-- What is past stands ahead. -/
theorem Anc.ahead {l : List Entry'} (hr : Right l) {x y : Id} (h : Anc l x y) : ∀ i (hi : i < l.length), l[i].id = x → ∃ j, ∃ hj : j < l.length, j < i ∧ l[j].id = y ∧ Anc (l.take (i + 1)) x y := by
  have one : ∀ {e : Entry'} (he : e ∈ l) {y : Id} (hy : y ∈ e.links) i (hi : i < l.length), l[i].id = e.id → l[i] = e ∧ ∃ j, ∃ hj : j < l.length, j < i ∧ l[j].id = y := fun {e} he {y} hy i hi hx => by
    have hie : l[i] = e := hr.ent (List.getElem_mem hi) he hx
    subst hie
    obtain ⟨x, hx1, hx2⟩ := (hr.get hi).links y hy
    rw [List.mem_take_iff_getElem] at hx1
    obtain ⟨j, hj, rfl⟩ := hx1
    exact ⟨rfl, j, by omega, by omega, hx2⟩
  induction h with
  | link he hy =>
    intro i hi hx
    obtain ⟨h1, j, hj, h2, h3⟩ := one he hy i hi hx
    refine ⟨j, hj, h2, h3, ?_⟩
    subst h1
    exact .link (List.mem_take_iff_getElem.2 ⟨i, by omega, rfl⟩) hy
  | step he hz _ ih =>
    intro i hi hx
    obtain ⟨h1, j, hj, h2, h3⟩ := one he hz i hi hx
    obtain ⟨k, hk, k1, k2, k3⟩ := ih j hj h3
    refine ⟨k, hk, by omega, k2, ?_⟩
    subst h1
    exact .step (List.mem_take_iff_getElem.2 ⟨i, by omega, rfl⟩) hz (k3.mono fun e he => (List.take_subset_take_left l (by omega)) he)
theorem Anc.irrefl {l : List Entry'} (hr : Right l) {x : Id} (h : Anc l x x) : False := by
  obtain ⟨e, he, rfl⟩ := h.left
  obtain ⟨i, hi, rfl⟩ := List.getElem_of_mem he
  obtain ⟨j, hj, h1, h2, _⟩ := h.ahead hr i hi rfl
  have := hr.inj hj hi h2
  omega

/-- Ids, each once. -/
def joinIds (ids more : List Id) : List Id := more.foldl (fun acc x => if acc.any (isId2 x) then acc else acc ++ [x]) ids
theorem mem_joinIds : ∀ {more ids : List Id} {y : Id}, y ∈ joinIds ids more ↔ y ∈ ids ∨ y ∈ more
  | [], ids, y => by simp [joinIds]
  | x :: t, ids, y => by
    show y ∈ joinIds (if ids.any (isId2 x) then ids else ids ++ [x]) t ↔ _
    rw [mem_joinIds]
    by_cases h : ids.any (isId2 x) = true
    · rw [if_pos h]
      have := any_isId2.1 h
      simp only [List.mem_cons]
      exact ⟨fun k => k.elim .inl (fun k => .inr (.inr k)), fun k => k.elim .inl (fun k => k.elim (fun k => .inl (k ▸ this)) .inr)⟩
    · rw [if_neg h]
      simp only [List.mem_append, List.mem_cons, List.not_mem_nil, or_false, or_assoc]
theorem nodup_joinIds : ∀ {more ids : List Id}, ids.Nodup → (joinIds ids more).Nodup
  | [], ids, h => h
  | x :: t, ids, h => by
    show (joinIds (if ids.any (isId2 x) then ids else ids ++ [x]) t).Nodup
    refine nodup_joinIds ?_
    by_cases k : ids.any (isId2 x) = true
    · rw [if_pos k]; exact h
    · rw [if_neg k]
      rw [List.nodup_append]
      exact ⟨h, by simp, fun a ha b hb e => k (any_isId2.2 (by simp at hb; rw [← hb, ← e]; exact ha))⟩
/-- What the program gathers, from the end on. -/
def pastFold (p : Entry' → Bool) : List Entry' → List Id
  | [] => []
  | e :: t => if p e || (pastFold p t).any (isId2 e.id) then joinIds (pastFold p t) e.links else pastFold p t
theorem nodup_pastFold (p : Entry' → Bool) : ∀ l, (pastFold p l).Nodup
  | [] => List.nodup_nil
  | e :: t => by
    unfold pastFold
    split
    · exact nodup_joinIds (nodup_pastFold p t)
    · exact nodup_pastFold p t
theorem pastFold_more (p : Entry' → Bool) (b : List Entry') {y : Id} (h : y ∈ pastFold p b) : ∀ a, y ∈ pastFold p (a ++ b)
  | [] => h
  | e :: t => by
    rw [List.cons_append]
    unfold pastFold
    split
    · exact mem_joinIds.2 (.inl (pastFold_more p b h t))
    · exact pastFold_more p b h t
theorem pastFold_sound (p : Entry' → Bool) (l : List Entry') : ∀ (s : List Entry'), (∀ e ∈ s, e ∈ l) → ∀ y ∈ pastFold p s, ∃ e ∈ s, p e = true ∧ Anc l e.id y
  | [], _, y, h => by simp [pastFold] at h
  | e :: t, hs, y, h => by
    have ih := pastFold_sound p l t fun x hx => hs x (by simp [hx])
    have up : ∀ {y}, y ∈ pastFold p t → ∃ x ∈ e :: t, p x = true ∧ Anc l x.id y := fun h => by
      obtain ⟨x, h1, h2, h3⟩ := ih _ h
      exact ⟨x, by simp [h1], h2, h3⟩
    unfold pastFold at h
    split at h
    · rename_i hc
      rcases mem_joinIds.1 h with h | h
      · exact up h
      · simp only [Bool.or_eq_true] at hc
        rcases hc with hc | hc
        · exact ⟨e, by simp, hc, .link (hs e (by simp)) h⟩
        · obtain ⟨x, h1, h2, h3⟩ := up (any_isId2.1 hc)
          exact ⟨x, h1, h2, h3.trans (.link (hs e (by simp)) h)⟩
    · exact up h
theorem pastFold_full (p : Entry' → Bool) {l : List Entry'} (hr : Right l) {x y : Id} (h : Anc l x y) : ∀ a e b, l = a ++ e :: b → e.id = x → (p e = true ∨ e.id ∈ pastFold p b) → y ∈ pastFold p l := by
  have head : ∀ e b z, (p e = true ∨ e.id ∈ pastFold p b) → z ∈ e.links → z ∈ pastFold p (e :: b) := fun e b z hc hz => by
    unfold pastFold
    rw [if_pos (by simp only [Bool.or_eq_true]; exact hc.imp id any_isId2.2)]
    exact mem_joinIds.2 (.inr hz)
  induction h with
  | link he hy =>
    intro a e b hl hx hc
    have hel : e ∈ l := by rw [hl]; simp
    obtain rfl := hr.ent hel he hx
    rw [hl]
    exact pastFold_more p _ (head _ b _ hc hy) a
  | step he hz _ ih =>
    intro a e b hl hx hc
    have hel : e ∈ l := by rw [hl]; simp
    obtain rfl := hr.ent hel he hx
    obtain ⟨e', he', hid⟩ := (hr.at' a _ b hl).links _ hz
    obtain ⟨a1, a2, rfl⟩ := List.append_of_mem he'
    refine ih a1 e' (a2 ++ e :: b) (by rw [hl]; simp) hid (.inr ?_)
    rw [hid]
    exact pastFold_more p _ (head _ b _ hc hz) a2
theorem mem_pastFold (p : Entry' → Bool) {l : List Entry'} (hr : Right l) {y : Id} : y ∈ pastFold p l ↔ ∃ e ∈ l, p e = true ∧ Anc l e.id y := by
  refine ⟨pastFold_sound p l l (fun _ h => h) y, fun ⟨e, he, hp, h⟩ => ?_⟩
  obtain ⟨a, b, hl⟩ := List.append_of_mem he
  exact pastFold_full p hr h a e b hl rfl (.inl hp)
theorem mem_pastThe {l : List Entry'} (hr : Right l) {x y : Id} : y ∈ pastFold (isThe x) l ↔ Anc l x y := by
  rw [mem_pastFold _ hr]
  refine ⟨fun ⟨e, _, h1, h2⟩ => by rw [← isThe_iff.1 h1]; exact h2, fun h => ?_⟩
  obtain ⟨e, he, rfl⟩ := h.left
  exact ⟨e, he, isThe_iff.2 rfl, h⟩

/-- Rising. -/
def lessLe (x y : Id) : Bool := !(y.less x)
theorem less_iff {x y : Id} : x.less y = true ↔ x.r < y.r ∨ (x.r = y.r ∧ x.n < y.n) := by
  unfold Id.less
  split
  · rename_i h; simp [h]
  · rename_i h; simp [h]
theorem less_irrefl (x : Id) : x.less x = false := by simp [Id.less]
theorem less_trans {x y z : Id} (h : x.less y = true) (k : y.less z = true) : x.less z = true := by
  rw [less_iff] at *; omega
theorem less_total {x y : Id} (h : x.less y = false) (k : y.less x = false) : x = y := by
  have h1 : ¬ x.less y = true := by simp [h]
  have h2 : ¬ y.less x = true := by simp [k]
  rw [less_iff] at h1 h2
  exact Id.ext' (by omega) (by omega)
theorem less_asymm {x y : Id} (h : x.less y = true) : y.less x = false := by
  rw [Bool.eq_false_iff]
  intro k
  rw [less_iff] at *; omega
theorem sorted_ext : ∀ {a b : List Id}, a.Pairwise (fun x y => x.less y = true) → b.Pairwise (fun x y => x.less y = true) → (∀ x, x ∈ a ↔ x ∈ b) → a = b
  | [], [], _, _, _ => rfl
  | [], y :: u, _, _, h => by have := (h y).2 (by simp); simp at this
  | x :: t, [], _, _, h => by have := (h x).1 (by simp); simp at this
  | x :: t, y :: u, ha, hb, h => by
    rw [List.pairwise_cons] at ha hb
    have hxy : x = y := by
      have h1 := (h x).1 (by simp)
      have h2 := (h y).2 (by simp)
      rcases List.mem_cons.1 h1 with h1 | h1
      · exact h1
      · rcases List.mem_cons.1 h2 with h2 | h2
        · exact h2.symm
        · have k1 := hb.1 x h1
          have k2 := ha.1 y h2
          rw [less_asymm k1] at k2
          cases k2
    subst hxy
    rw [sorted_ext ha.2 hb.2 fun z => ?_]
    refine ⟨fun hz => ?_, fun hz => ?_⟩
    · rcases List.mem_cons.1 ((h z).1 (by simp [hz])) with k | k
      · subst k; have := ha.1 z hz; rw [less_irrefl] at this; cases this
      · exact k
    · rcases List.mem_cons.1 ((h z).2 (by simp [hz])) with k | k
      · subst k; have := hb.1 z hz; rw [less_irrefl] at this; cases this
      · exact k
def insId (x : Id) : List Id → List Id
  | [] => [x]
  | y :: t => if y.less x = true then y :: insId x t else x :: y :: t
def sortIds (l : List Id) : List Id := l.foldr insId []
theorem insId_perm (x : Id) : ∀ l, List.Perm (insId x l) (x :: l)
  | [] => .refl _
  | y :: t => by
    unfold insId
    split
    · exact ((insId_perm x t).cons y).trans (List.Perm.swap x y t)
    · exact .refl _
theorem sortIds_perm : ∀ l, List.Perm (sortIds l) l
  | [] => .refl _
  | x :: t => (insId_perm x (sortIds t)).trans ((sortIds_perm t).cons x)
theorem lessLe_iff {x y : Id} : lessLe x y = true ↔ ¬ y.less x = true := by simp [lessLe]
theorem insId_sorted (x : Id) : ∀ l : List Id, l.Pairwise (fun x y => lessLe x y = true) → (insId x l).Pairwise (fun x y => lessLe x y = true)
  | [], _ => by simp [insId]
  | y :: t, h => by
    rw [List.pairwise_cons] at h
    unfold insId
    split
    · rename_i hyx
      rw [List.pairwise_cons]
      refine ⟨fun z hz => ?_, insId_sorted x t h.2⟩
      rcases List.mem_cons.1 ((insId_perm x t).mem_iff.1 hz) with rfl | hz
      · rw [lessLe_iff, less_asymm hyx]; simp
      · exact h.1 z hz
    · rename_i hyx
      rw [List.pairwise_cons]
      refine ⟨fun z hz => ?_, List.pairwise_cons.2 h⟩
      rcases List.mem_cons.1 hz with rfl | hz
      · exact lessLe_iff.2 hyx
      · have := h.1 z hz
        rw [lessLe_iff, less_iff] at *
        omega
theorem sortIds_pairwise : ∀ l, (sortIds l).Pairwise (fun x y => lessLe x y = true)
  | [] => .nil
  | x :: t => insId_sorted x _ (sortIds_pairwise t)
theorem mergeSort_eq (l : List Id) : l.mergeSort lessLe = sortIds l := by
  refine List.Perm.eq_of_pairwise (le := fun x y => lessLe x y = true) (fun a b _ _ h1 h2 => ?_) (List.pairwise_mergeSort (fun a b c h k => ?_) (fun a b => ?_) l) (sortIds_pairwise l) ((List.mergeSort_perm l lessLe).trans (sortIds_perm l).symm)
  · rw [lessLe_iff, Bool.not_eq_true] at *
    exact less_total h2 h1
  · rw [lessLe_iff, less_iff] at *
    omega
  · rw [Bool.or_eq_true, lessLe_iff, lessLe_iff, less_iff, less_iff]
    omega
theorem mem_sortIds {l : List Id} {x : Id} : x ∈ sortIds l ↔ x ∈ l := (sortIds_perm l).mem_iff
theorem sortIds_sorted {l : List Id} (hn : l.Nodup) : (sortIds l).Pairwise (fun x y => x.less y = true) := by
  refine ((sortIds_pairwise l).and ((sortIds_perm l).nodup_iff.2 hn)).imp fun {x y} ⟨k1, k2⟩ => ?_
  cases h : x.less y
  · rw [lessLe_iff, Bool.not_eq_true] at k1
    exact absurd (less_total h k1) k2
  · rfl
theorem sortIds_len (l : List Id) : (sortIds l).length = l.length := (sortIds_perm l).length_eq
end Go.Proofs.YtlioojekjnigiafGreat.AM
/- Plain: pasts and heads as the document reckons them, and as the program does. -/
namespace Go.Proofs.YtlioojekjnigiafGreat.AM
set_option linter.unusedVariables false
set_option linter.unusedSimpArgs false

def idx (l : List Entry') (x : Id) : Option Nat := isIdx (isThe x) l 0
theorem isIdx_some {α : Type} {p : α → Bool} : ∀ {l : List α} {i j : Nat}, isIdx p l i = some j → ∃ k, j = i + k ∧ ∃ h : k < l.length, p l[k] = true
  | [], i, j, h => by simp [isIdx] at h
  | a :: t, i, j, h => by
    unfold isIdx at h
    split at h
    · rename_i hp
      obtain rfl : i = j := by simpa using h
      exact ⟨0, rfl, by simp, hp⟩
    · obtain ⟨k, h1, h2, h3⟩ := isIdx_some h
      exact ⟨k + 1, by omega, by simp; omega, by simpa using h3⟩
theorem isIdx_none {α : Type} {p : α → Bool} : ∀ {l : List α} {i : Nat}, isIdx p l i = none ↔ ∀ a ∈ l, p a = false
  | [], i => by simp [isIdx]
  | a :: t, i => by
    unfold isIdx
    by_cases h : p a = true
    · simp [h]
    · simp [h, isIdx_none (l := t)]
theorem idx_some {l : List Entry'} {x : Id} {j : Nat} (h : idx l x = some j) : ∃ hj : j < l.length, l[j].id = x := by
  obtain ⟨k, h1, h2, h3⟩ := isIdx_some h
  rw [Nat.zero_add] at h1
  subst h1
  exact ⟨h2, isThe_iff.1 h3⟩
theorem idx_none {l : List Entry'} {x : Id} : idx l x = none ↔ ∀ e ∈ l, e.id ≠ x := by
  unfold idx
  rw [isIdx_none]
  exact ⟨fun h e he hx => (by have := h e he; rw [isThe_iff.2 hx] at this; cases this), fun h e he => by rw [Bool.eq_false_iff]; exact fun k => h e he (isThe_iff.1 k)⟩
theorem idx_of {l : List Entry'} (hr : Right l) {j : Nat} (hj : j < l.length) : idx l l[j].id = some j := by
  cases h : idx l l[j].id with
  | none => exact absurd rfl (idx_none.1 h _ (List.getElem_mem hj))
  | some k =>
    obtain ⟨hk, h1⟩ := idx_some h
    rw [hr.inj hk hj h1]
theorem entryAt_eq (l : List Entry') (x : Id) : entryAt l x = idxOf (idx l x) := rfl
theorem idxOf_nonneg {o : Option Nat} : 0 ≤ idxOf o ↔ o.isSome = true := by cases o <;> simp [idxOf]

def tick (l : List Entry') (bs : List Bool) (y : Id) : List Bool := match idx l y with
  | some j => bs.set j true
  | none => bs
def setLinks (l : List Entry') (bs : List Bool) (ys : List Id) : List Bool := ys.foldl (tick l) bs
/-- A place that is told. -/
def isIn (bs : List Bool) (j : Nat) : Bool := bs[j]?.getD false
theorem isIn_set {bs : List Bool} {j k : Nat} (hj : j < bs.length) : isIn (bs.set j true) k = true ↔ k = j ∨ isIn bs k = true := by
  unfold isIn
  by_cases h : j = k
  · subst h; simp [hj]
  · rw [List.getElem?_set_ne h]
    exact ⟨.inr, fun k => k.elim (fun e => absurd e.symm h) id⟩
theorem setLinks_length (l : List Entry') : ∀ (ys : List Id) (bs : List Bool), (setLinks l bs ys).length = bs.length
  | [], bs => rfl
  | y :: t, bs => by
    show (setLinks l (tick l bs y) t).length = _
    rw [setLinks_length l t]
    unfold tick
    split <;> simp
theorem isIn_setLinks (l : List Entry') : ∀ (ys : List Id) (bs : List Bool) (k : Nat), bs.length = l.length → (isIn (setLinks l bs ys) k = true ↔ isIn bs k = true ∨ ∃ y ∈ ys, idx l y = some k)
  | [], bs, k, _ => by simp [setLinks]
  | y :: t, bs, k, hb => by
    show isIn (setLinks l (tick l bs y) t) k = true ↔ _
    have hl : (tick l bs y).length = l.length := by unfold tick; split <;> simp [hb]
    rw [isIn_setLinks l t _ k hl]
    unfold tick
    cases h : idx l y with
    | none => simp [h]
    | some j =>
      obtain ⟨hj, _⟩ := idx_some h
      rw [isIn_set (by omega)]
      simp only [List.mem_cons, exists_eq_or_imp, h, Option.some.injEq]
      exact ⟨fun k => k.elim (fun k => k.elim (fun e => .inr (.inl e.symm)) .inl) (fun k => .inr (.inr k)), fun k => k.elim (fun k => .inl (.inr k)) (fun k => k.elim (fun e => .inl (.inl e.symm)) .inr)⟩
def pastB (l : List Entry') (at' : Nat) : Nat → List Bool
  | 0 => List.replicate l.length false
  | k + 1 => match l[at' - k]? with
    | none => pastB l at' k
    | some e => if (decide (at' - k = at') || isIn (pastB l at' k) (at' - k)) = true then setLinks l (pastB l at' k) e.links else pastB l at' k
def pastBs (l : List Entry') (at' : Nat) : List Bool := pastB l at' (at' + 1)
theorem pastB_length (l : List Entry') (at' : Nat) : ∀ k, (pastB l at' k).length = l.length
  | 0 => by simp [pastB]
  | k + 1 => by
    unfold pastB
    split
    · exact pastB_length l at' k
    · split
      · rw [setLinks_length]; exact pastB_length l at' k
      · exact pastB_length l at' k
theorem pastB_more {l : List Entry'} {at' j : Nat} : ∀ {k m : Nat}, k ≤ m → isIn (pastB l at' k) j = true → isIn (pastB l at' m) j = true
  | k, 0, h, hj => by obtain rfl : k = 0 := by omega
                      exact hj
  | k, m + 1, h, hj => by
    by_cases hk : k = m + 1
    · subst hk; exact hj
    · have ih := pastB_more (m := m) (by omega) hj
      unfold pastB
      split
      · exact ih
      · split
        · exact (isIn_setLinks l _ _ j (pastB_length l at' m)).2 (.inl ih)
        · exact ih
theorem pastB_sound {l : List Entry'} (hr : Right l) {at' : Nat} (hat : at' < l.length) : ∀ (k j : Nat) (hj : j < l.length), k ≤ at' + 1 → isIn (pastB l at' k) j = true → Anc l l[at'].id l[j].id
  | 0, j, hj, _, h => by simp [pastB, isIn, hj] at h
  | k + 1, j, hj, hk, h => by
    unfold pastB at h
    rw [List.getElem?_eq_getElem (by omega)] at h
    simp only at h
    split at h
    · rename_i hc
      rcases (isIn_setLinks l _ _ j (pastB_length l at' k)).1 h with h | ⟨y, hy, h⟩
      · exact pastB_sound hr hat k j hj (by omega) h
      · obtain ⟨_, rfl⟩ := idx_some h
        simp only [Bool.or_eq_true, decide_eq_true_eq] at hc
        rcases hc with hc | hc
        · refine .link (List.getElem_mem hat) ?_
          simpa only [hc] using hy
        · exact (pastB_sound hr hat k (at' - k) (by omega) (by omega) hc).trans (.link (List.getElem_mem _) hy)
    · exact pastB_sound hr hat k j hj (by omega) h
theorem pastB_full {l : List Entry'} (hr : Right l) {at' : Nat} (hat : at' < l.length) {x y : Id} (h : Anc l x y) : ∀ i (hi : i < l.length), i ≤ at' → l[i].id = x → (i = at' ∨ isIn (pastB l at' (at' - i)) i = true) → ∀ j (hj : j < l.length), l[j].id = y → isIn (pastBs l at') j = true := by
  have one : ∀ {e : Entry'} (he : e ∈ l) {z : Id} (hz : z ∈ e.links) i (hi : i < l.length), i ≤ at' → l[i].id = e.id → (i = at' ∨ isIn (pastB l at' (at' - i)) i = true) → ∀ j (hj : j < l.length), l[j].id = z → isIn (pastB l at' (at' - i + 1)) j = true ∧ j < i := fun {e} he {z} hz i hi hia hx hc j hj hz' => by
    have hie : l[i] = e := hr.ent (List.getElem_mem hi) he hx
    subst hie
    refine ⟨?_, ?_⟩
    · unfold pastB
      rw [show at' - (at' - i) = i by omega, List.getElem?_eq_getElem hi]
      simp only
      rw [if_pos (by simp only [Bool.or_eq_true, decide_eq_true_eq]; exact hc)]
      refine (isIn_setLinks l _ _ j (pastB_length l at' _)).2 (.inr ⟨z, hz, ?_⟩)
      rw [← hz']; exact idx_of hr hj
    · obtain ⟨w, hw, hwz⟩ := (hr.get hi).links z hz
      rw [List.mem_take_iff_getElem] at hw
      obtain ⟨k, hk, rfl⟩ := hw
      have := hr.inj (by omega) hj (hwz.trans hz'.symm)
      omega
  induction h with
  | link he hy =>
    intro i hi hia hx hc j hj hy'
    exact pastB_more (by omega) (one he hy i hi hia hx hc j hj hy').1
  | step he hz _ ih =>
    intro i hi hia hx hc j hj hy'
    obtain ⟨e', he', hid⟩ := hr.links he hz
    obtain ⟨k, hk, rfl⟩ := List.getElem_of_mem he'
    obtain ⟨h1, h2⟩ := one he hz i hi hia hx hc k hk hid
    exact ih k hk (by omega) hid (.inr (pastB_more (by omega) h1)) j hj hy'
theorem pastBs_iff {l : List Entry'} (hr : Right l) {at' j : Nat} (hat : at' < l.length) (hj : j < l.length) : isIn (pastBs l at') j = true ↔ Anc l l[at'].id l[j].id :=
  ⟨pastB_sound hr hat _ j hj (Nat.le_refl _), fun h => pastB_full hr hat h at' hat (Nat.le_refl _) rfl (.inl rfl) j hj rfl⟩

def allIds : List Id := (List.range 20).map (fun i => ⟨0, ((i + 1 : Nat) : Int)⟩) ++ (List.range 20).map (fun i => ⟨1, ((i + 1 : Nat) : Int)⟩)
theorem allIds_length : allIds.length = 40 := by simp [allIds]
theorem mem_allIds {x : Id} : x ∈ allIds ↔ x.ok = true := by
  unfold allIds Id.ok
  simp only [List.mem_append, List.mem_map, List.mem_range, Bool.and_eq_true, decide_eq_true_eq]
  refine ⟨fun h => ?_, fun h => ?_⟩
  · rcases h with ⟨i, hi, rfl⟩ | ⟨i, hi, rfl⟩ <;> simp <;> omega
  · obtain ⟨⟨h1, h2⟩, h3, h4⟩ := h
    by_cases h0 : x.r = 0
    · exact .inl ⟨(x.n - 1).toNat, by omega, Id.ext' h0.symm (by simp only; omega)⟩
    · exact .inr ⟨(x.n - 1).toNat, by omega, Id.ext' (by simp only; omega) (by simp only; omega)⟩
theorem allIds_get {r k : Nat} (hr : r < 2) (hk : k < 20) : allIds[20 * r + k]? = some ⟨r, ((k + 1 : Nat) : Int)⟩ := by
  unfold allIds
  rcases (by omega : r = 0 ∨ r = 1) with rfl | rfl
  · rw [List.getElem?_append_left (by simp; omega)]
    simp [hk]
  · rw [List.getElem?_append_right (by simp)]
    simp [hk]
theorem allIds_sorted : allIds.Pairwise (fun x y => x.less y = true) := by
  unfold allIds
  rw [List.pairwise_append]
  refine ⟨?_, ?_, ?_⟩
  · rw [List.pairwise_map]
    refine List.pairwise_lt_range.imp fun {a b} h => ?_
    rw [less_iff]; simp; omega
  · rw [List.pairwise_map]
    refine List.pairwise_lt_range.imp fun {a b} h => ?_
    rw [less_iff]; simp; omega
  · intro x hx y hy
    simp only [List.mem_map, List.mem_range] at hx hy
    obtain ⟨i, _, rfl⟩ := hx
    obtain ⟨j, _, rfl⟩ := hy
    rw [less_iff]; simp
def inAt (l : List Entry') (bs : List Bool) (x : Id) : Bool := match idx l x with
  | some i => isIn bs i
  | none => false
def rising (l : List Entry') (bs : List Bool) : List Id := allIds.filter (inAt l bs)
theorem rising_sorted (l : List Entry') (bs : List Bool) : (rising l bs).Pairwise (fun x y => x.less y = true) := allIds_sorted.filter _
theorem mem_rising {l : List Entry'} (hr : Right l) {bs : List Bool} {x : Id} : x ∈ rising l bs ↔ ∃ j, ∃ hj : j < l.length, l[j].id = x ∧ isIn bs j = true := by
  unfold rising
  rw [List.mem_filter, mem_allIds]
  unfold inAt
  refine ⟨fun ⟨_, h⟩ => ?_, fun ⟨j, hj, h1, h2⟩ => ?_⟩
  · split at h
    · rename_i j hj
      obtain ⟨h1, h2⟩ := idx_some hj
      exact ⟨j, h1, h2, h⟩
    · cases h
  · subst h1
    refine ⟨hr.ok (List.getElem_mem hj), ?_⟩
    rw [idx_of hr hj]
    exact h2
theorem rising_eq {l : List Entry'} (hr : Right l) {bs : List Bool} {ids : List Id} (hn : ids.Nodup) (h : ∀ x, (∃ j, ∃ hj : j < l.length, l[j].id = x ∧ isIn bs j = true) ↔ x ∈ ids) : rising l bs = sortIds ids :=
  sorted_ext (rising_sorted l bs) (sortIds_sorted hn) fun x => by rw [mem_rising hr, mem_sortIds, h]
/-- The past of an entry, rising. -/
def pastOfId (l : List Entry') (x : Id) : List Id := sortIds (pastFold (isThe x) l)
theorem mem_pastOfId {l : List Entry'} (hr : Right l) {x y : Id} : y ∈ pastOfId l x ↔ Anc l x y := by
  unfold pastOfId
  rw [mem_sortIds, mem_pastThe hr]
theorem pastOfId_sorted (l : List Entry') (x : Id) : (pastOfId l x).Pairwise (fun x y => x.less y = true) := sortIds_sorted (nodup_pastFold _ _)
theorem rising_past {l : List Entry'} (hr : Right l) {i : Nat} (hi : i < l.length) : rising l (pastBs l i) = pastOfId l l[i].id :=
  rising_eq hr (nodup_pastFold _ _) fun x => by
    rw [mem_pastThe hr]
    refine ⟨fun ⟨j, hj, h1, h2⟩ => by subst h1; exact (pastBs_iff hr hi hj).1 h2, fun h => ?_⟩
    obtain ⟨e, he, rfl⟩ := h.right hr
    obtain ⟨j, hj, rfl⟩ := List.getElem_of_mem he
    exact ⟨j, hj, rfl, (pastBs_iff hr hi hj).2 h⟩

/-- Colors: have they one in common? As the document says it, and as the program reckons it. -/
def isOf (c : Int) (i : Nat) : Bool := (IntKind.i64.wrap (c.tdiv (2 ^ i))).tmod 2 == 1
def meets (a b : Int) : Bool := (isOf a 0 && isOf b 0) || ((isOf a 1 && isOf b 1) || (isOf a 2 && isOf b 2))
def bothOf (a b : Int) : Bool := IntKind.i64.wrap (BitVec.ofInt 64 a &&& BitVec.ofInt 64 b).toNat != 0
theorem meets_bothOf {a b : Int} (ha : 1 ≤ a ∧ a ≤ 7) (hb : 1 ≤ b ∧ b ≤ 7) : bothOf a b = meets a b := by
  have key : ∀ m < 8, ∀ n < 8, bothOf (m : Nat) (n : Nat) = meets (m : Nat) (n : Nat) := by decide
  have := key a.toNat (by omega) b.toNat (by omega)
  rwa [Int.toNat_of_nonneg (by omega), Int.toNat_of_nonneg (by omega)] at this
theorem Right.colors {l : List Entry'} (hr : Right l) {e : Entry'} (he : e ∈ l) : 1 ≤ e.colors ∧ e.colors ≤ 7 := by
  have := hr.mem he
  unfold Entry'.err at this
  split at this
  · simp at this
  · rename_i h
    simp only [not_or, Int.not_lt] at h
    exact h.2
theorem six_of {e : Entry'} (h : e.err = 0) : e.text.size ≤ 12 ∧ e.links.length ≤ 6 := by
  unfold Entry'.err at h
  split at h
  · simp at h
  · split at h
    · simp at h
    · rename_i h2
      simp only [not_or, Nat.not_lt] at h2
      exact h2
theorem Right.six {l : List Entry'} (hr : Right l) {e : Entry'} (he : e ∈ l) : e.links.length ≤ 6 := (six_of (hr.mem he)).2
theorem Right.logOk {l : List Entry'} (hr : Right l) : LogOk l := ⟨by have := hr.len; omega, fun e he => by have := hr.six he; omega⟩
/-- Heads, as the document reckons them. -/
def headB (l : List Entry') (c : Int) : Nat → List Bool
  | 0 => l.map fun e => meets e.colors c
  | k + 1 => match l[k]? with
    | none => headB l c k
    | some e => if meets e.colors c = true then List.zipWith (fun a b => a && !b) (headB l c k) (pastBs l k) else headB l c k
theorem headB_length (l : List Entry') (c : Int) : ∀ k, (headB l c k).length = l.length
  | 0 => by simp [headB]
  | k + 1 => by
    unfold headB
    split
    · exact headB_length l c k
    · split
      · simp [headB_length l c k, pastBs, pastB_length]
      · exact headB_length l c k
theorem isIn_headB (l : List Entry') (c : Int) (j : Nat) (hj : j < l.length) : ∀ k, k ≤ l.length → (isIn (headB l c k) j = true ↔ meets l[j].colors c = true ∧ ∀ i (hi : i < l.length), i < k → meets l[i].colors c = true → isIn (pastBs l i) j = false)
  | 0, _ => by
    simp [headB, isIn, hj]
  | k + 1, hk => by
    have ih := isIn_headB l c j hj k (by omega)
    have hkl : k < l.length := by omega
    unfold headB
    rw [List.getElem?_eq_getElem hkl]
    simp only
    split
    · rename_i hc
      have h1 : j < (headB l c k).length := by rw [headB_length]; exact hj
      have h2 : j < (pastBs l k).length := by rw [pastBs, pastB_length]; exact hj
      have : isIn (List.zipWith (fun a b => a && !b) (headB l c k) (pastBs l k)) j = (isIn (headB l c k) j && !isIn (pastBs l k) j) := by
        simp only [isIn]
        rw [List.getElem?_zipWith, List.getElem?_eq_getElem h1, List.getElem?_eq_getElem h2]
        rfl
      rw [this, Bool.and_eq_true, ih]
      refine ⟨fun ⟨⟨a, b⟩, d⟩ => ⟨a, fun i hi hik hm => ?_⟩, fun ⟨a, b⟩ => ⟨⟨a, fun i hi hik hm => b i hi (by omega) hm⟩, by simpa using b k hkl (by omega) hc⟩⟩
      by_cases h : i = k
      · subst h; simpa using d
      · exact b i hi (by omega) hm
    · rename_i hc
      rw [ih]
      refine ⟨fun ⟨a, b⟩ => ⟨a, fun i hi hik hm => ?_⟩, fun ⟨a, b⟩ => ⟨a, fun i hi hik hm => b i hi (by omega) hm⟩⟩
      by_cases h : i = k
      · subst h; exact absurd hm hc
      · exact b i hi (by omega) hm
/-- Heads, as the program reckons them. -/
def headIds (p : Entry' → Bool) (l : List Entry') : List Id := (l.filter fun e => p e && !(pastFold p l).any (isId2 e.id)).map (·.id)
def headsOf (c : Int) (l : List Entry') : List Id := sortIds (headIds (fun e => bothOf e.colors c) l)
theorem nodup_ids {l : List Entry'} (hr : Right l) : (l.map (·.id)).Nodup := by
  unfold List.Nodup
  rw [List.pairwise_iff_getElem]
  intro i j hi hj hij h
  simp only [List.getElem_map] at h
  have := hr.inj (by simpa using hi) (by simpa using hj) h
  omega
theorem nodup_headIds (p : Entry' → Bool) {l : List Entry'} (hr : Right l) : (headIds p l).Nodup :=
  (nodup_ids hr).sublist (List.filter_sublist.map _)
theorem mem_headIds (p : Entry' → Bool) {l : List Entry'} (hr : Right l) {x : Id} : x ∈ headIds p l ↔ ∃ e ∈ l, e.id = x ∧ p e = true ∧ ∀ f ∈ l, p f = true → ¬ Anc l f.id x := by
  unfold headIds
  simp only [List.mem_map, List.mem_filter, Bool.and_eq_true, Bool.not_eq_true']
  refine ⟨fun ⟨e, ⟨h1, h2, h3⟩, h4⟩ => ⟨e, h1, h4, h2, fun f hf hp ha => ?_⟩, fun ⟨e, h1, h2, h3, h4⟩ => ⟨e, ⟨h1, h3, ?_⟩, h2⟩⟩
  · subst h4
    have := any_isId2.2 ((mem_pastFold p hr).2 ⟨f, hf, hp, ha⟩)
    rw [h3] at this; cases this
  · rw [Bool.eq_false_iff]
    intro k
    obtain ⟨f, hf, hp, ha⟩ := (mem_pastFold p hr).1 (any_isId2.1 k)
    rw [h2] at ha
    exact h4 f hf hp ha
theorem rising_heads {l : List Entry'} (hr : Right l) {c : Int} (hc : 1 ≤ c ∧ c ≤ 7) : rising l (headB l c l.length) = headsOf c l :=
  rising_eq hr (nodup_headIds _ hr) fun x => by
    rw [mem_headIds _ hr]
    refine ⟨fun ⟨j, hj, h1, h2⟩ => ?_, fun ⟨e, he, h1, h2, h3⟩ => ?_⟩
    · subst h1
      obtain ⟨k1, k2⟩ := (isIn_headB l c j hj _ (Nat.le_refl _)).1 h2
      refine ⟨l[j], List.getElem_mem hj, rfl, by rw [meets_bothOf (hr.colors (List.getElem_mem hj)) hc]; exact k1, fun f hf hp ha => ?_⟩
      obtain ⟨i, hi, rfl⟩ := List.getElem_of_mem hf
      rw [meets_bothOf (hr.colors hf) hc] at hp
      have := k2 i hi hi hp
      rw [(pastBs_iff hr hi hj).2 ha] at this
      cases this
    · subst h1
      obtain ⟨j, hj, rfl⟩ := List.getElem_of_mem he
      refine ⟨j, hj, rfl, (isIn_headB l c j hj _ (Nat.le_refl _)).2 ⟨by rw [← meets_bothOf (hr.colors he) hc]; exact h2, fun i hi _ hm => ?_⟩⟩
      rw [Bool.eq_false_iff]
      intro k
      exact h3 _ (List.getElem_mem hi) (by rw [meets_bothOf (hr.colors (List.getElem_mem hi)) hc]; exact hm) ((pastBs_iff hr hi hj).1 k)
end Go.Proofs.YtlioojekjnigiafGreat.AM
/- Plain: orders. -/
namespace Go.Proofs.YtlioojekjnigiafGreat.AM
set_option linter.unusedVariables false
set_option linter.unusedSimpArgs false

theorem hasId_append {a b : List Id} {x : Id} : hasId (a ++ b) x = (hasId a x || hasId b x) := by simp [hasId]
theorem Right.idx_mem {l : List Entry'} {x : Id} : (∃ e ∈ l, e.id = x) ↔ ∃ j, ∃ hj : j < l.length, l[j].id = x :=
  ⟨fun ⟨e, he, h⟩ => by obtain ⟨j, hj, rfl⟩ := List.getElem_of_mem he; exact ⟨j, hj, h⟩, fun ⟨j, hj, h⟩ => ⟨_, List.getElem_mem hj, h⟩⟩
/-- Is it there, and has it one of some colors? -/
def colored (l : List Entry') (c : Int) (x : Id) : Bool := l.any fun e => isThe x e && meets e.colors c
theorem colored_iff {l : List Entry'} {c : Int} {x : Id} : colored l c x = true ↔ ∃ e ∈ l, e.id = x ∧ meets e.colors c = true := by
  unfold colored
  rw [List.any_eq_true]
  constructor
  · rintro ⟨e, he, h⟩
    rw [Bool.and_eq_true] at h
    exact ⟨e, he, isThe_iff.1 h.1, h.2⟩
  · rintro ⟨e, he, h1, h2⟩
    exact ⟨e, he, by rw [isThe_iff.2 h1, h2]; rfl⟩
def colIds (l : List Entry') (c : Int) : List Id := allIds.filter (colored l c)
theorem mem_colIds {l : List Entry'} (hr : Right l) {c : Int} {x : Id} : x ∈ colIds l c ↔ colored l c x = true := by
  unfold colIds
  rw [List.mem_filter, mem_allIds]
  refine ⟨fun h => h.2, fun h => ⟨?_, h⟩⟩
  obtain ⟨e, he, rfl, _⟩ := colored_iff.1 h
  exact hr.ok he
theorem sorted_nodup {l : List Id} (h : l.Pairwise (fun x y => x.less y = true)) : l.Nodup := h.imp fun {a b} h e => by subst e; rw [less_irrefl] at h; cases h
theorem nodup_colIds (l : List Entry') (c : Int) : (colIds l c).Nodup := sorted_nodup (allIds_sorted.filter _)
/-- What is in the past of one, and has one of some colors. -/
def needs (l : List Entry') (c : Int) (x : Id) : List Id := (pastOfId l x).filter (colored l c)
theorem mem_needs {l : List Entry'} (hr : Right l) {c : Int} {x y : Id} : y ∈ needs l c x ↔ Anc l x y ∧ colored l c y = true := by
  unfold needs
  rw [List.mem_filter, mem_pastOfId hr]
def mayP (l : List Entry') (c : Int) (out : List Id) (x : Id) : Bool := !hasId out x && (needs l c x).all (hasId out)
theorem mayP_iff {l : List Entry'} (hr : Right l) {c : Int} {out : List Id} {x : Id} : mayP l c out x = true ↔ x ∉ out ∧ ∀ y, Anc l x y → colored l c y = true → y ∈ out := by
  unfold mayP
  rw [Bool.and_eq_true, List.all_eq_true, Bool.not_eq_true']
  refine ⟨fun ⟨h1, h2⟩ => ⟨fun h => (by rw [hasId_iff.2 h] at h1; cases h1), fun y ha hc => hasId_iff.1 (h2 y ((mem_needs hr).2 ⟨ha, hc⟩))⟩, fun ⟨h1, h2⟩ => ⟨?_, fun y hy => ?_⟩⟩
  · rw [Bool.eq_false_iff]; exact fun h => h1 (hasId_iff.1 h)
  · obtain ⟨ha, hc⟩ := (mem_needs hr).1 hy
    exact hasId_iff.2 (h2 y ha hc)
/-- Who is next. -/
def nextOf (l : List Entry') (c : Int) (out : List Id) : Option Id := (colIds l c).find? (mayP l c out)
def moreN (l : List Entry') (c : Int) : Nat → List Id → List Id
  | 0, out => out
  | n + 1, out => match nextOf l c out with
    | none => out
    | some x => moreN l c n (out ++ [x])
/-- How many are not there yet. -/
def left (l : List Entry') (c : Int) (out : List Id) : Nat := ((colIds l c).filter fun x => !hasId out x).length
def moreOf (l : List Entry') (c : Int) (out : List Id) : List Id := moreN l c (left l c out) out
theorem nextOf_some {l : List Entry'} {c : Int} {out : List Id} {x : Id} (h : nextOf l c out = some x) : x ∈ colIds l c ∧ mayP l c out x = true :=
  ⟨List.mem_of_find?_eq_some h, List.find?_some h⟩
theorem left_step {l : List Entry'} {c : Int} {out : List Id} {x : Id} (hx : x ∈ colIds l c) (hn : x ∉ out) : left l c (out ++ [x]) + 1 = left l c out := by
  unfold left
  have h1 : ((colIds l c).filter fun y => !hasId (out ++ [x]) y) = ((colIds l c).filter fun y => !hasId out y).erase x := by
    rw [(((nodup_colIds l c)).sublist List.filter_sublist).erase_eq_filter, List.filter_filter]
    refine List.filter_congr fun y _ => ?_
    rw [hasId_append]
    have : hasId [x] y = (y == x) := by
      rw [Bool.eq_iff_iff, hasId_iff]
      simp
    rw [this]
    cases hasId out y <;> cases h : (y == x) <;> simp [bne, h]
  have hm : x ∈ (colIds l c).filter fun y => !hasId out y := by
    rw [List.mem_filter]
    refine ⟨hx, ?_⟩
    rw [Bool.not_eq_true', Bool.eq_false_iff]
    exact fun h => hn (hasId_iff.1 h)
  rw [h1, List.length_erase_of_mem hm]
  have := List.length_pos_of_mem hm
  omega
theorem nextOf_left {l : List Entry'} {c : Int} {out : List Id} {x : Id} (h : nextOf l c out = some x) : left l c (out ++ [x]) + 1 = left l c out := by
  obtain ⟨h1, h2⟩ := nextOf_some h
  refine left_step h1 fun k => ?_
  unfold mayP at h2
  rw [hasId_iff.2 k] at h2
  simp at h2
theorem moreOf_none {l : List Entry'} {c : Int} {out : List Id} (h : nextOf l c out = none) : moreOf l c out = out := by
  unfold moreOf
  cases left l c out with
  | zero => rfl
  | succ n => simp only [moreN, h]
theorem moreOf_some {l : List Entry'} {c : Int} {out : List Id} {x : Id} (h : nextOf l c out = some x) : moreOf l c out = moreOf l c (out ++ [x]) := by
  unfold moreOf
  rw [← nextOf_left h]
  simp only [moreN, h]
/-- What holds of what is gone on from, and goes on, holds of all. -/
theorem moreOf_ind {l : List Entry'} {c : Int} {p : List Id → Prop} (hs : ∀ out x, p out → nextOf l c out = some x → p (out ++ [x])) : ∀ out, p out → p (moreOf l c out) ∧ nextOf l c (moreOf l c out) = none := by
  intro out
  generalize hn : left l c out = n
  induction n generalizing out with
  | zero =>
    intro hp
    cases h : nextOf l c out with
    | none => rw [moreOf_none h]; exact ⟨hp, h⟩
    | some x => have := nextOf_left h; omega
  | succ n ih =>
    intro hp
    cases h : nextOf l c out with
    | none => rw [moreOf_none h]; exact ⟨hp, h⟩
    | some x =>
      rw [moreOf_some h]
      exact ih _ (by have := nextOf_left h; omega) (hs out x hp h)
theorem moreOf_prefix (l : List Entry') (c : Int) (out : List Id) : out <+: moreOf l c out :=
  (moreOf_ind (p := fun o => out <+: o) (fun o x h _ => h.trans (List.prefix_append o [x])) out (List.prefix_refl _)).1
/-- All of some colors are there where nobody is next. -/
theorem all_there {l : List Entry'} (hr : Right l) {c : Int} {out : List Id} (h : nextOf l c out = none) {x : Id} (hx : colored l c x = true) : x ∈ out := by
  have key : ∀ i (hi : i < l.length), colored l c l[i].id = true → l[i].id ∈ out := fun i => by
    induction i using Nat.strongRecOn with
    | _ i ih =>
      intro hi hx
      refine Classical.byContradiction fun hn => ?_
      unfold nextOf at h
      rw [List.find?_eq_none] at h
      refine h _ ((mem_colIds hr).2 hx) ((mayP_iff hr).2 ⟨hn, fun y ha hc => ?_⟩)
      obtain ⟨j, hj, h1, rfl, _⟩ := ha.ahead hr i hi rfl
      exact ih j h1 hj hc
  obtain ⟨e, he, h1, _⟩ := colored_iff.1 hx
  obtain ⟨i, hi, rfl⟩ := List.getElem_of_mem he
  subst h1
  exact key i hi hx

/-- Ids that can be played one by one. -/
def playOk (l : List Entry') (c : Int) : List Id → List Id → Bool
  | _, [] => true
  | out, x :: t => (colored l c x && mayP l c out x) && playOk l c (out ++ [x]) t
theorem playOk_append {l : List Entry'} {c : Int} : ∀ {a b out : List Id}, playOk l c out (a ++ b) = (playOk l c out a && playOk l c (out ++ a) b)
  | [], b, out => by simp [playOk]
  | x :: t, b, out => by
    simp only [List.cons_append, playOk, playOk_append (a := t), Bool.and_assoc, List.append_assoc, List.singleton_append, List.nil_append]
theorem playOk_more {l : List Entry'} (hr : Right l) {c : Int} {ids : List Id} (h : playOk l c [] ids = true) : playOk l c [] (moreOf l c ids) = true := by
  refine (moreOf_ind (p := fun o => playOk l c [] o = true) (fun o x h1 h2 => ?_) ids h).1
  obtain ⟨k1, k2⟩ := nextOf_some h2
  rw [playOk_append, h1]
  simp [playOk, k2, (mem_colIds hr).1 k1]
theorem playOk_take {l : List Entry'} {c : Int} {ids : List Id} (h : playOk l c [] ids = true) (n : Nat) : playOk l c [] (ids.take n) = true := by
  rw [← List.take_append_drop n ids, playOk_append, Bool.and_eq_true] at h
  exact h.1
/-- What was played: each of the colors, once, behind all of its past that has the colors. -/
theorem playOk_iff {l : List Entry'} (hr : Right l) {c : Int} : ∀ {ids : List Id}, playOk l c [] ids = true ↔ ids.Nodup ∧ ∀ a x b, ids = a ++ x :: b → colored l c x = true ∧ ∀ y, Anc l x y → colored l c y = true → y ∈ a := by
  have key : ∀ (ids out : List Id), playOk l c out ids = true ↔ (ids.Nodup ∧ ∀ x ∈ ids, x ∉ out) ∧ ∀ a x b, ids = a ++ x :: b → colored l c x = true ∧ ∀ y, Anc l x y → colored l c y = true → y ∈ out ++ a := by
    intro ids
    induction ids with
    | nil => intro out; simp [playOk]
    | cons x t ih =>
      intro out
      simp only [playOk, Bool.and_eq_true, ih, mayP_iff hr]
      constructor
      · rintro ⟨⟨h1, h2, h3⟩, ⟨h4, h5⟩, h6⟩
        refine ⟨⟨?_, ?_⟩, ?_⟩
        · rw [List.nodup_cons]
          exact ⟨fun hx => h5 x hx (by simp), h4⟩
        · intro y hy
          rcases List.mem_cons.1 hy with rfl | hy
          · exact h2
          · exact fun k => h5 y hy (by simp [k])
        · intro a y b hh
          cases a with
          | nil =>
            simp only [List.nil_append, List.cons.injEq] at hh
            obtain ⟨rfl, rfl⟩ := hh
            exact ⟨h1, by simpa using h3⟩
          | cons z a =>
            simp only [List.cons_append, List.cons.injEq] at hh
            obtain ⟨rfl, rfl⟩ := hh
            have := h6 a y b rfl
            simpa using this
      · rintro ⟨⟨h1, h2⟩, h3⟩
        rw [List.nodup_cons] at h1
        obtain ⟨k1, k2⟩ := h3 [] x t rfl
        refine ⟨⟨k1, h2 x (by simp), by simpa using k2⟩, ⟨h1.2, fun y hy hm => ?_⟩, fun a y b hh => ?_⟩
        · rcases List.mem_append.1 hm with hm | hm
          · exact h2 y (by simp [hy]) hm
          · simp only [List.mem_singleton] at hm
            subst hm
            exact h1.1 hy
        · have := h3 (x :: a) y b (by rw [hh]; rfl)
          simpa using this
  intro ids
  rw [key]
  simp
/-- Is it an order: nothing stands ahead of what is in its past. -/
def isOrder (l : List Entry') : List Id → Bool
  | [] => true
  | x :: t => t.all (fun y => !hasId (pastOfId l x) y) && isOrder l t
theorem isOrder_iff {l : List Entry'} (hr : Right l) : ∀ {ids : List Id}, isOrder l ids = true ↔ ids.Pairwise fun x y => ¬ Anc l x y
  | [] => by simp [isOrder]
  | x :: t => by
    simp only [isOrder, Bool.and_eq_true, List.pairwise_cons, isOrder_iff hr (ids := t), List.all_eq_true, Bool.not_eq_true']
    refine and_congr ⟨fun h y hy ha => ?_, fun h y hy => ?_⟩ Iff.rfl
    · have := h y hy
      rw [hasId_iff.2 ((mem_pastOfId hr).2 ha)] at this
      cases this
    · rw [Bool.eq_false_iff]
      exact fun k => h y hy ((mem_pastOfId hr).1 (hasId_iff.1 k))
/-- What the document asks of what is begun. -/
def begunOk (l : List Entry') (c : Int) (ids : List Id) : Bool := ids.all (fun x => colored l c x && (needs l c x).all (hasId ids)) && isOrder l ids
theorem begun_play {l : List Entry'} (hr : Right l) {c : Int} {ids : List Id} (hn : ids.Nodup) : begunOk l c ids = playOk l c [] ids := by
  rw [Bool.eq_iff_iff, playOk_iff hr]
  unfold begunOk
  simp only [Bool.and_eq_true, List.all_eq_true, isOrder_iff hr]
  have hneed : ∀ x, (∀ y ∈ needs l c x, hasId ids y = true) ↔ ∀ y, Anc l x y → colored l c y = true → y ∈ ids := fun x =>
    ⟨fun h y ha hc => hasId_iff.1 (h y ((mem_needs hr).2 ⟨ha, hc⟩)), fun h y hy => hasId_iff.2 (h y ((mem_needs hr).1 hy).1 ((mem_needs hr).1 hy).2)⟩
  constructor
  · rintro ⟨h1, h2⟩
    refine ⟨hn, fun a x b hh => ?_⟩
    obtain ⟨k1, k2⟩ := h1 x (by rw [hh]; simp)
    refine ⟨k1, fun y ha hc => ?_⟩
    have := (hneed x).1 k2 y ha hc
    rw [hh] at this h2
    rcases List.mem_append.1 this with h | h
    · exact h
    · rcases List.mem_cons.1 h with rfl | h
      · exact (ha.irrefl hr).elim
      · rw [List.pairwise_append] at h2
        exact absurd ha ((List.pairwise_cons.1 h2.2.1).1 y h)
  · rintro ⟨_, h⟩
    refine ⟨fun x hx => ?_, ?_⟩
    · obtain ⟨a, b, hab⟩ := List.append_of_mem hx
      obtain ⟨k1, k2⟩ := h a x b hab
      exact ⟨k1, (hneed x).2 fun y ha hc => by rw [hab]; exact List.mem_append_left _ (k2 y ha hc)⟩
    · rw [List.pairwise_iff_getElem]
      intro i j hi hj hij ha
      have hc := (h (ids.take j) ids[j] (ids.drop (j + 1)) (by rw [← List.drop_eq_getElem_cons hj, List.take_append_drop])).1
      have := (h (ids.take i) ids[i] (ids.drop (i + 1)) (by rw [← List.drop_eq_getElem_cons hi, List.take_append_drop])).2 _ ha hc
      rw [List.mem_take_iff_getElem] at this
      obtain ⟨k, hk, he⟩ := this
      unfold List.Nodup at hn
      rw [List.pairwise_iff_getElem] at hn
      exact hn k j (by omega) hj (by omega) he
/-- It goes on to the same from each of its beginnings. -/
theorem moreOf_take {l : List Entry'} {c : Int} (out : List Id) : ∀ n, out.length ≤ n → moreOf l c ((moreOf l c out).take n) = moreOf l c out := by
  generalize hn : left l c out = m
  induction m generalizing out with
  | zero =>
    intro n h
    cases hx : nextOf l c out with
    | none => rw [moreOf_none hx, List.take_of_length_le h, moreOf_none hx]
    | some x => have := nextOf_left hx; omega
  | succ m ih =>
    intro n h
    cases hx : nextOf l c out with
    | none => rw [moreOf_none hx, List.take_of_length_le h, moreOf_none hx]
    | some x =>
      by_cases hlt : n = out.length
      · subst hlt
        obtain ⟨t, ht⟩ := moreOf_prefix l c out
        rw [← ht, List.take_left, ht]
      · rw [moreOf_some hx]
        exact ih _ (by have := nextOf_left hx; omega) n (by simp; omega)
end Go.Proofs.YtlioojekjnigiafGreat.AM
/- Functions that change what they are handed: what is asked of a body makes what is told of a call. -/
namespace Go.Proofs.YtlioojekjnigiafGreat.AM
set_option linter.unusedVariables false
set_option linter.unusedSimpArgs false

/-- What one answers that changes what it is handed: fz stay from here on; the handles q alone go on, those that came in ahead of all. -/
inductive RetOwn (n : Nat) (s : St) (a : AVal) (R : AVal → Heap → Nat → Prop) : Prop
  | mk (fz q : List Nat) (x : AVal) (H' : Heap) (hz : (nodup fz && fz.all fun h => (s.H.get h).live) = true) (ha : Fit (over (fz.map fun h => (h, (s.H.get h).freeze)) s.H.get) (x.ren (ren1 q 0)) a) (hH : heapFits (over (fz.map fun h => (h, (s.H.get h).freeze)) s.H.get) (ren1 q 0) H') (hq : (nodup q && keepOk n 0 q) = true) (hb : (x.hb q.length && heapHb q.length H') = true) (hR : R x H' q.length) : RetOwn n s a R
def ownF (tab : Tab) (rs : List ResultVar) (n : Nat) (R : AVal → Heap → Nat → Prop) (e : X) (env : Env) (next : Nat) (H : Heap) : Prop := match e with
  | .normal | .ret => resVC tab ⟨env, next, H⟩ rs fun xs => RetOwn n ⟨env, next, H⟩ (tupA xs) R
  | .exit _ => False
/-- Called with what is known, it answers so, and leaves so; m handles are new. -/
abbrev ECall (P : Program) (f : FuncId) (args : List AVal) (H : Heap) (n : Nat) (x : AVal) (H' : Heap) (m : Nat) : Prop :=
  ACall P f args H n fun x' H'' n' => x' = x ∧ H'' = H' ∧ n' = n + m

section
variable {P : Program} {tab : Tab}
theorem acall_of_vc {ic : Code → Bool} (ht : TabOk P tab) (hm : P.follows .mixedOrders = true) {f : FuncId} {fn : Func} {c : Code} {args : List AVal} {H : Heap} {n N : Nat} {R : AVal → Heap → Nat → Prop} (hf : P.funcs[f]? = some fn) (hb : fn.body = some c) (hcall : callable P f = true) (hN : fn.ntmps = nOf N) (hk : kOf N = n) (hlen : args.length ≤ nOf N)
    {Q : X → St → Prop} (hQ : ∀ e s, Q e s → ownF tab fn.results.toList n R e s.env s.next s.H) (h : vc ic tab P N c Q ⟨argEnv 0 args, n, H⟩) : ACall P f args H n R := by
  refine ⟨hcall, fun r A w vs hr hc hs hv => ?_⟩
  refine calls_of_wp hf hb ?_
  rw [hN]
  have hsim := start_sim (N := N) (H := H) hr hc ⟨hs, hv⟩ hlen hk
  refine wp_mono (vc_sound ht hm c _ _ r A _ w h hsim) (lift_body fun s r' A' act w' e hq hs' => ?_)
  have hq := hQ e s hq
  have body : resVC tab s fn.results.toList (fun xs => RetOwn n s (tupA xs) R) → ∃ v, (results fn act.tmps).run P w' = .ok v w' ∧ (fun e w' => ∃ v r' A' x H' n', e = Ending.returned v ∧ R x H' n' ∧ n ≤ n' ∧ (∀ h, h < n → r' h = r h) ∧ (∀ h, n' ≤ h → r' h = none) ∧ Core r' A' w' (Heap.get H') ∧ VRel r' A' v x ∧ Fr w A w' A' (LiveB r H.get) ∧ ∀ b, LiveB r' (Heap.get H') b → LiveB r H.get b ∨ w.heap.size ≤ b) (.returned v) w' := fun hres => by
    obtain ⟨xs, v, ⟨fz, q, x, H', hz, ha, hH, hq, hb, hR⟩, h2, h3⟩ := res_run ht hs' hres
    simp only [Bool.and_eq_true] at hq hb hz
    obtain ⟨A2, c2, s2, k2'⟩ := Core.stays s.H.get fz hs'.core hz.1 fun h hh => ⟨rfl, List.all_eq_true.1 hz.2 h hh⟩
    generalize hG : over (fz.map fun h => (h, (s.H.get h).freeze)) s.H.get = g2 at c2 ha hH
    obtain ⟨r2, k1, k2, k3, k4, k5⟩ := retell c2 q H' hH hq.1 hb.2
    obtain ⟨p1, p2⟩ := keepOk_get hq.2
    have hlive : ∀ b, LiveB r' g2 b → LiveB r' s.H.get b := fun b ⟨h, hl, hb⟩ => by
      refine ⟨h, ?_, hb⟩
      rw [← hG] at hl
      by_cases hm : h ∈ fz
      · exact List.all_eq_true.1 hz.2 h hm
      · rw [over_keys] at hl
        · exact hl
        · simp only [List.map_map, List.mem_map, Function.comp, not_exists, not_and]
          exact fun y hy e => hm (by rw [← show y = h from e]; exact hy)
    have hfr : Fr w A w' A2 (LiveB r H.get) := by
      refine ⟨hs'.frame.os, hs'.frame.tape, hs'.frame.output, hs'.frame.size, hs'.frame.block, hs'.frame.sub.trans s2, fun b hb hn => ?_⟩
      rw [k2' b fun h hh e => ?_]
      · exact hs'.frame.keep b hb hn
      · rcases hs'.own b ⟨h, List.all_eq_true.1 hz.2 h hh, e⟩ with h1 | h1
        · omega
        · exact hn h1
    refine ⟨v, h2, v, r2, A2, x, H', q.length, rfl, hR, p1, fun h hh => ?_, k3, k1, k2 _ _ _ hb.1 ha (h3.mono (RSub.refl r') s2), hfr, fun b hbb => (hs'.own b (hlive b (k5 b hbb))).symm⟩
    have := p2 h hh
    rw [Nat.zero_add] at this
    rw [k4 h (Nat.lt_of_lt_of_le hh p1), ren1_lt this]
    exact hs'.keep h (by rw [hk]; exact hh)
  cases e with
  | normal => exact ⟨fun id h => (by cases h), body hq⟩
  | ret => exact ⟨fun id h => (by cases h), body hq⟩
  | exit id => exact hq.elim
/-- A function that changes what it is handed: what is asked of its body. -/
theorem acall_with (ic : Code → Bool) (ht : TabOk P tab) (hm : P.follows .mixedOrders = true) {f N : Nat} {fn : Func} {args : List AVal} {H : Heap} {n : Nat} {R : AVal → Heap → Nat → Prop} (hf : P.funcs[f]? = some fn) (hcall : callable P f = true) (hN : fn.ntmps = N) (hlen : (Nat.ble args.length N && Nat.blt N 65536) = true)
    (h : vcR ic tab P (n * 65536 + N) (bodyOf fn) (ownF tab fn.results.toList n R) (argEnv 0 args) n H) : ACall P f args H n R := by
  simp only [Bool.and_eq_true] at hlen
  have hsm := hblt hlen.2
  have hb : fn.body = some (bodyOf fn) := by
    unfold callable at hcall
    rw [hf] at hcall
    simp only [Bool.and_eq_true] at hcall
    obtain ⟨c, hc⟩ := Option.isSome_iff_exists.1 hcall.2
    simp [bodyOf, hc]
  have h1 : nOf (n * 65536 + N) = N := by show (n * 65536 + N) % 65536 = N; omega
  have h2 : kOf (n * 65536 + N) = n := by show (n * 65536 + N) / 65536 = n; omega
  refine acall_of_vc (ic := ic) ht hm (N := n * 65536 + N) hf hb hcall (by rw [h1]; exact hN) h2 (by rw [h1]; exact Nat.le_of_ble_eq_true hlen.1) (Q := fun e s => ownF tab fn.results.toList n R e s.env s.next s.H) (fun e s h => h) ?_
  rw [← vcF_eq, ← vcR_eq]
  exact h
theorem acall_intro (ht : TabOk P tab) (hm : P.follows .mixedOrders = true) {f N : Nat} {fn : Func} {args : List AVal} {H : Heap} {n : Nat} {R : AVal → Heap → Nat → Prop} (hf : P.funcs[f]? = some fn) (hcall : callable P f = true) (hN : fn.ntmps = N) (hlen : (Nat.ble args.length N && Nat.blt N 65536) = true)
    (h : vcR isCond tab P (n * 65536 + N) (bodyOf fn) (ownF tab fn.results.toList n R) (argEnv 0 args) n H) : ACall P f args H n R := acall_with isCond ht hm hf hcall hN hlen h
theorem acall_cut (ht : TabOk P tab) (hm : P.follows .mixedOrders = true) {f N : Nat} {fn : Func} {args : List AVal} {H : Heap} {n : Nat} {R : AVal → Heap → Nat → Prop} (hf : P.funcs[f]? = some fn) (hcall : callable P f = true) (hN : fn.ntmps = N) (hlen : (Nat.ble args.length N && Nat.blt N 65536) = true)
    (h : vcR isBig tab P (n * 65536 + N) (bodyOf fn) (ownF tab fn.results.toList n R) (argEnv 0 args) n H) : ACall P f args H n R := acall_with isBig ht hm hf hcall hN hlen h
end
end Go.Proofs.YtlioojekjnigiafGreat.AM
/- Colors, pasts and rising ids, as the document reckons them. -/
namespace Go.Proofs.YtlioojekjnigiafGreat.AM
set_option linter.unusedVariables false
set_option linter.unusedSimpArgs false

def Bool.encB (b : Bool) : List D := [.bool b]
set_option maxHeartbeats 0 in
theorem isOf_ok (c : Int) (i : Nat) (hi : i < 3) : PCall Tryz.prog 172 [dInt c, dInt i] (dBool (isOf c i)) := by
  refine pcall_intro tab_all tab_mixed Tryz.func172 (by kernel_rfl) Tryz.ntmps172 rfl ?_
  conv => whnf
  rcases (by omega : i = 0 ∨ i = 1 ∨ i = 2) with rfl | rfl | rfl
  · refine .mk 0 _ rfl rfl rfl ?_
    conv => whnf
    refine .mk _ rfl ?_
    conv => whnf
    refine ⟨by decide, ?_⟩
    conv => whnf
    refine ⟨by decide, ?_⟩
    conv => whnf
    exact Ret.bool rfl
  · refine .mk 1 _ rfl rfl rfl ?_
    conv => whnf
    refine .mk _ rfl ?_
    conv => whnf
    refine ⟨by decide, ?_⟩
    conv => whnf
    refine ⟨by decide, ?_⟩
    conv => whnf
    exact Ret.bool rfl
  · refine .mk 2 _ rfl rfl rfl ?_
    conv => whnf
    refine .mk _ rfl ?_
    conv => whnf
    refine ⟨by decide, ?_⟩
    conv => whnf
    refine ⟨by decide, ?_⟩
    conv => whnf
    exact Ret.bool rfl
set_option maxHeartbeats 0 in
theorem meets_ok (a b : Int) : PCall Tryz.prog 87 [dInt a, dInt b] (dBool (meets a b)) := by
  refine pcall_intro tab_all tab_mixed Tryz.func87 (by kernel_rfl) Tryz.ntmps87 rfl ?_
  conv => whnf
  refine LoopOk.hide fun Q1 hQ1 => ?_
  refine LoopOk.mk (fun m s => ∃ i, i + m = 3 ∧ (meets a b = if i = 0 then meets a b else if i = 1 then ((isOf a 1 && isOf b 1) || (isOf a 2 && isOf b 2)) else if i = 2 then (isOf a 2 && isOf b 2) else false) ∧ s = ⟨[(5, dInt i), (0, dInt a), (1, dInt b)], 0, []⟩) 3 (Into.mono (Into.to [] [(5, dInt (0 : Nat)), (0, dInt a), (1, dInt b)] [] (by repeat (first | exact trivial | refine ⟨.same (congrArg dInt (wrap_up (by omega))), ?_⟩ | refine ⟨.same rfl, ?_⟩ | refine ⟨.any _, ?_⟩)) trivial rfl rfl) fun s' h => ⟨0, by omega, by simp, h⟩) ?_
  rintro m s ⟨i, hi, hp, rfl⟩
  conv => whnf
  (first | (refine SeqOk.go ?_; conv => whnf) | skip)
  refine ⟨fun h => ?_, fun h => ?_⟩
  · conv => whnf
    repeat (first | (refine Conf.mk (by kernel_rfl) ?_; conv => whnf) | (refine SeqOk.go ?_; conv => whnf))
    have hi' : i < 3 := by simp at h; omega
    refine .look _ _ (isOf_ok a i hi') rfl rfl ?_
    conv => whnf
    repeat (first | (refine Conf.mk (by kernel_rfl) ?_; conv => whnf) | (refine SeqOk.go ?_; conv => whnf))
    refine ⟨fun h1 => ?_, fun h1 => ?_⟩
    · conv => whnf
      repeat (first | (refine Conf.mk (by kernel_rfl) ?_; conv => whnf) | (refine SeqOk.go ?_; conv => whnf))
      refine .look _ _ (isOf_ok b i hi') rfl rfl ?_
      conv => whnf
      repeat (first | (refine Conf.mk (by kernel_rfl) ?_; conv => whnf) | (refine SeqOk.go ?_; conv => whnf))
      refine ⟨fun h2 => ?_, fun h2 => ?_⟩
      · conv => whnf
        repeat (first | (refine Conf.mk (by kernel_rfl) ?_; conv => whnf) | (refine SeqOk.go ?_; conv => whnf))
        subst hQ1
        conv => whnf
        refine Ret.bool ?_
        rw [hp]
        rcases (by omega : i = 0 ∨ i = 1 ∨ i = 2) with rfl | rfl | rfl <;> simp_all [meets]
      · conv => whnf
        repeat (first | (refine Conf.mk (by kernel_rfl) ?_; conv => whnf) | (refine SeqOk.go ?_; conv => whnf))
        refine Into.mono (Into.to [] [(5, dInt (i + 1 : Nat)), (0, dInt a), (1, dInt b)] [] (by repeat (first | exact trivial | refine ⟨.same (congrArg dInt (wrap_up (by omega))), ?_⟩ | refine ⟨.same rfl, ?_⟩ | refine ⟨.any _, ?_⟩)) trivial rfl rfl) fun s' h' => ⟨m - 1, by omega, i + 1, by omega, ?_, h'⟩
        rw [hp]
        rcases (by omega : i = 0 ∨ i = 1 ∨ i = 2) with rfl | rfl | rfl <;> simp_all [meets]
    · conv => whnf
      repeat (first | (refine Conf.mk (by kernel_rfl) ?_; conv => whnf) | (refine SeqOk.go ?_; conv => whnf))
      refine Into.mono (Into.to [] [(5, dInt (i + 1 : Nat)), (0, dInt a), (1, dInt b)] [] (by repeat (first | exact trivial | refine ⟨.same (congrArg dInt (wrap_up (by omega))), ?_⟩ | refine ⟨.same rfl, ?_⟩ | refine ⟨.any _, ?_⟩)) trivial rfl rfl) fun s' h' => ⟨m - 1, by omega, i + 1, by omega, ?_, h'⟩
      rw [hp]
      rcases (by omega : i = 0 ∨ i = 1 ∨ i = 2) with rfl | rfl | rfl <;> simp_all [meets]
  · conv => whnf
    repeat (first | (refine Conf.mk (by kernel_rfl) ?_; conv => whnf) | (refine SeqOk.go ?_; conv => whnf))
    subst hQ1
    conv => whnf
    refine Ret.bool ?_
    have : i = 3 := by simp at h; omega
    subst this
    simpa using hp.symm
theorem setLinks_snoc (l : List Entry') (bs : List Bool) (ys : List Id) {j : Nat} (hj : j < ys.length) : setLinks l bs (ys.take (j + 1)) = tick l (setLinks l bs (ys.take j)) ys[j] := by
  unfold setLinks
  rw [take_snoc hj, List.foldl_append]
  rfl
set_option maxHeartbeats 0 in
theorem pastOfB_ok (l : List Entry') (hr : Right l) (at' : Nat) (hat : at' < l.length) : PCall Tryz.prog 173 [.dat (.list (l.map Entry'.enc)), dInt at'] (.dat (.list ((pastBs l at').map Bool.encB))) := by
  have hlen := hr.len
  refine pcall_intro tab_all tab_mixed Tryz.func173 (by kernel_rfl) Tryz.ntmps173 rfl ?_
  conv => whnf
  refine .mk l.length (by simp) ?_
  conv => whnf
  repeat (first | (refine Conf.mk (by kernel_rfl) ?_; conv => whnf) | (refine SeqOk.go ?_; conv => whnf))
  refine ⟨Nat.le_trans (Nat.mul_le_mul_right 2 hlen) (by decide), ?_⟩
  conv => whnf
  repeat (first | (refine Conf.mk (by kernel_rfl) ?_; conv => whnf) | (refine SeqOk.go ?_; conv => whnf))
  refine LoopOk.hide fun Q1 hQ1 => ?_
  refine LoopOk.mk (fun m s => ∃ k, k + m = at' + 1 ∧ s = ⟨[(6, dInt ((at' : Int) - k)), (0, .dat (.list (l.map Entry'.enc))), (1, dInt at'), (5, .row 0)], 1, [(0, .rows 4 1 ((pastB l at' k).map Bool.encB) true)]⟩) (at' + 1) (Into.mono (Into.to [0] [(6, dInt ((at' : Int) - (0 : Nat))), (0, .dat (.list (l.map Entry'.enc))), (1, dInt at'), (5, .row 0)] [(0, .rows 4 1 ((pastB l at' 0).map Bool.encB) true)] ⟨.same (congrArg dInt (by simp)), .same rfl, .same rfl, .same rfl, trivial⟩ ⟨⟨rfl, rfl, rfl, by simp [pastB, Bool.encB]⟩, trivial⟩ rfl rfl) fun s' h => ⟨0, by omega, h⟩) ?_
  rintro m s ⟨k, hk, rfl⟩
  conv => whnf
  repeat (first | (refine Conf.mk (by kernel_rfl) ?_; conv => whnf) | (refine SeqOk.go ?_; conv => whnf))
  refine ⟨fun h => ?_, fun h => ?_⟩
  · have hk' : k ≤ at' := by simp at h; omega
    have hsub : ((at' : Int) - k) = ((at' - k : Nat) : Int) := by omega
    have hlt : at' - k < l.length := by omega
    conv => whnf
    repeat (first | (refine Conf.mk (by kernel_rfl) ?_; conv => whnf) | (refine SeqOk.go ?_; conv => whnf))
    refine ⟨fun h1 => ?_, fun h1 => ?_⟩
    · have hc : (decide (at' - k = at') || isIn (pastB l at' k) (at' - k)) = true := by
        have : at' - k = at' := by simp at h1; omega
        simp [this]
      conv => whnf
      repeat (first | (refine Conf.mk (by kernel_rfl) ?_; conv => whnf) | (refine SeqOk.go ?_; conv => whnf))
      have hstep : pastB l at' (k + 1) = setLinks l (pastB l at' k) l[at' - k].links := by
        simp only [pastB]
        rw [List.getElem?_eq_getElem hlt]
        simp only
        rw [if_pos hc]
      refine LoopOk.hide fun Q2 hQ2 => ?_
      refine LoopOk.mk (fun m' s => ∃ j, j + m' = l[at' - k].links.length ∧ s = ⟨[(7, dInt j), (6, dInt ((at' : Int) - k)), (0, .dat (.list (l.map Entry'.enc))), (1, dInt at'), (5, .row 0)], 1, [(0, .rows 4 1 ((setLinks l (pastB l at' k) (l[at' - k].links.take j)).map Bool.encB) true)]⟩) l[at' - k].links.length (Into.mono (Into.to [0] [(7, dInt (0 : Nat)), (6, dInt ((at' : Int) - k)), (0, .dat (.list (l.map Entry'.enc))), (1, dInt at'), (5, .row 0)] [(0, .rows 4 1 ((setLinks l (pastB l at' k) (l[at' - k].links.take 0)).map Bool.encB) true)] ⟨.same rfl, .same rfl, .same rfl, .same rfl, .same rfl, trivial⟩ ⟨⟨rfl, rfl, rfl, rfl⟩, trivial⟩ rfl rfl) fun s' h => ⟨0, by omega, h⟩) ?_
      rintro m' s ⟨j, hj, rfl⟩
      conv => whnf
      repeat (first | (refine Conf.mk (by kernel_rfl) ?_; conv => whnf) | (refine SeqOk.go ?_; conv => whnf))
      refine AtIdx.ofMap' (at' - k) hsub hlt rfl ?_
      conv => whnf
      repeat (first | (refine Conf.mk (by kernel_rfl) ?_; conv => whnf) | (refine SeqOk.go ?_; conv => whnf))
      refine ⟨fun h2 => ?_, fun h2 => ?_⟩
      · have hj' : j < l[at' - k].links.length := by simp at h2; omega
        conv => whnf
        repeat (first | (refine Conf.mk (by kernel_rfl) ?_; conv => whnf) | (refine SeqOk.go ?_; conv => whnf))
        refine AtIdx.ofMap' (at' - k) hsub hlt rfl ?_
        conv => whnf
        repeat (first | (refine Conf.mk (by kernel_rfl) ?_; conv => whnf) | (refine SeqOk.go ?_; conv => whnf))
        refine AtIdx.ofMap hj' rfl ?_
        conv => whnf
        repeat (first | (refine Conf.mk (by kernel_rfl) ?_; conv => whnf) | (refine SeqOk.go ?_; conv => whnf))
        refine .look _ _ (entryAt_ok l[at' - k].links[j] l (by omega)) rfl rfl ?_
        conv => whnf
        repeat (first | (refine Conf.mk (by kernel_rfl) ?_; conv => whnf) | (refine SeqOk.go ?_; conv => whnf))
        obtain ⟨x, hx, hxe⟩ := hr.links (List.getElem_mem hlt) (List.getElem_mem hj')
        obtain ⟨p, hp, rfl⟩ := List.getElem_of_mem hx
        have hidx := idx_of hr hp
        rw [hxe] at hidx
        have hpl : p < (setLinks l (pastB l at' k) (l[at' - k].links.take j)).length := by rw [setLinks_length, pastB_length]; exact hp
        refine AtIdx.ofMap' p (by rw [entryAt_eq, hidx]; rfl) hpl rfl ?_
        conv => whnf
        repeat (first | (refine Conf.mk (by kernel_rfl) ?_; conv => whnf) | (refine SeqOk.go ?_; conv => whnf))
        refine .mk _ (by rw [List.getElem?_map, List.getElem?_eq_getElem hpl]; rfl) ?_
        conv => whnf
        repeat (first | (refine Conf.mk (by kernel_rfl) ?_; conv => whnf) | (refine SeqOk.go ?_; conv => whnf))
        refine Into.mono (Into.to [0] [(7, dInt (j + 1 : Nat)), (6, dInt ((at' : Int) - k)), (0, .dat (.list (l.map Entry'.enc))), (1, dInt at'), (5, .row 0)] [(0, .rows 4 1 ((setLinks l (pastB l at' k) (l[at' - k].links.take (j + 1))).map Bool.encB) true)] ⟨.same (congrArg dInt (wrap_up (by have := hr.six (List.getElem_mem hlt); omega))), .same rfl, .same rfl, .same rfl, .same rfl, trivial⟩ ⟨⟨rfl, rfl, rfl, ?_⟩, trivial⟩ rfl rfl) fun s' h => ⟨m' - 1, by omega, j + 1, by omega, h⟩
        rw [setLinks_snoc l _ _ hj']
        unfold tick
        rw [hidx]
        simp only [List.map_set]
        rfl
      · have hj' : l[at' - k].links.length ≤ j := by simp at h2; omega
        conv => whnf
        repeat (first | (refine Conf.mk (by kernel_rfl) ?_; conv => whnf) | (refine SeqOk.go ?_; conv => whnf))
        subst hQ2
        conv => whnf
        have hdone : pastB l at' (k + 1) = setLinks l (pastB l at' k) (l[at' - k].links.take j) := by rw [hstep, List.take_of_length_le hj']
        refine Into.mono (Into.to [0] [(6, dInt ((at' : Int) - (k + 1 : Nat))), (0, .dat (.list (l.map Entry'.enc))), (1, dInt at'), (5, .row 0)] [(0, .rows 4 1 ((pastB l at' (k + 1)).map Bool.encB) true)] ⟨.same (congrArg dInt (by rw [wrap_id (by omega) (by omega)]; omega)), .same rfl, .same rfl, .same rfl, trivial⟩ ⟨⟨rfl, rfl, rfl, congrArg (List.map Bool.encB) hdone⟩, trivial⟩ rfl rfl) fun s' h => ⟨m - 1, by omega, k + 1, by omega, h⟩
    · have hpl : at' - k < (pastB l at' k).length := by rw [pastB_length]; exact hlt
      conv => whnf
      repeat (first | (refine Conf.mk (by kernel_rfl) ?_; conv => whnf) | (refine SeqOk.go ?_; conv => whnf))
      refine AtIdx.ofMap' (at' - k) hsub hpl rfl ?_
      conv => whnf
      repeat (first | (refine Conf.mk (by kernel_rfl) ?_; conv => whnf) | (refine SeqOk.go ?_; conv => whnf))
      refine .mk _ (by rw [List.getElem?_map, List.getElem?_eq_getElem hpl]; rfl) ?_
      conv => whnf
      repeat (first | (refine Conf.mk (by kernel_rfl) ?_; conv => whnf) | (refine SeqOk.go ?_; conv => whnf))
      refine ⟨fun h3 => ?_, fun h3 => ?_⟩
      · have hc : (decide (at' - k = at') || isIn (pastB l at' k) (at' - k)) = true := by
          rw [Bool.or_eq_true]
          refine .inr ?_
          unfold isIn
          rw [List.getElem?_eq_getElem hpl]
          exact h3
        conv => whnf
        repeat (first | (refine Conf.mk (by kernel_rfl) ?_; conv => whnf) | (refine SeqOk.go ?_; conv => whnf))
        have hstep : pastB l at' (k + 1) = setLinks l (pastB l at' k) l[at' - k].links := by
          simp only [pastB]
          rw [List.getElem?_eq_getElem hlt]
          simp only
          rw [if_pos hc]
        refine LoopOk.hide fun Q2 hQ2 => ?_
        refine LoopOk.mk (fun m' s => ∃ j, j + m' = l[at' - k].links.length ∧ s = ⟨[(7, dInt j), (6, dInt ((at' : Int) - k)), (0, .dat (.list (l.map Entry'.enc))), (1, dInt at'), (5, .row 0)], 1, [(0, .rows 4 1 ((setLinks l (pastB l at' k) (l[at' - k].links.take j)).map Bool.encB) true)]⟩) l[at' - k].links.length (Into.mono (Into.to [0] [(7, dInt (0 : Nat)), (6, dInt ((at' : Int) - k)), (0, .dat (.list (l.map Entry'.enc))), (1, dInt at'), (5, .row 0)] [(0, .rows 4 1 ((setLinks l (pastB l at' k) (l[at' - k].links.take 0)).map Bool.encB) true)] ⟨.same rfl, .same rfl, .same rfl, .same rfl, .same rfl, trivial⟩ ⟨⟨rfl, rfl, rfl, rfl⟩, trivial⟩ rfl rfl) fun s' h => ⟨0, by omega, h⟩) ?_
        rintro m' s ⟨j, hj, rfl⟩
        conv => whnf
        repeat (first | (refine Conf.mk (by kernel_rfl) ?_; conv => whnf) | (refine SeqOk.go ?_; conv => whnf))
        refine AtIdx.ofMap' (at' - k) hsub hlt rfl ?_
        conv => whnf
        repeat (first | (refine Conf.mk (by kernel_rfl) ?_; conv => whnf) | (refine SeqOk.go ?_; conv => whnf))
        refine ⟨fun h2 => ?_, fun h2 => ?_⟩
        · have hj' : j < l[at' - k].links.length := by simp at h2; omega
          conv => whnf
          repeat (first | (refine Conf.mk (by kernel_rfl) ?_; conv => whnf) | (refine SeqOk.go ?_; conv => whnf))
          refine AtIdx.ofMap' (at' - k) hsub hlt rfl ?_
          conv => whnf
          repeat (first | (refine Conf.mk (by kernel_rfl) ?_; conv => whnf) | (refine SeqOk.go ?_; conv => whnf))
          refine AtIdx.ofMap hj' rfl ?_
          conv => whnf
          repeat (first | (refine Conf.mk (by kernel_rfl) ?_; conv => whnf) | (refine SeqOk.go ?_; conv => whnf))
          refine .look _ _ (entryAt_ok l[at' - k].links[j] l (by omega)) rfl rfl ?_
          conv => whnf
          repeat (first | (refine Conf.mk (by kernel_rfl) ?_; conv => whnf) | (refine SeqOk.go ?_; conv => whnf))
          obtain ⟨x, hx, hxe⟩ := hr.links (List.getElem_mem hlt) (List.getElem_mem hj')
          obtain ⟨p, hp, rfl⟩ := List.getElem_of_mem hx
          have hidx := idx_of hr hp
          rw [hxe] at hidx
          have hpl : p < (setLinks l (pastB l at' k) (l[at' - k].links.take j)).length := by rw [setLinks_length, pastB_length]; exact hp
          refine AtIdx.ofMap' p (by rw [entryAt_eq, hidx]; rfl) hpl rfl ?_
          conv => whnf
          repeat (first | (refine Conf.mk (by kernel_rfl) ?_; conv => whnf) | (refine SeqOk.go ?_; conv => whnf))
          refine .mk _ (by rw [List.getElem?_map, List.getElem?_eq_getElem hpl]; rfl) ?_
          conv => whnf
          repeat (first | (refine Conf.mk (by kernel_rfl) ?_; conv => whnf) | (refine SeqOk.go ?_; conv => whnf))
          refine Into.mono (Into.to [0] [(7, dInt (j + 1 : Nat)), (6, dInt ((at' : Int) - k)), (0, .dat (.list (l.map Entry'.enc))), (1, dInt at'), (5, .row 0)] [(0, .rows 4 1 ((setLinks l (pastB l at' k) (l[at' - k].links.take (j + 1))).map Bool.encB) true)] ⟨.same (congrArg dInt (wrap_up (by have := hr.six (List.getElem_mem hlt); omega))), .same rfl, .same rfl, .same rfl, .same rfl, trivial⟩ ⟨⟨rfl, rfl, rfl, ?_⟩, trivial⟩ rfl rfl) fun s' h => ⟨m' - 1, by omega, j + 1, by omega, h⟩
          rw [setLinks_snoc l _ _ hj']
          unfold tick
          rw [hidx]
          simp only [List.map_set]
          rfl
        · have hj' : l[at' - k].links.length ≤ j := by simp at h2; omega
          conv => whnf
          repeat (first | (refine Conf.mk (by kernel_rfl) ?_; conv => whnf) | (refine SeqOk.go ?_; conv => whnf))
          subst hQ2
          conv => whnf
          have hdone : pastB l at' (k + 1) = setLinks l (pastB l at' k) (l[at' - k].links.take j) := by rw [hstep, List.take_of_length_le hj']
          refine Into.mono (Into.to [0] [(6, dInt ((at' : Int) - (k + 1 : Nat))), (0, .dat (.list (l.map Entry'.enc))), (1, dInt at'), (5, .row 0)] [(0, .rows 4 1 ((pastB l at' (k + 1)).map Bool.encB) true)] ⟨.same (congrArg dInt (by rw [wrap_id (by omega) (by omega)]; omega)), .same rfl, .same rfl, .same rfl, trivial⟩ ⟨⟨rfl, rfl, rfl, congrArg (List.map Bool.encB) hdone⟩, trivial⟩ rfl rfl) fun s' h => ⟨m - 1, by omega, k + 1, by omega, h⟩
      · conv => whnf
        repeat (first | (refine Conf.mk (by kernel_rfl) ?_; conv => whnf) | (refine SeqOk.go ?_; conv => whnf))
        have hdone : pastB l at' (k + 1) = pastB l at' k := by
          simp only [pastB]
          rw [List.getElem?_eq_getElem hlt]
          simp only
          rw [if_neg]
          simp only [Bool.or_eq_true, not_or, Bool.not_eq_true]
          refine ⟨decide_eq_false fun e => ?_, ?_⟩
          · simp at h1; omega
          · unfold isIn
            rw [List.getElem?_eq_getElem hpl]
            exact h3
        refine Into.mono (Into.to [0] [(6, dInt ((at' : Int) - (k + 1 : Nat))), (0, .dat (.list (l.map Entry'.enc))), (1, dInt at'), (5, .row 0)] [(0, .rows 4 1 ((pastB l at' (k + 1)).map Bool.encB) true)] ⟨.same (congrArg dInt (by rw [wrap_id (by omega) (by omega)]; omega)), .same rfl, .same rfl, .same rfl, trivial⟩ ⟨⟨rfl, rfl, rfl, congrArg (List.map Bool.encB) hdone⟩, trivial⟩ rfl rfl) fun s' h => ⟨m - 1, by omega, k + 1, by omega, h⟩
  · have hk' : k = at' + 1 := by simp at h; omega
    conv => whnf
    repeat (first | (refine Conf.mk (by kernel_rfl) ?_; conv => whnf) | (refine SeqOk.go ?_; conv => whnf))
    subst hQ1
    conv => whnf
    refine Ret.to ?_
    rw [hk']
    rfl
end Go.Proofs.YtlioojekjnigiafGreat.AM
/- Rising ids, heads, as the document reckons them; ids joined. -/
namespace Go.Proofs.YtlioojekjnigiafGreat.AM
set_option linter.unusedVariables false
set_option linter.unusedSimpArgs false

theorem filter_snoc {α : Type} (p : α → Bool) {l : List α} {k : Nat} {x : α} (h : l[k]? = some x) : (l.take (k + 1)).filter p = (l.take k).filter p ++ if p x = true then [x] else [] := by
  rw [List.take_add_one, h, List.filter_append]
  congr 1
  by_cases hp : p x = true <;> simp [hp]
def risingTo (l : List Entry') (bs : List Bool) (k : Nat) : List Id := (allIds.take k).filter (inAt l bs)
theorem risingTo_all (l : List Entry') (bs : List Bool) : risingTo l bs 40 = rising l bs := by
  unfold risingTo rising
  rw [List.take_of_length_le (by rw [allIds_length]; exact Nat.le_refl _)]
theorem risingTo_len (l : List Entry') (bs : List Bool) (k : Nat) : (risingTo l bs k).length ≤ 40 := by
  unfold risingTo
  have h1 := List.length_filter_le (inAt l bs) (allIds.take k)
  have h2 : (allIds.take k).length ≤ 40 := by rw [List.length_take, allIds_length]; omega
  omega
set_option maxHeartbeats 0 in
theorem rising_ok (l : List Entry') (hl : l.length ≤ 40) (bs : List Bool) (hb : bs.length = l.length) : PCall Tryz.prog 257 [.dat (.list (l.map Entry'.enc)), .dat (.list (bs.map Bool.encB))] (.dat (.list ((rising l bs).map Id.enc))) := by
  refine pcall_intro tab_all tab_mixed Tryz.func257 (by kernel_rfl) Tryz.ntmps257 rfl ?_
  conv => whnf
  refine LoopOk.hide fun Q1 hQ1 => ?_
  refine LoopOk.mk (fun m s => ∃ r, r + m = 2 ∧ s = ⟨[(6, dInt r), (0, .dat (.list (l.map Entry'.enc))), (1, .dat (.list (bs.map Bool.encB))), (5, .row 0)], 1, [(0, .rows 25 2 ((risingTo l bs (20 * r)).map Id.enc) true)]⟩) 2 ((Into.row 5 25 2 rfl).trans fun s' hs' => by
    subst hs'
    exact Into.mono (Into.to [0] [(6, dInt (0 : Nat)), (0, .dat (.list (l.map Entry'.enc))), (1, .dat (.list (bs.map Bool.encB))), (5, .row 0)] [(0, .rows 25 2 ((risingTo l bs (20 * 0)).map Id.enc) true)] (by repeat (first | exact trivial | refine ⟨.same (congrArg dInt (wrap_up (by omega))), ?_⟩ | refine ⟨.same rfl, ?_⟩ | refine ⟨.any _, ?_⟩)) ⟨⟨rfl, rfl, rfl, rfl⟩, trivial⟩ rfl rfl) fun s' h => ⟨0, by omega, h⟩) ?_
  rintro m s ⟨r, hrm, rfl⟩
  conv => whnf
  repeat (first | (refine Conf.mk (by kernel_rfl) ?_; conv => whnf) | (refine SeqOk.go ?_; conv => whnf))
  refine ⟨fun h => ?_, fun h => ?_⟩
  · have hr2 : r < 2 := by simp at h; omega
    conv => whnf
    repeat (first | (refine Conf.mk (by kernel_rfl) ?_; conv => whnf) | (refine SeqOk.go ?_; conv => whnf))
    refine LoopOk.hide fun Q2 hQ2 => ?_
    refine LoopOk.mk (fun m' s => ∃ k, k + m' = 20 ∧ s = ⟨[(7, dInt (k + 1 : Nat)), (6, dInt r), (0, .dat (.list (l.map Entry'.enc))), (1, .dat (.list (bs.map Bool.encB))), (5, .row 0)], 1, [(0, .rows 25 2 ((risingTo l bs (20 * r + k)).map Id.enc) true)]⟩) 20 (Into.mono (Into.to [0] [(7, dInt (0 + 1 : Nat)), (6, dInt r), (0, .dat (.list (l.map Entry'.enc))), (1, .dat (.list (bs.map Bool.encB))), (5, .row 0)] [(0, .rows 25 2 ((risingTo l bs (20 * r + 0)).map Id.enc) true)] (by repeat (first | exact trivial | refine ⟨.same (congrArg dInt (wrap_up (by omega))), ?_⟩ | refine ⟨.same rfl, ?_⟩ | refine ⟨.any _, ?_⟩)) ⟨⟨rfl, rfl, rfl, rfl⟩, trivial⟩ rfl rfl) fun s' h => ⟨0, by omega, h⟩) ?_
    rintro m' s ⟨k, hkm, rfl⟩
    conv => whnf
    repeat (first | (refine Conf.mk (by kernel_rfl) ?_; conv => whnf) | (refine SeqOk.go ?_; conv => whnf))
    refine ⟨fun h2 => ?_, fun h2 => ?_⟩
    · have hk : k < 20 := by simp at h2; omega
      have hget := allIds_get hr2 hk
      have hsn : risingTo l bs (20 * r + (k + 1)) = risingTo l bs (20 * r + k) ++ if inAt l bs ⟨r, ((k + 1 : Nat) : Int)⟩ = true then [⟨r, ((k + 1 : Nat) : Int)⟩] else [] := filter_snoc _ hget
      conv => whnf
      repeat (first | (refine Conf.mk (by kernel_rfl) ?_; conv => whnf) | (refine SeqOk.go ?_; conv => whnf))
      refine .look _ _ (entryAt_ok ⟨r, ((k + 1 : Nat) : Int)⟩ l (by omega)) rfl rfl ?_
      conv => whnf
      repeat (first | (refine Conf.mk (by kernel_rfl) ?_; conv => whnf) | (refine SeqOk.go ?_; conv => whnf))
      refine ⟨fun h3 => ?_, fun h3 => ?_⟩
      · rw [entryAt_eq] at h3
        have h3 : 0 ≤ idxOf (idx l ⟨r, ((k + 1 : Nat) : Int)⟩) := by simpa using h3
        obtain ⟨p, hp⟩ := Option.isSome_iff_exists.1 (idxOf_nonneg.1 h3)
        obtain ⟨hpl, hpe⟩ := idx_some hp
        have hpb : p < bs.length := by omega
        have hat : entryAt l ⟨r, ((k + 1 : Nat) : Int)⟩ = (p : Int) := by rw [entryAt_eq, hp]; rfl
        conv => whnf
        repeat (first | (refine Conf.mk (by kernel_rfl) ?_; conv => whnf) | (refine SeqOk.go ?_; conv => whnf))
        refine AtIdx.ofMap' p hat hpb rfl ?_
        conv => whnf
        repeat (first | (refine Conf.mk (by kernel_rfl) ?_; conv => whnf) | (refine SeqOk.go ?_; conv => whnf))
        refine ⟨fun h4 => ?_, fun h4 => ?_⟩
        · have hin : inAt l bs ⟨r, ((k + 1 : Nat) : Int)⟩ = true := by
            unfold inAt
            rw [hp]
            simp only [isIn]
            rw [List.getElem?_eq_getElem hpb]
            exact h4
          conv => whnf
          repeat (first | (refine Conf.mk (by kernel_rfl) ?_; conv => whnf) | (refine SeqOk.go ?_; conv => whnf))
          refine AtIdx.ofMap' p hat hpl rfl ?_
          conv => whnf
          repeat (first | (refine Conf.mk (by kernel_rfl) ?_; conv => whnf) | (refine SeqOk.go ?_; conv => whnf))
          have hlen := risingTo_len l bs (20 * r + k)
          refine ⟨by simp [Id.enc], by simp; omega, ?_⟩
          conv => whnf
          repeat (first | (refine Conf.mk (by kernel_rfl) ?_; conv => whnf) | (refine SeqOk.go ?_; conv => whnf))
          refine Into.mono (Into.to [2] [(7, dInt ((k + 1) + 1 : Nat)), (6, dInt r), (0, .dat (.list (l.map Entry'.enc))), (1, .dat (.list (bs.map Bool.encB))), (5, .row 0)] [(0, .rows 25 2 ((risingTo l bs (20 * r + (k + 1))).map Id.enc) true)] (by repeat (first | exact trivial | refine ⟨.same (congrArg dInt (wrap_up (by omega))), ?_⟩ | refine ⟨.same rfl, ?_⟩ | refine ⟨.any _, ?_⟩)) ⟨⟨rfl, rfl, rfl, ?_⟩, trivial⟩ rfl rfl) fun s' h => ⟨m' - 1, by omega, k + 1, by omega, h⟩
          rw [hsn, if_pos hin, List.map_append, List.map_singleton, ← hpe]
          rfl
        · have hno : inAt l bs ⟨r, ((k + 1 : Nat) : Int)⟩ = false := by
            unfold inAt
            rw [hp]
            simp only [isIn]
            rw [List.getElem?_eq_getElem hpb]
            exact h4
          conv => whnf
          repeat (first | (refine Conf.mk (by kernel_rfl) ?_; conv => whnf) | (refine SeqOk.go ?_; conv => whnf))
          refine Into.mono (Into.to [0] [(7, dInt ((k + 1) + 1 : Nat)), (6, dInt r), (0, .dat (.list (l.map Entry'.enc))), (1, .dat (.list (bs.map Bool.encB))), (5, .row 0)] [(0, .rows 25 2 ((risingTo l bs (20 * r + (k + 1))).map Id.enc) true)] (by repeat (first | exact trivial | refine ⟨.same (congrArg dInt (wrap_up (by omega))), ?_⟩ | refine ⟨.same rfl, ?_⟩ | refine ⟨.any _, ?_⟩)) ⟨⟨rfl, rfl, rfl, ?_⟩, trivial⟩ rfl rfl) fun s' h => ⟨m' - 1, by omega, k + 1, by omega, h⟩
          rw [hsn, hno]
          simp
      · rw [entryAt_eq] at h3
        have hno : inAt l bs ⟨r, ((k + 1 : Nat) : Int)⟩ = false := by
          unfold inAt
          cases hp : idx l ⟨r, ((k + 1 : Nat) : Int)⟩ with
          | none => rfl
          | some p => rw [hp] at h3; simp [idxOf] at h3
        conv => whnf
        repeat (first | (refine Conf.mk (by kernel_rfl) ?_; conv => whnf) | (refine SeqOk.go ?_; conv => whnf))
        refine Into.mono (Into.to [0] [(7, dInt ((k + 1) + 1 : Nat)), (6, dInt r), (0, .dat (.list (l.map Entry'.enc))), (1, .dat (.list (bs.map Bool.encB))), (5, .row 0)] [(0, .rows 25 2 ((risingTo l bs (20 * r + (k + 1))).map Id.enc) true)] (by repeat (first | exact trivial | refine ⟨.same (congrArg dInt (wrap_up (by omega))), ?_⟩ | refine ⟨.same rfl, ?_⟩ | refine ⟨.any _, ?_⟩)) ⟨⟨rfl, rfl, rfl, ?_⟩, trivial⟩ rfl rfl) fun s' h => ⟨m' - 1, by omega, k + 1, by omega, h⟩
        rw [hsn, hno]
        simp
    · have hk : k = 20 := by simp at h2; omega
      subst hk
      conv => whnf
      repeat (first | (refine Conf.mk (by kernel_rfl) ?_; conv => whnf) | (refine SeqOk.go ?_; conv => whnf))
      subst hQ2
      conv => whnf
      refine Into.mono (Into.to [0] [(6, dInt (r + 1 : Nat)), (0, .dat (.list (l.map Entry'.enc))), (1, .dat (.list (bs.map Bool.encB))), (5, .row 0)] [(0, .rows 25 2 ((risingTo l bs (20 * (r + 1))).map Id.enc) true)] (by repeat (first | exact trivial | refine ⟨.same (congrArg dInt (wrap_up (by omega))), ?_⟩ | refine ⟨.same rfl, ?_⟩ | refine ⟨.any _, ?_⟩)) ⟨⟨rfl, rfl, rfl, rfl⟩, trivial⟩ rfl rfl) fun s' h => ⟨m - 1, by omega, r + 1, by omega, h⟩
  · have hr2 : r = 2 := by simp at h; omega
    subst hr2
    conv => whnf
    repeat (first | (refine Conf.mk (by kernel_rfl) ?_; conv => whnf) | (refine SeqOk.go ?_; conv => whnf))
    subst hQ1
    conv => whnf
    refine Ret.to ?_
    rw [← risingTo_all]
theorem joinIds_len : ∀ (more ids : List Id), (joinIds ids more).length ≤ ids.length + more.length
  | [], ids => Nat.le_refl _
  | x :: t, ids => by
    show (joinIds (if ids.any (isId2 x) then ids else ids ++ [x]) t).length ≤ _
    have := joinIds_len t (if ids.any (isId2 x) then ids else ids ++ [x])
    by_cases h : ids.any (isId2 x) = true
    · rw [if_pos h] at *
      simp only [List.length_cons]
      omega
    · rw [if_neg h] at *
      simp only [List.length_cons, List.length_append, List.length_nil] at *
      omega
set_option maxHeartbeats 0 in
theorem join_ok (ids more : List Id) (h1 : ids.length ≤ 1000) (h2 : more.length ≤ 1000) : ECall Tryz.prog 179 [.row 0, .dat (.list (more.map Id.enc))] [(0, .rows 25 2 (ids.map Id.enc) true)] 1 (.row 1) [(0, .dead), (1, .rows 25 2 ((joinIds ids more).map Id.enc) true)] 1 := by
  refine acall_intro tab_all tab_mixed Tryz.func179 (by kernel_rfl) Tryz.ntmps179 rfl ?_
  conv => whnf
  refine LoopOk.hide fun Q1 hQ1 => ?_
  refine LoopOk.mk (fun m s => ∃ i, i + m = more.length ∧ s = ⟨[(9, dInt i), (8, dInt (more.map Id.enc).length), (7, .dat (.list (more.map Id.enc))), (0, .row 1)], 2, [(0, .dead), (1, .rows 25 2 ((joinIds ids (more.take i)).map Id.enc) true)]⟩) more.length ((Into.alias 0 0 (.rows 25 2 (ids.map Id.enc) true) rfl rfl rfl (Nat.lt_succ_self 0)).trans fun s' hs' => by
    subst hs'
    exact Into.mono (Into.to [0, 1] [(9, dInt (0 : Nat)), (8, dInt (more.map Id.enc).length), (7, .dat (.list (more.map Id.enc))), (0, .row 1)] [(0, .dead), (1, .rows 25 2 ((joinIds ids (more.take 0)).map Id.enc) true)] (by repeat (first | exact trivial | refine ⟨.same (congrArg dInt (wrap_up (by omega))), ?_⟩ | refine ⟨.same rfl, ?_⟩ | refine ⟨.any _, ?_⟩)) ⟨trivial, ⟨rfl, rfl, rfl, rfl⟩, trivial⟩ rfl rfl) fun s' h => ⟨0, by omega, h⟩) ?_
  rintro m s ⟨i, him, rfl⟩
  conv => whnf
  repeat (first | (refine Conf.mk (by kernel_rfl) ?_; conv => whnf) | (refine SeqOk.go ?_; conv => whnf))
  have hlen := joinIds_len (more.take i) ids
  have hsn : ∀ hi : i < more.length, joinIds ids (more.take (i + 1)) = if (joinIds ids (more.take i)).any (isId2 more[i]) = true then joinIds ids (more.take i) else joinIds ids (more.take i) ++ [more[i]] := fun hi => by
    rw [take_snoc hi]
    unfold joinIds
    rw [List.foldl_append]
    rfl
  refine ⟨fun h => ?_, fun h => ?_⟩
  · have hi : i < more.length := by simpa using h
    have hsn := hsn hi
    conv => whnf
    repeat (first | (refine Conf.mk (by kernel_rfl) ?_; conv => whnf) | (refine SeqOk.go ?_; conv => whnf))
    refine AtIdx.ofMap hi rfl ?_
    conv => whnf
    repeat (first | (refine Conf.mk (by kernel_rfl) ?_; conv => whnf) | (refine SeqOk.go ?_; conv => whnf))
    rw [List.length_take] at hlen
    refine .look _ _ (containsId_ok more[i] _ (by omega)) rfl rfl ?_
    conv => whnf
    repeat (first | (refine Conf.mk (by kernel_rfl) ?_; conv => whnf) | (refine SeqOk.go ?_; conv => whnf))
    refine ⟨fun h3 => ?_, fun h3 => ?_⟩
    · have h3 : (joinIds ids (more.take i)).any (isId2 more[i]) = false := (Bool.not_eq_true' _).mp h3
      rw [h3, if_neg (by simp)] at hsn
      conv => whnf
      repeat (first | (refine Conf.mk (by kernel_rfl) ?_; conv => whnf) | (refine SeqOk.go ?_; conv => whnf))
      refine ⟨by simp [Id.enc], by simp; omega, ?_⟩
      conv => whnf
      repeat (first | (refine Conf.mk (by kernel_rfl) ?_; conv => whnf) | (refine SeqOk.go ?_; conv => whnf))
      refine Into.mono (Into.to [0, 4] [(9, dInt (i + 1 : Nat)), (8, dInt (more.map Id.enc).length), (7, .dat (.list (more.map Id.enc))), (0, .row 1)] [(0, .dead), (1, .rows 25 2 ((joinIds ids (more.take (i + 1))).map Id.enc) true)] (by repeat (first | exact trivial | refine ⟨.same (congrArg dInt (wrap_up (by omega))), ?_⟩ | refine ⟨.same rfl, ?_⟩ | refine ⟨.any _, ?_⟩)) ⟨trivial, ⟨rfl, rfl, rfl, ?_⟩, trivial⟩ rfl rfl) fun s' h => ⟨m - 1, by omega, i + 1, by omega, h⟩
      rw [hsn, List.map_append]
      rfl
    · have h3 : (joinIds ids (more.take i)).any (isId2 more[i]) = true := (Bool.not_eq_false' (b := (joinIds ids (more.take i)).any (isId2 more[i]))).mp h3
      rw [if_pos h3] at hsn
      conv => whnf
      repeat (first | (refine Conf.mk (by kernel_rfl) ?_; conv => whnf) | (refine SeqOk.go ?_; conv => whnf))
      refine Into.mono (Into.to [0, 1] [(9, dInt (i + 1 : Nat)), (8, dInt (more.map Id.enc).length), (7, .dat (.list (more.map Id.enc))), (0, .row 1)] [(0, .dead), (1, .rows 25 2 ((joinIds ids (more.take (i + 1))).map Id.enc) true)] (by repeat (first | exact trivial | refine ⟨.same (congrArg dInt (wrap_up (by omega))), ?_⟩ | refine ⟨.same rfl, ?_⟩ | refine ⟨.any _, ?_⟩)) ⟨trivial, ⟨rfl, rfl, rfl, ?_⟩, trivial⟩ rfl rfl) fun s' h => ⟨m - 1, by omega, i + 1, by omega, h⟩
      rw [hsn]
  · have hi : more.length ≤ i := by simpa using h
    conv => whnf
    repeat (first | (refine Conf.mk (by kernel_rfl) ?_; conv => whnf) | (refine SeqOk.go ?_; conv => whnf))
    subst hQ1
    conv => whnf
    refine .mk [] [0, 1] (.row 1) [(0, .dead), (1, .rows 25 2 ((joinIds ids more).map Id.enc) true)] rfl (.same rfl) ⟨trivial, ⟨rfl, rfl, rfl, ?_⟩, trivial⟩ rfl rfl ⟨rfl, rfl, rfl⟩
    rw [List.take_of_length_le hi]
end Go.Proofs.YtlioojekjnigiafGreat.AM
/- Heads, as the document reckons them. -/
namespace Go.Proofs.YtlioojekjnigiafGreat.AM
set_option linter.unusedVariables false
set_option linter.unusedSimpArgs false

theorem map_encB_set {bs : List Bool} {i : Nat} {b : Bool} : (bs.map Bool.encB).set i [.bool b] = (bs.set i b).map Bool.encB := by
  rw [List.map_set]
  rfl
/-- The first places told already. -/
def tellTo (l : List Entry') (c : Int) (k : Nat) : List Bool := (l.take k).map (fun e => meets e.colors c) ++ List.replicate (l.length - k) false
theorem tellTo_length (l : List Entry') (c : Int) (k : Nat) (hk : k ≤ l.length) : (tellTo l c k).length = l.length := by simp [tellTo]; omega
theorem set_mid {α : Type} {A B : List α} {x y : α} {k : Nat} (h : A.length = k) : (A ++ x :: B).set k y = A ++ y :: B := by
  subst h
  rw [List.set_append_right _ _ (Nat.le_refl _), Nat.sub_self]
  rfl
theorem tellTo_snoc {l : List Entry'} {c : Int} {k : Nat} (hk : k < l.length) : tellTo l c (k + 1) = (tellTo l c k).set k (meets l[k].colors c) := by
  unfold tellTo
  rw [show l.length - k = (l.length - (k + 1)) + 1 by omega, List.replicate_succ, set_mid (by simp; omega), take_snoc hk, List.map_append, List.append_assoc]
  rfl
theorem tellTo_all (l : List Entry') (c : Int) : tellTo l c l.length = headB l c 0 := by simp [tellTo, headB]
/-- Places of a past taken away, the first ones already. -/
def offTo (a b : List Bool) (k : Nat) : List Bool := List.zipWith (fun a b => a && !b) (a.take k) (b.take k) ++ a.drop k
theorem offTo_length {a b : List Bool} {k : Nat} (h : a.length = b.length) (hk : k ≤ a.length) : (offTo a b k).length = a.length := by simp [offTo]; omega
theorem offTo_snoc {a b : List Bool} {k : Nat} (h : a.length = b.length) (hk : k < a.length) : offTo a b (k + 1) = (offTo a b k).set k (a[k] && !b[k]) := by
  unfold offTo
  rw [take_snoc hk, take_snoc (l := b) (by omega), List.zipWith_append (by simp; omega), List.drop_eq_getElem_cons hk, set_mid (by simp; omega), List.append_assoc]
  rfl
theorem offTo_get {a b : List Bool} {k : Nat} (h : a.length = b.length) (hk : k < a.length) : (offTo a b k)[k]? = some a[k] := by
  unfold offTo
  rw [List.getElem?_append_right (by simp; omega)]
  simp only [List.length_zipWith, List.length_take]
  rw [show k - min (min k a.length) (min k b.length) = 0 by omega, List.getElem?_drop]
  simp [hk]
theorem offTo_all {a b : List Bool} (h : a.length = b.length) : offTo a b a.length = List.zipWith (fun a b => a && !b) a b := by
  unfold offTo
  rw [List.take_of_length_le (Nat.le_refl _), List.take_of_length_le (by omega), List.drop_of_length_le (Nat.le_refl _), List.append_nil]
set_option maxHeartbeats 0 in
theorem headsOf_ok (l : List Entry') (hr : Right l) (c : Int) (hc : 1 ≤ c ∧ c ≤ 7) : PCall Tryz.prog 212 [.dat (.list (l.map Entry'.enc)), dInt c] (.dat (.list ((headsOf c l).map Id.enc))) := by
  have hlen := hr.len
  refine pcall_intro tab_all tab_mixed Tryz.func212 (by kernel_rfl) Tryz.ntmps212 rfl ?_
  conv => whnf
  refine .mk l.length (by simp) ?_
  conv => whnf
  repeat (first | (refine Conf.mk (by kernel_rfl) ?_; conv => whnf) | (refine SeqOk.go ?_; conv => whnf))
  refine ⟨Nat.le_trans (Nat.mul_le_mul_right 2 hlen) (by decide), ?_⟩
  conv => whnf
  repeat (first | (refine Conf.mk (by kernel_rfl) ?_; conv => whnf) | (refine SeqOk.go ?_; conv => whnf))
  refine LoopOk.hide fun Q1 hQ1 => ?_
  refine LoopOk.mk (fun m s => ∃ k, k + m = l.length ∧ s = ⟨[(6, dInt k), (0, .dat (.list (l.map Entry'.enc))), (1, dInt c), (5, .row 0)], 1, [(0, .rows 4 1 ((tellTo l c k).map Bool.encB) true)]⟩) l.length (Into.mono (Into.to [0] [(6, dInt (0 : Nat)), (0, .dat (.list (l.map Entry'.enc))), (1, dInt c), (5, .row 0)] [(0, .rows 4 1 ((tellTo l c 0).map Bool.encB) true)] (by repeat (first | exact trivial | refine ⟨.same (congrArg dInt (wrap_up (by omega))), ?_⟩ | refine ⟨.same rfl, ?_⟩ | refine ⟨.any _, ?_⟩)) ⟨⟨rfl, rfl, rfl, by simp [tellTo, Bool.encB]⟩, trivial⟩ rfl rfl) fun s' h => ⟨0, by omega, h⟩) ?_
  · rintro m s ⟨k, hk, rfl⟩
    conv => whnf
    repeat (first | (refine Conf.mk (by kernel_rfl) ?_; conv => whnf) | (refine SeqOk.go ?_; conv => whnf))
    refine ⟨fun h => ?_, fun h => ?_⟩
    · have hk' : k < l.length := by simpa using h
      have htl : k < (tellTo l c k).length := by rw [tellTo_length l c k (by omega)]; exact hk'
      conv => whnf
      repeat (first | (refine Conf.mk (by kernel_rfl) ?_; conv => whnf) | (refine SeqOk.go ?_; conv => whnf))
      refine AtIdx.ofMap hk' rfl ?_
      conv => whnf
      repeat (first | (refine Conf.mk (by kernel_rfl) ?_; conv => whnf) | (refine SeqOk.go ?_; conv => whnf))
      refine .look _ _ (meets_ok _ _) rfl rfl ?_
      conv => whnf
      repeat (first | (refine Conf.mk (by kernel_rfl) ?_; conv => whnf) | (refine SeqOk.go ?_; conv => whnf))
      refine AtIdx.ofMap htl rfl ?_
      conv => whnf
      repeat (first | (refine Conf.mk (by kernel_rfl) ?_; conv => whnf) | (refine SeqOk.go ?_; conv => whnf))
      refine .mk _ (by rw [List.getElem?_map, List.getElem?_eq_getElem htl]; rfl) ?_
      conv => whnf
      repeat (first | (refine Conf.mk (by kernel_rfl) ?_; conv => whnf) | (refine SeqOk.go ?_; conv => whnf))
      refine Into.mono (Into.to [0] [(6, dInt (k + 1 : Nat)), (0, .dat (.list (l.map Entry'.enc))), (1, dInt c), (5, .row 0)] [(0, .rows 4 1 ((tellTo l c (k + 1)).map Bool.encB) true)] (by repeat (first | exact trivial | refine ⟨.same (congrArg dInt (wrap_up (by omega))), ?_⟩ | refine ⟨.same rfl, ?_⟩ | refine ⟨.any _, ?_⟩)) ⟨⟨rfl, rfl, rfl, ?_⟩, trivial⟩ rfl rfl) fun s' h => ⟨m - 1, by omega, k + 1, by omega, h⟩
      rw [tellTo_snoc hk', ← map_encB_set]
    · have hk' : k = l.length := by simp at h; omega
      subst hk'
      conv => whnf
      repeat (first | (refine Conf.mk (by kernel_rfl) ?_; conv => whnf) | (refine SeqOk.go ?_; conv => whnf))
      subst hQ1
      conv => whnf
      refine LoopOk.hide fun Q2 hQ2 => ?_
      refine LoopOk.mk (fun m s => ∃ k, k + m = l.length ∧ s = ⟨[(7, dInt k), (0, .dat (.list (l.map Entry'.enc))), (1, dInt c), (5, .row 0)], 1, [(0, .rows 4 1 ((headB l c k).map Bool.encB) true)]⟩) l.length (Into.mono (Into.to [0] [(7, dInt (0 : Nat)), (0, .dat (.list (l.map Entry'.enc))), (1, dInt c), (5, .row 0)] [(0, .rows 4 1 ((headB l c 0).map Bool.encB) true)] (by repeat (first | exact trivial | refine ⟨.same (congrArg dInt (wrap_up (by omega))), ?_⟩ | refine ⟨.same rfl, ?_⟩ | refine ⟨.any _, ?_⟩)) ⟨⟨rfl, rfl, rfl, by rw [tellTo_all]⟩, trivial⟩ rfl rfl) fun s' h => ⟨0, by omega, h⟩) ?_
      rintro m s ⟨k, hk, rfl⟩
      conv => whnf
      repeat (first | (refine Conf.mk (by kernel_rfl) ?_; conv => whnf) | (refine SeqOk.go ?_; conv => whnf))
      refine ⟨fun h2 => ?_, fun h2 => ?_⟩
      · have hk' : k < l.length := by simpa using h2
        conv => whnf
        repeat (first | (refine Conf.mk (by kernel_rfl) ?_; conv => whnf) | (refine SeqOk.go ?_; conv => whnf))
        refine AtIdx.ofMap hk' rfl ?_
        conv => whnf
        repeat (first | (refine Conf.mk (by kernel_rfl) ?_; conv => whnf) | (refine SeqOk.go ?_; conv => whnf))
        refine .look _ _ (meets_ok _ _) rfl rfl ?_
        conv => whnf
        repeat (first | (refine Conf.mk (by kernel_rfl) ?_; conv => whnf) | (refine SeqOk.go ?_; conv => whnf))
        refine ⟨fun h3 => ?_, fun h3 => ?_⟩
        · conv => whnf
          repeat (first | (refine Conf.mk (by kernel_rfl) ?_; conv => whnf) | (refine SeqOk.go ?_; conv => whnf))
          refine .data _ _ (pastOfB_ok l hr k hk') rfl ?_
          conv => whnf
          repeat (first | (refine Conf.mk (by kernel_rfl) ?_; conv => whnf) | (refine SeqOk.go ?_; conv => whnf))
          have hab : (headB l c k).length = (pastBs l k).length := by rw [headB_length, pastBs, pastB_length]
          have hal : (headB l c k).length = l.length := headB_length l c k
          have hst : headB l c (k + 1) = List.zipWith (fun a b => a && !b) (headB l c k) (pastBs l k) := by
            simp only [headB]
            rw [List.getElem?_eq_getElem hk']
            simp only
            rw [if_pos h3]
          refine LoopOk.hide fun Q3 hQ3 => ?_
          refine LoopOk.mk (fun m' s => ∃ j, j + m' = l.length ∧ s = ⟨[(9, dInt j), (8, .dat (.list ((pastBs l k).map Bool.encB))), (7, dInt k), (0, .dat (.list (l.map Entry'.enc))), (1, dInt c), (5, .row 0)], 1, [(0, .rows 4 1 ((offTo (headB l c k) (pastBs l k) j).map Bool.encB) true)]⟩) l.length (Into.mono (Into.to [0] [(9, dInt (0 : Nat)), (8, .dat (.list ((pastBs l k).map Bool.encB))), (7, dInt k), (0, .dat (.list (l.map Entry'.enc))), (1, dInt c), (5, .row 0)] [(0, .rows 4 1 ((offTo (headB l c k) (pastBs l k) 0).map Bool.encB) true)] (by repeat (first | exact trivial | refine ⟨.same (congrArg dInt (wrap_up (by omega))), ?_⟩ | refine ⟨.same rfl, ?_⟩ | refine ⟨.any _, ?_⟩)) ⟨⟨rfl, rfl, rfl, by simp [offTo]⟩, trivial⟩ rfl rfl) fun s' h => ⟨0, by omega, h⟩) ?_
          rintro m' s ⟨j, hj, rfl⟩
          conv => whnf
          repeat (first | (refine Conf.mk (by kernel_rfl) ?_; conv => whnf) | (refine SeqOk.go ?_; conv => whnf))
          refine ⟨fun h4 => ?_, fun h4 => ?_⟩
          · have hj' : j < l.length := by simpa using h4
            have hjo : j < (offTo (headB l c k) (pastBs l k) j).length := by rw [offTo_length hab (by omega)]; omega
            have hjb : j < (pastBs l k).length := by omega
            have hja : j < (headB l c k).length := by omega
            have hget := offTo_get hab hja
            have hsn := offTo_snoc hab hja
            conv => whnf
            repeat (first | (refine Conf.mk (by kernel_rfl) ?_; conv => whnf) | (refine SeqOk.go ?_; conv => whnf))
            refine AtIdx.ofMap hjo rfl ?_
            conv => whnf
            repeat (first | (refine Conf.mk (by kernel_rfl) ?_; conv => whnf) | (refine SeqOk.go ?_; conv => whnf))
            refine .mk _ (by rw [List.getElem?_map, hget]; rfl) ?_
            conv => whnf
            repeat (first | (refine Conf.mk (by kernel_rfl) ?_; conv => whnf) | (refine SeqOk.go ?_; conv => whnf))
            refine ⟨fun h5 => ?_, fun h5 => ?_⟩
            · conv => whnf
              repeat (first | (refine Conf.mk (by kernel_rfl) ?_; conv => whnf) | (refine SeqOk.go ?_; conv => whnf))
              refine AtIdx.ofMap hjb rfl ?_
              conv => whnf
              repeat (first | (refine Conf.mk (by kernel_rfl) ?_; conv => whnf) | (refine SeqOk.go ?_; conv => whnf))
              refine AtIdx.ofMap hjo rfl ?_
              conv => whnf
              repeat (first | (refine Conf.mk (by kernel_rfl) ?_; conv => whnf) | (refine SeqOk.go ?_; conv => whnf))
              refine .mk _ (by rw [List.getElem?_map, hget]; rfl) ?_
              conv => whnf
              repeat (first | (refine Conf.mk (by kernel_rfl) ?_; conv => whnf) | (refine SeqOk.go ?_; conv => whnf))
              refine Into.mono (Into.to [0] [(9, dInt (j + 1 : Nat)), (8, .dat (.list ((pastBs l k).map Bool.encB))), (7, dInt k), (0, .dat (.list (l.map Entry'.enc))), (1, dInt c), (5, .row 0)] [(0, .rows 4 1 ((offTo (headB l c k) (pastBs l k) (j + 1)).map Bool.encB) true)] (by repeat (first | exact trivial | refine ⟨.same (congrArg dInt (wrap_up (by omega))), ?_⟩ | refine ⟨.same rfl, ?_⟩ | refine ⟨.any _, ?_⟩)) ⟨⟨rfl, rfl, rfl, ?_⟩, trivial⟩ rfl rfl) fun s' h => ⟨m' - 1, by omega, j + 1, by omega, h⟩
              rw [hsn, ← map_encB_set, h5]
              rfl
            · conv => whnf
              repeat (first | (refine Conf.mk (by kernel_rfl) ?_; conv => whnf) | (refine SeqOk.go ?_; conv => whnf))
              refine AtIdx.ofMap hjo rfl ?_
              conv => whnf
              repeat (first | (refine Conf.mk (by kernel_rfl) ?_; conv => whnf) | (refine SeqOk.go ?_; conv => whnf))
              refine .mk _ (by rw [List.getElem?_map, hget]; rfl) ?_
              conv => whnf
              repeat (first | (refine Conf.mk (by kernel_rfl) ?_; conv => whnf) | (refine SeqOk.go ?_; conv => whnf))
              refine Into.mono (Into.to [0] [(9, dInt (j + 1 : Nat)), (8, .dat (.list ((pastBs l k).map Bool.encB))), (7, dInt k), (0, .dat (.list (l.map Entry'.enc))), (1, dInt c), (5, .row 0)] [(0, .rows 4 1 ((offTo (headB l c k) (pastBs l k) (j + 1)).map Bool.encB) true)] (by repeat (first | exact trivial | refine ⟨.same (congrArg dInt (wrap_up (by omega))), ?_⟩ | refine ⟨.same rfl, ?_⟩ | refine ⟨.any _, ?_⟩)) ⟨⟨rfl, rfl, rfl, ?_⟩, trivial⟩ rfl rfl) fun s' h => ⟨m' - 1, by omega, j + 1, by omega, h⟩
              rw [hsn, ← map_encB_set, h5]
              rfl
          · have hj' : j = l.length := by simp at h4; omega
            subst hj'
            conv => whnf
            repeat (first | (refine Conf.mk (by kernel_rfl) ?_; conv => whnf) | (refine SeqOk.go ?_; conv => whnf))
            subst hQ3
            conv => whnf
            refine Into.mono (Into.to [0] [(7, dInt (k + 1 : Nat)), (0, .dat (.list (l.map Entry'.enc))), (1, dInt c), (5, .row 0)] [(0, .rows 4 1 ((headB l c (k + 1)).map Bool.encB) true)] (by repeat (first | exact trivial | refine ⟨.same (congrArg dInt (wrap_up (by omega))), ?_⟩ | refine ⟨.same rfl, ?_⟩ | refine ⟨.any _, ?_⟩)) ⟨⟨rfl, rfl, rfl, ?_⟩, trivial⟩ rfl rfl) fun s' h => ⟨m - 1, by omega, k + 1, by omega, h⟩
            rw [hst, ← offTo_all hab, hal]
        · conv => whnf
          repeat (first | (refine Conf.mk (by kernel_rfl) ?_; conv => whnf) | (refine SeqOk.go ?_; conv => whnf))
          refine Into.mono (Into.to [0] [(7, dInt (k + 1 : Nat)), (0, .dat (.list (l.map Entry'.enc))), (1, dInt c), (5, .row 0)] [(0, .rows 4 1 ((headB l c (k + 1)).map Bool.encB) true)] (by repeat (first | exact trivial | refine ⟨.same (congrArg dInt (wrap_up (by omega))), ?_⟩ | refine ⟨.same rfl, ?_⟩ | refine ⟨.any _, ?_⟩)) ⟨⟨rfl, rfl, rfl, ?_⟩, trivial⟩ rfl rfl) fun s' h => ⟨m - 1, by omega, k + 1, by omega, h⟩
          congr 1
          simp only [headB]
          rw [List.getElem?_eq_getElem hk']
          simp only
          rw [if_neg (by rw [h3]; simp)]
      · have hk' : k = l.length := by simp at h2; omega
        subst hk'
        conv => whnf
        repeat (first | (refine Conf.mk (by kernel_rfl) ?_; conv => whnf) | (refine SeqOk.go ?_; conv => whnf))
        subst hQ2
        conv => whnf
        refine .keep [0] _ _ (rising_ok l hlen (headB l c l.length) (headB_length l c _)) rfl rfl rfl rfl ?_
        conv => whnf
        repeat (first | (refine Conf.mk (by kernel_rfl) ?_; conv => whnf) | (refine SeqOk.go ?_; conv => whnf))
        refine Ret.to ?_
        rw [← rising_heads hr hc]
end Go.Proofs.YtlioojekjnigiafGreat.AM
