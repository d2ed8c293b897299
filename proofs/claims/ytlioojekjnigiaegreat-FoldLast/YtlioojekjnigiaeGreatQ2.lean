/- What is leaned on: part 2. -/
import Derived.Test.YtlioojekjnigiaeGreatQ1
import Derived.ChangeKeysEq
/- Calls of what is told of elsewhere: what is read as data. -/
namespace Go.Proofs.YtlioojekjnigiaeGreat.AM
set_option linter.unusedVariables false
set_option linter.unusedSimpArgs false

theorem mapM_ok {α β : Type} {f : α → Option β} : ∀ {l : List α} {ds : List β}, l.mapM f = some ds → ds.length = l.length ∧ ∀ (j : Nat) (d : β), ds[j]? = some d → ∃ a, l[j]? = some a ∧ f a = some d
  | [], ds, h => by
    simp at h
    subst h
    simp
  | a :: t, ds, h => by
    rw [List.mapM_cons] at h
    cases ha : f a with
    | none => simp [ha] at h
    | some d =>
      cases ht : t.mapM f with
      | none => simp [ha, ht] at h
      | some es =>
        simp [ha, ht] at h
        subst h
        obtain ⟨h1, h2⟩ := mapM_ok ht
        refine ⟨by simp [h1], fun j d' hj => ?_⟩
        match j with
        | 0 =>
          obtain rfl : d = d' := by simpa using hj
          exact ⟨a, rfl, ha⟩
        | j + 1 => exact h2 j d' (by simpa using hj)
/-- All that stands in memory. -/
def full (w : World) : View := fun b o => w.cell? ⟨b, o, none⟩
/-- What rows are known to hold can be read in a view. -/
structure Reads (r : Rho) (A : View) (g : Nat → Entry) (A2 : View) : Prop where
  sub : Sub A A2
  vars : ∀ h T sz cs l, g h = .vars T sz cs l → ∃ b n cap, r h = some ⟨some b, n, cap⟩ ∧ (cs.length = n * sz ∧ n ≤ cap) ∧ ∀ (j : Nat) (a : AVal), cs[j]? = some a → ∃ v, A2 b j = some v ∧ VRel r A v a
  rows : ∀ h T sz es l, g h = .rows T sz es l → (∀ e ∈ es, e.length = sz) ∧ ((r h = some ⟨none, 0, 0⟩ ∧ es = []) ∨ ∃ b cap, r h = some ⟨some b, es.length, cap⟩ ∧ es.length ≤ cap ∧ ∀ (i : Nat) (e : List D), es[i]? = some e → ∀ (j : Nat) (d : D), e[j]? = some d → ∃ v, A2 b (i * sz + j) = some v ∧ Rep A v d)
theorem Core.reads {r : Rho} {A : View} {w : World} {g : Nat → Entry} (hc : Core r A w g) : Reads r A g (full w) :=
  ⟨fun b o v h => hc.view b o v h, fun h T sz cs l hg => let ⟨b, n, cap, h1, q1, q2, h2⟩ := hc.var hg; ⟨b, n, cap, h1, ⟨q1, q2⟩, fun j a ha => (h2 j a ha).2⟩, fun h T sz es l hg => hc.elems hg⟩
theorem reads_none (r : Rho) (A : View) : Reads r A noG A := ⟨Sub.refl A, fun h T sz cs l hg => (by cases hg), fun h T sz es l hg => (by cases hg)⟩

theorem rep_of_cells {A A2 : View} {b off : Nat} {ds : List D} (h : ∀ j d, ds[j]? = some d → ∃ v, A2 b (off + j) = some v ∧ Rep A2 v d) : Rep A2 (.pointer (some ⟨b, off, none⟩)) (.ptr ds) := by
  refine .ptr b off ds (fun j => (A2 b (off + j)).getD undef) (fun j hj => ?_) (fun j d hd => ?_)
  · obtain ⟨v, h1, _⟩ := h j _ (List.getElem?_eq_getElem hj)
    rw [h1]; rfl
  · obtain ⟨v, h1, h2⟩ := h j d hd
    simp only [h1, Option.getD_some]
    exact h2
theorem rep_of_rows {A2 : View} {b off len cap sz : Nat} {a : Option Addr} {es : List (List D)} (hl : len = es.length) (hc : es.length ≤ cap) (hs : ∀ e ∈ es, e.length = sz) (ha : es ≠ [] → a = some ⟨b, off, none⟩) (h : ∀ (i : Nat) (e : List D), es[i]? = some e → ∀ (j : Nat) (d : D), e[j]? = some d → ∃ v, A2 b (off + i * sz + j) = some v ∧ Rep A2 v d) : Rep A2 (.slice a len cap) (.list es) := by
  subst hl
  refine .list a cap sz es (fun i j => (A2 b (off + i * sz + j)).getD undef) hc hs (fun hne => ⟨b, off, ha hne, fun i j hi hj => ?_⟩) (fun i e he j d hd => ?_)
  · have h1 : es[i]? = some es[i] := List.getElem?_eq_getElem hi
    have h2 : j < es[i].length := by rw [hs _ (List.getElem_mem hi)]; exact hj
    obtain ⟨v, k1, _⟩ := h i _ h1 j _ (List.getElem?_eq_getElem h2)
    rw [k1]; rfl
  · obtain ⟨v, h1, h2⟩ := h i e he j d hd
    simp only [h1, Option.getD_some]
    exact h2
theorem toD_ok {r : Rho} {A A2 : View} {g : Nat → Entry} (hR : Reads r A g A2) : ∀ (n : Nat) (a : AVal) (v : Value) (d : D), toD g n a = some d → VRel r A v a → Rep A2 v d
  | 0, a, v, d, h, hv => by cases h
  | n + 1, a, v, d, h, hv => by
    cases a with
    | any => cases h
    | cell => cases h
    | agg => cases h
    | tup => cases h
    | dat d' =>
      simp only [toD, Option.some.injEq] at h
      subst h
      cases hv with | dat h => exact h.mono hR.sub
    | kb b =>
      simp only [toD, Option.some.injEq] at h
      subst h
      cases hv; exact .bool b
    | nil =>
      simp only [toD, Option.some.injEq] at h
      subst h
      cases hv with | nil a ha => exact rep_of_rows (b := 0) (off := 0) (sz := 0) rfl (Nat.le_refl _) (by simp) (fun h => absurd rfl h) (by simp)
    | ptr hh off =>
      simp only [toD] at h
      split at h
      · rename_i T sz cs l hg
        rw [Option.map_eq_some_iff] at h
        obtain ⟨ds, hds, rfl⟩ := h
        obtain ⟨h1, h2⟩ := mapM_ok hds
        cases hv with
        | ptr _ _ b m cap hb =>
          obtain ⟨b', n', cap', e1, _, e2⟩ := hR.vars _ _ _ _ _ hg
          rw [hb] at e1
          simp only [Option.some.injEq, Loc.mk.injEq] at e1
          obtain ⟨rfl, rfl, rfl⟩ := e1
          refine rep_of_cells (A := A) fun j d hd => ?_
          obtain ⟨a, ha, hda⟩ := h2 j d hd
          rw [List.getElem?_drop] at ha
          obtain ⟨u, k1, k2⟩ := e2 _ a ha
          exact ⟨u, k1, toD_ok hR n a u d hda k2⟩
      · cases h
    | eptr hh sz i off =>
      simp only [toD] at h
      split at h
      · rename_i T sz' es l hg
        cases hb : Nat.beq sz sz'
        · rw [hb] at h; cases h
        rw [hb, cond_true, Option.map_eq_some_iff] at h
        obtain rfl := Nat.eq_of_beq_eq_true hb
        obtain ⟨e, he, rfl⟩ := h
        cases hv with
        | eptr _ _ _ _ b m cap hb =>
          obtain ⟨_, ⟨e1, rfl⟩ | ⟨b', cap', e1, e2, e3⟩⟩ := hR.rows _ _ _ _ _ hg
          · simp at he
          rw [hb] at e1
          simp only [Option.some.injEq, Loc.mk.injEq] at e1
          obtain ⟨rfl, rfl, rfl⟩ := e1
          refine rep_of_cells (A := A) fun j d hd => ?_
          rw [List.getElem?_drop] at hd
          obtain ⟨u, k1, k2⟩ := e3 i e he _ d hd
          exact ⟨u, by rw [Nat.add_assoc]; exact k1, k2.mono hR.sub⟩
      · cases h
    | row hh =>
      simp only [toD] at h
      split at h
      · rename_i T sz es l hg
        cases h
        obtain ⟨hs, he⟩ := hR.rows _ _ _ _ _ hg
        cases hv with
        | row _ b m cap hb =>
          rcases he with ⟨e1, rfl⟩ | ⟨b', cap', e1, e2, e3⟩
          · rw [hb] at e1; simp at e1
          rw [hb] at e1
          simp only [Option.some.injEq, Loc.mk.injEq] at e1
          obtain ⟨rfl, rfl, rfl⟩ := e1
          refine rep_of_rows (b := b) (off := 0) rfl e2 hs (fun _ => rfl) fun i e he j d hd => ?_
          obtain ⟨u, k1, k2⟩ := e3 i e he j d hd
          exact ⟨u, by rw [Nat.zero_add]; exact k1, k2.mono hR.sub⟩
        | rowNil _ a ha hb =>
          rcases he with ⟨e1, rfl⟩ | ⟨b', cap', e1, e2, e3⟩
          · exact rep_of_rows (b := 0) (off := 0) (sz := 0) rfl (Nat.le_refl _) (by simp) (fun h => absurd rfl h) (by simp)
          · rw [hb] at e1; simp at e1
      · rename_i T sz cs l hg
        obtain ⟨b', n', cap', e1, ⟨e3, e4⟩, e2⟩ := hR.vars _ _ _ _ _ hg
        cases hbb : Nat.blt 0 sz && Nat.beq (cs.length % sz) 0
        · rw [hbb] at h; cases h
        rw [hbb, cond_true, Option.map_eq_some_iff] at h
        have hpos : 0 < sz := by
          simp only [Bool.and_eq_true, Nat.blt_eq] at hbb
          exact hbb.1
        obtain ⟨ds, hds, rfl⟩ := h
        obtain ⟨h1, h2⟩ := mapM_ok hds
        cases hv with
        | row _ b m cap hb =>
          rw [hb] at e1
          simp only [Option.some.injEq, Loc.mk.injEq] at e1
          obtain ⟨rfl, rfl, rfl⟩ := e1
          have hk : ds.length / sz = m := by rw [h1, e3, Nat.mul_div_cancel _ hpos]
          have hcl : (cutD sz (ds.length / sz) ds).length = m := by simp [cutD, hk]
          have hget : ∀ (i : Nat) (e : List D), (cutD sz (ds.length / sz) ds)[i]? = some e → i < m ∧ e = (ds.drop (i * sz)).take sz := fun i e he => by
            simp only [cutD, hk, List.getElem?_map, Option.map_eq_some_iff] at he
            obtain ⟨x, hx, rfl⟩ := he
            obtain ⟨hlt, hx⟩ := List.getElem?_eq_some_iff.1 hx
            simp only [List.getElem_range] at hx
            subst hx
            exact ⟨by simpa using hlt, rfl⟩
          refine rep_of_rows (b := b) (off := 0) (sz := sz) hcl.symm (by omega) (fun e he => ?_) (fun _ => rfl) fun i e he j d hd => ?_
          · obtain ⟨i, hi⟩ := List.getElem?_of_mem he
            obtain ⟨hlt, rfl⟩ := hget i e hi
            have h5 : (i + 1) * sz ≤ m * sz := Nat.mul_le_mul_right _ hlt
            rw [Nat.add_mul] at h5
            rw [List.length_take, List.length_drop, h1, e3]
            omega
          · obtain ⟨hlt, rfl⟩ := hget i e he
            rw [List.getElem?_take] at hd
            split at hd
            · rw [List.getElem?_drop] at hd
              obtain ⟨a, ha, hda⟩ := h2 _ d hd
              obtain ⟨u, k1, k2⟩ := e2 _ a ha
              exact ⟨u, by rw [Nat.zero_add]; exact k1, toD_ok hR n a u d hda k2⟩
            · cases hd
        | rowNil _ a ha hb => rw [hb] at e1; simp at e1
      · cases h
    | sub hh sz off len =>
      simp only [toD] at h
      split at h
      · rename_i T sz' es l hg
        cases hb : Nat.beq sz sz'
        · rw [hb] at h; cases h
        rw [hb, cond_true] at h
        cases h
        obtain rfl := Nat.eq_of_beq_eq_true hb
        obtain ⟨hs, he⟩ := hR.rows _ _ _ _ _ hg
        cases hv with
        | sub _ _ _ _ b m cap a hb hl hcp ha =>
          rcases he with ⟨e1, rfl⟩ | ⟨b', cap', e1, e2, e3⟩
          · rw [hb] at e1; simp at e1
          rw [hb] at e1
          simp only [Option.some.injEq, Loc.mk.injEq] at e1
          obtain ⟨rfl, rfl, rfl⟩ := e1
          have hlen : ((es.drop off).take len).length = len := by simp; omega
          refine rep_of_rows (b := b) (off := off * sz) (sz := sz) hlen.symm (by rw [hlen]; omega) (fun e he => hs e (List.mem_of_mem_drop (List.mem_of_mem_take he))) (fun hne => ha (by rw [← hlen]; exact List.length_pos_iff.2 hne)) fun i e he j d hd => ?_
          rw [List.getElem?_take] at he
          split at he
          · rw [List.getElem?_drop] at he
            obtain ⟨u, k1, k2⟩ := e3 _ e he j d hd
            exact ⟨u, by rw [← Nat.add_mul]; exact k1, k2.mono hR.sub⟩
          · cases he
        | subNil _ _ a hb =>
          have : ((es.drop 0).take 0) = [] := by simp
          rw [this]
          exact rep_of_rows (b := 0) (off := 0) (sz := 0) rfl (Nat.le_refl _) (by simp) (fun h => absurd rfl h) (by simp)
      · cases h
    | fn f xs ys =>
      simp only [toD] at h
      split at h
      · rename_i ds es h1 h2
        cases h
        cases hv with
        | fn _ vs us _ _ hvs hus hx hy =>
          obtain ⟨l1, m1⟩ := mapM_ok h1
          obtain ⟨l2, m2⟩ := mapM_ok h2
          refine .fn f vs us ds es (by rw [hvs, l1]) (by rw [hus, l2]) (fun j d hd => ?_) (fun j d hd => ?_)
          · obtain ⟨a, ha, hda⟩ := m1 j d hd
            exact toD_ok hR n a _ d hda (hx j a ha)
          · obtain ⟨a, ha, hda⟩ := m2 j d hd
            exact toD_ok hR n a _ d hda (hy j a ha)
      · cases h
/-- Values, one by one. -/
def VList (r : Rho) (A : View) (vs : Array Value) (xs : List AVal) : Prop := vs.size = xs.length ∧ ∀ j a, xs[j]? = some a → VRel r A (vs.getD j undef) a
theorem toL_ok {r r2 : Rho} {A A2 : View} {g : Nat → Entry} (hR : Reads r A g A2) (n : Nat) : ∀ {xs ys : List AVal}, toL g n xs = some ys → ys.length = xs.length ∧ ∀ (j : Nat) (b : AVal), ys[j]? = some b → ∃ a, xs[j]? = some a ∧ ∀ v, VRel r A v a → VRel r2 A2 v b
  | [], ys, h => by
    simp only [toL, Option.some.injEq] at h
    subst h; simp
  | a :: t, ys, h => by
    simp only [toL] at h
    split at h
    · rename_i d ds h1 h2
      cases h
      obtain ⟨k1, k2⟩ := toL_ok (r2 := r2) hR n h2
      refine ⟨by simp [k1], fun j b hj => ?_⟩
      match j with
      | 0 =>
        obtain rfl : AVal.dat d = b := by simpa using hj
        exact ⟨a, rfl, fun v hv => .dat (toD_ok hR n a v d h1 hv)⟩
      | j + 1 => exact k2 j b (by simpa using hj)
    · cases h
theorem toL_agg {r r2 : Rho} {A A2 : View} {g : Nat → Entry} (hR : Reads r A g A2) (n : Nat) {xs ys : List AVal} (h : toL g n xs = some ys) {v : Value} (hv : VRel r A v (.agg xs)) : VRel r2 A2 v (.agg ys) := by
  obtain ⟨h1, h2⟩ := toL_ok (r2 := r2) hR n h
  cases hv with
  | agg cs _ hn hx => exact .agg cs ys (by rw [hn, h1]) fun j b hb => let ⟨a, ha, hab⟩ := h2 j b hb; hab _ (hx j a ha)
theorem pureL_ok {r r2 : Rho} {A A2 : View} {g : Nat → Entry} (hR : Reads r A g A2) (n : Nat) : ∀ {xs ys : List AVal}, pureA.pureL g n xs = some ys → ys.length = xs.length ∧ ∀ (j : Nat) (b : AVal), ys[j]? = some b → ∃ a, xs[j]? = some a ∧ ∀ v, VRel r A v a → VRel r2 A2 v b
  | [], ys, h => by
    simp only [pureA.pureL, Option.some.injEq] at h
    subst h; simp
  | a :: t, ys, h => by
    simp only [pureA.pureL] at h
    split at h
    · rename_i d ds h1 h2
      cases h
      obtain ⟨k1, k2⟩ := pureL_ok (r2 := r2) hR n h2
      refine ⟨by simp [k1], fun j b hj => ?_⟩
      match j with
      | 0 =>
        obtain rfl : d = b := by simpa using hj
        refine ⟨a, rfl, fun v hv => ?_⟩
        split at h1
        · rw [Option.map_eq_some_iff] at h1
          obtain ⟨ys, hys, rfl⟩ := h1
          exact toL_agg hR n hys hv
        · rw [Option.map_eq_some_iff] at h1
          obtain ⟨d', hd', rfl⟩ := h1
          exact .dat (toD_ok hR n _ v d' hd' hv)
      | j + 1 => exact k2 j b (by simpa using hj)
    · cases h
theorem pureA_ok {r r2 : Rho} {A A2 : View} {g : Nat → Entry} (hR : Reads r A g A2) (n : Nat) {a b : AVal} (h : pureA g n a = some b) {v : Value} (hv : VRel r A v a) : VRel r2 A2 v b := by
  unfold pureA at h
  split at h
  · cases h; exact .any v
  · rw [Option.map_eq_some_iff] at h
    obtain ⟨ys, hys, rfl⟩ := h
    exact toL_agg hR n hys hv
  · split at h
    · rename_i vs us h1 h2
      cases h
      obtain ⟨p1, p2⟩ := pureL_ok (r2 := r2) hR n h1
      obtain ⟨q1, q2⟩ := toL_ok (r2 := r2) hR n h2
      cases hv with
      | fn _ _ _ _ _ hvs hus hx hy => exact .fn _ _ _ _ _ (by rw [hvs, p1]) (by rw [hus, q1]) (fun j b hb => let ⟨a, ha, hab⟩ := p2 j b hb; hab _ (hx j a ha)) (fun j b hb => let ⟨a, ha, hab⟩ := q2 j b hb; hab _ (hy j a ha))
    · cases h
  · cases h
  · rw [Option.map_eq_some_iff] at h
    obtain ⟨d', hd', rfl⟩ := h
    exact .dat (toD_ok hR n _ v d' hd' hv)
theorem pureAll_ok {r r2 : Rho} {A A2 : View} {g : Nat → Entry} (hR : Reads r A g A2) (n : Nat) : ∀ {xs ys : List AVal}, pureAll g n xs = some ys → ys.length = xs.length ∧ ∀ (j : Nat) (b : AVal), ys[j]? = some b → ∃ a, xs[j]? = some a ∧ ∀ v, VRel r A v a → VRel r2 A2 v b
  | [], ys, h => by
    simp only [pureAll, Option.some.injEq] at h
    subst h; simp
  | a :: t, ys, h => by
    simp only [pureAll] at h
    split at h
    · rename_i d ds h1 h2
      cases h
      obtain ⟨k1, k2⟩ := pureAll_ok (r2 := r2) hR n h2
      refine ⟨by simp [k1], fun j b hj => ?_⟩
      match j with
      | 0 =>
        obtain rfl : d = b := by simpa using hj
        exact ⟨a, rfl, fun v hv => pureA_ok hR n h1 hv⟩
      | j + 1 => exact k2 j b (by simpa using hj)
    · cases h
theorem VList.pure {r r2 : Rho} {A A2 : View} {g : Nat → Entry} (hR : Reads r A g A2) (n : Nat) {xs ys : List AVal} (h : pureAll g n xs = some ys) {vs : Array Value} (hv : VList r A vs xs) : VList r2 A2 vs ys := by
  obtain ⟨h1, h2⟩ := pureAll_ok (r2 := r2) hR n h
  exact ⟨by rw [hv.1, h1], fun j b hb => let ⟨a, ha, hab⟩ := h2 j b hb; hab _ (hv.2 j a ha)⟩
end Go.Proofs.YtlioojekjnigiaeGreat.AM
/- Calls of what is told of elsewhere. -/
namespace Go.Proofs.YtlioojekjnigiaeGreat.AM
set_option linter.unusedVariables false
set_option linter.unusedSimpArgs false

theorem mapM_same {α β : Type} {f f' : α → Option β} : ∀ {l : List α}, (∀ a ∈ l, f a = f' a) → l.mapM f = l.mapM f'
  | [], _ => rfl
  | a :: t, h => by
    rw [List.mapM_cons, List.mapM_cons, h a (by simp), mapM_same (l := t) fun x hx => h x (by simp [hx])]
theorem toD_agree {g g2 : Nat → Entry} : ∀ (n : Nat) (a : AVal), (∀ h, h ∈ reach g n a → g2 h = g h) → toD g2 n a = toD g n a
  | 0, a, h => rfl
  | n + 1, a, h => by
    cases a with
    | ptr hh off =>
      have e := h hh (by simp [reach])
      simp only [toD, e]
      cases hg : g hh with
      | vars T sz cs l =>
        simp only
        rw [mapM_same fun x hx => toD_agree n x fun y hy => h y ?_]
        simp only [reach, hg, List.mem_cons, List.mem_flatMap]
        exact .inr ⟨x, hx, hy⟩
      | _ => rfl
    | eptr hh sz i off => simp only [toD, h hh (by simp [reach])]
    | row hh =>
      have e := h hh (by simp [reach])
      simp only [toD, e]
      cases hg : g hh with
      | vars T sz cs l =>
        simp only
        rw [mapM_same fun x hx => toD_agree n x fun y hy => h y ?_]
        simp only [reach, hg, List.mem_cons, List.mem_flatMap]
        exact .inr ⟨x, hx, hy⟩
      | _ => rfl
    | sub hh sz off len => simp only [toD, h hh (by simp [reach])]
    | fn f xs ys =>
      simp only [toD]
      rw [mapM_same fun x hx => toD_agree n x fun y hy => h y ?_, mapM_same fun x hx => toD_agree n x fun y hy => h y ?_]
      · simp only [reach, List.mem_append, List.mem_flatMap]; exact .inr ⟨x, hx, hy⟩
      · simp only [reach, List.mem_append, List.mem_flatMap]; exact .inl ⟨x, hx, hy⟩
    | _ => rfl
theorem toL_agree {g g2 : Nat → Entry} (n : Nat) : ∀ (xs : List AVal), (∀ h, h ∈ xs.flatMap (reach g n) → g2 h = g h) → toL g2 n xs = toL g n xs
  | [], _ => rfl
  | a :: t, h => by
    simp only [toL]
    rw [toD_agree n a fun y hy => h y (by simp [hy]), toL_agree n t fun y hy => h y (by simp only [List.flatMap_cons, List.mem_append]; exact .inr hy)]
theorem reach_succ_agg {g : Nat → Entry} {n : Nat} {xs : List AVal} {h : Nat} (hh : h ∈ xs.flatMap (reach g n)) : h ∈ reach g (n + 1) (.agg xs) := hh
/-- What is looked at with less fuel is looked at with more. -/
theorem reach_mono {g : Nat → Entry} : ∀ (n : Nat) (a : AVal) (h : Nat), h ∈ reach g n a → h ∈ reach g (n + 1) a
  | 0, a, h, hh => by cases hh
  | n + 1, a, h, hh => by
    cases a with
    | ptr p off =>
      simp only [reach, List.mem_cons] at hh ⊢
      refine hh.imp id fun hh => ?_
      cases hg : g p with
      | vars T sz cs l =>
        rw [hg] at hh
        simp only [List.mem_flatMap] at hh ⊢
        obtain ⟨x, hx, hy⟩ := hh
        exact ⟨x, hx, reach_mono n x h hy⟩
      | _ => rw [hg] at hh; cases hh
    | row p =>
      simp only [reach, List.mem_cons] at hh ⊢
      refine hh.imp id fun hh => ?_
      cases hg : g p with
      | vars T sz cs l =>
        rw [hg] at hh
        simp only [List.mem_flatMap] at hh ⊢
        obtain ⟨x, hx, hy⟩ := hh
        exact ⟨x, hx, reach_mono n x h hy⟩
      | _ => rw [hg] at hh; cases hh
    | agg xs =>
      simp only [reach, List.mem_flatMap] at hh ⊢
      obtain ⟨x, hx, hy⟩ := hh
      exact ⟨x, hx, reach_mono n x h hy⟩
    | tup xs =>
      simp only [reach, List.mem_flatMap] at hh ⊢
      obtain ⟨x, hx, hy⟩ := hh
      exact ⟨x, hx, reach_mono n x h hy⟩
    | fn f xs ys =>
      simp only [reach, List.mem_append, List.mem_flatMap] at hh ⊢
      rcases hh with ⟨x, hx, hy⟩ | ⟨x, hx, hy⟩
      · exact .inl ⟨x, hx, reach_mono n x h hy⟩
      · exact .inr ⟨x, hx, reach_mono n x h hy⟩
    | _ => exact hh
theorem pureL_agree {g g2 : Nat → Entry} (n : Nat) : ∀ (xs : List AVal), (∀ h, h ∈ xs.flatMap (reach g (n + 1)) → g2 h = g h) → pureA.pureL g2 n xs = pureA.pureL g n xs
  | [], _ => rfl
  | a :: t, h => by
    have hd : toD g2 n a = toD g n a := toD_agree n a fun y hy => h y (by simp only [List.flatMap_cons, List.mem_append]; exact .inl (reach_mono n a y hy))
    have ht := pureL_agree n t fun y hy => h y (by simp only [List.flatMap_cons, List.mem_append]; exact .inr hy)
    simp only [pureA.pureL, ht]
    cases a with
    | agg xs =>
      have hl : toL g2 n xs = toL g n xs := toL_agree n xs fun y hy => h y (by simp only [List.flatMap_cons, List.mem_append]; exact .inl hy)
      simp only [hl]
    | _ => simp only [hd]
theorem pureA_agree {g g2 : Nat → Entry} (n : Nat) (a : AVal) (h : ∀ x, x ∈ reach g (n + 2) a → g2 x = g x) : pureA g2 n a = pureA g n a := by
  have hd : toD g2 n a = toD g n a := toD_agree n a fun y hy => h y (reach_mono _ a y (reach_mono n a y hy))
  cases a with
  | agg xs =>
    have hl : toL g2 n xs = toL g n xs := toL_agree n xs fun y hy => h y (reach_mono _ _ y hy)
    simp only [pureA, hl]
  | fn f xs ys =>
    have h1 : pureA.pureL g2 n xs = pureA.pureL g n xs := pureL_agree n xs fun y hy => h y (by simp only [reach, List.mem_append]; exact .inl hy)
    have h2 : toL g2 n ys = toL g n ys := toL_agree n ys fun y hy => h y (reach_mono _ _ y (by simp only [reach, List.mem_append]; exact .inr hy))
    simp only [pureA, h1, h2]
  | _ => first | rfl | simp only [pureA, hd]
theorem pureAll_agree {g g2 : Nat → Entry} (n : Nat) : ∀ (xs : List AVal), (∀ h, h ∈ xs.flatMap (reach g (n + 2)) → g2 h = g h) → pureAll g2 n xs = pureAll g n xs
  | [], _ => rfl
  | a :: t, h => by
    simp only [pureAll]
    rw [pureA_agree n a fun y hy => h y (by simp only [List.flatMap_cons, List.mem_append]; exact .inl hy), pureAll_agree n t fun y hy => h y (by simp only [List.flatMap_cons, List.mem_append]; exact .inr hy)]

def sc1 : AVal → Bool
  | .dat (.bool _) | .dat (.int _ _) | .dat (.str _) | .kb _ => true
  | _ => false
theorem sc1_rel {r r2 : Rho} {A A2 : View} {v : Value} {a : AVal} (h : sc1 a = true) (hv : VRel r A v a) : VRel r2 A2 v a := by
  cases a with
  | dat d => cases d <;> simp only [sc1, Bool.false_eq_true] at h <;> (cases hv with | dat hv => cases hv; exact .dat (by constructor))
  | kb b => cases hv; exact .kb b
  | _ => cases h
theorem scalars_get : ∀ {xs : List AVal}, AVal.scalar.scalars xs = true → ∀ (j : Nat) (a : AVal), xs[j]? = some a → sc1 a = true ∨ ∃ ys, a = .agg ys ∧ ∀ y ∈ ys, sc1 y = true
  | [], _, j, a, h => by simp at h
  | x :: t, hs, j, a, h => by
    simp only [AVal.scalar.scalars, Bool.and_eq_true] at hs
    match j with
    | 0 =>
      obtain rfl : x = a := by simpa using h
      cases x with
      | agg ys =>
        refine .inr ⟨ys, rfl, fun y hy => ?_⟩
        have := List.all_eq_true.1 hs.1 y hy
        cases y with
        | dat d => cases d <;> first | rfl | simp at this
        | kb b => rfl
        | _ => simp at this
      | dat d =>
        left
        have := hs.1
        cases d <;> first | rfl | simp at this
      | kb b => exact .inl rfl
      | _ => exact absurd hs.1 (by simp)
    | j + 1 => exact scalars_get hs.2 j a (by simpa using h)
theorem scalar_rel {r r2 : Rho} {A A2 : View} {v : Value} {a : AVal} (h : a.scalar = true) (hv : VRel r A v a) : VRel r2 A2 v a := by
  have sub : ∀ {v : Value} {ys : List AVal}, (∀ y ∈ ys, sc1 y = true) → VRel r A v (.agg ys) → VRel r2 A2 v (.agg ys) := fun hs hv => by
    cases hv with
    | agg cs _ hn hx => exact .agg cs _ hn fun j a ha => sc1_rel (hs a (List.mem_of_getElem? ha)) (hx j a ha)
  have elem : ∀ {v : Value} {b : AVal}, (sc1 b = true ∨ ∃ ys, b = .agg ys ∧ ∀ y ∈ ys, sc1 y = true) → VRel r A v b → VRel r2 A2 v b := fun hb hv => by
    rcases hb with hb | ⟨ys, rfl, hy⟩
    · exact sc1_rel hb hv
    · exact sub hy hv
  cases a with
  | agg xs =>
    cases hv with
    | agg cs _ hn hx => exact .agg cs _ hn fun j a ha => elem (scalars_get h j a ha) (hx j a ha)
  | tup xs =>
    cases hv with
    | tup cs _ hn hx => exact .tup cs _ hn fun j a ha => elem (scalars_get h j a ha) (hx j a ha)
  | dat d => cases d <;> first | exact sc1_rel rfl hv | cases h
  | kb b => exact sc1_rel rfl hv
  | _ => cases h

section
variable {P : Program} {tab : Tab} {lk : Operand → AVal} {next : Nat} {g : Nat → Entry} {k : Kont} {o : Oper}

theorem Does.call {o : Oper} {act : Act} {w : World} {R : Value → World → Prop} {f : FuncId} {args : Array Value} (h : (execOp act.eval o).run P w = .ok (.enter f args) w) (hc : Calls P f args w fun e w' => ∃ v, e = .returned v ∧ R v w') : Does P o act w R := fun K Q hK => by
  unfold Oper.wp
  rw [h, Oper.upon_enter]
  refine Calls.mono hc fun e w' he => ?_
  obtain ⟨v, rfl, hv⟩ := he
  exact hK v w' hv
theorem getD_append {a b : Array Value} {j : Nat} : (a ++ b).getD j undef = if j < a.size then a.getD j undef else b.getD (j - a.size) undef := by
  by_cases h : j < a.size
  · simp [h, Array.getElem?_append]
  · simp [h, Array.getElem?_append]
theorem VList.append {r : Rho} {A : View} {vs us : Array Value} {xs ys : List AVal} (h : VList r A vs xs) (k : VList r A us ys) : VList r A (vs ++ us) (xs ++ ys) := by
  refine ⟨by simp [h.1, k.1], fun j a ha => ?_⟩
  rw [List.getElem?_append] at ha
  rw [getD_append, h.1]
  split at ha
  · rename_i hj; rw [if_pos hj]; exact h.2 j a ha
  · rename_i hj; rw [if_neg hj]; exact k.2 _ a ha
theorem VList.map {r : Rho} {A : View} {act : Act} {xs : Array Operand} (h : ∀ x ∈ xs, VRel r A (act.eval x) (lk x)) : VList r A (xs.map act.eval) (xs.toList.map lk) := by
  refine ⟨by simp, fun j a ha => ?_⟩
  simp only [List.getElem?_map, Option.map_eq_some_iff] at ha
  obtain ⟨x, hx, rfl⟩ := ha
  have hx' : xs[j]? = some x := by simpa using hx
  have hlt : j < xs.size := (Array.getElem?_eq_some_iff.1 hx').1
  have he : xs[j] = x := by simpa [hlt] using hx'
  have : (xs.map act.eval).getD j undef = act.eval x := by simp [hlt, he]
  rw [this]
  exact h x (Array.mem_of_getElem? hx')
/-- A function value is called. -/
theorem call_run {c : Call} {f : Operand} (hcl : c.callee = .value f) (ho : o.op = .call c) {id : FuncId} {first caps : List AVal} (hf : fnOf (lk f) = some (id, first, caps)) (hcall : callable P id = true) {r : Rho} {A : View} (w : World) {act : Act} (hv : ∀ x, x ∈ o.op.operands → VRel r A (act.eval x) (lk x)) :
    ∃ vs, (execOp act.eval o).run P w = .ok (.enter id vs) w ∧ VList r A vs (first ++ c.args.toList.map lk ++ caps) := by
  have hvf := hv f (by simp [ho, Op.operands, Call.operands, hcl])
  have key : ∀ vs us, act.eval f = .func (.func id) vs us → VList r A vs first → VList r A us caps → ∃ vs, (execOp act.eval o).run P w = .ok (.enter id vs) w ∧ VList r A vs (first ++ c.args.toList.map lk ++ caps) := fun vs us hvv h1 h2 => by
    refine ⟨vs ++ c.args.map act.eval ++ us, ?_, VList.append (VList.append h1 (VList.map fun x hx => hv x ?_)) h2⟩
    · unfold callable at hcall
      cases hfn : P.funcs[id]? with
      | none => rw [hfn] at hcall; cases hcall
      | some fn =>
        rw [hfn] at hcall
        simp only [Bool.and_eq_true] at hcall
        have hn : ¬ fn.name = "runtime.NumGoroutine" := by simpa using hcall.1
        have hbo : ¬ fn.body = none := fun e => by rw [e] at hcall; cases hcall.2
        simp [execOp, ho, resolve, hcl, hvv, Deferred.ofValue, invoke, callFunc, hfn, hn, hbo]
    · simp [ho, Op.operands, Call.operands, hx]
  have dats : ∀ {vs : Array Value} {ds : List D}, vs.size = ds.length → (∀ j d, ds[j]? = some d → Rep A (vs.getD j undef) d) → VList r A vs (ds.map .dat) := fun {vs ds} h1 h2 => by
    refine ⟨by simp [h1], fun j a ha => ?_⟩
    rw [List.getElem?_map, Option.map_eq_some_iff] at ha
    obtain ⟨d, hd, rfl⟩ := ha
    exact .dat (h2 j d hd)
  generalize hvv : act.eval f = v at hvf
  unfold fnOf at hf
  split at hf
  · rename_i id' first' caps' hl
    simp only [Option.some.injEq, Prod.mk.injEq] at hf
    obtain ⟨rfl, rfl, rfl⟩ := hf
    rw [hl] at hvf
    cases hvf with
    | fn _ vs us _ _ h1 h2 h3 h4 => exact key vs us hvv ⟨h1, h3⟩ ⟨h2, h4⟩
  · rename_i id' ds es hl
    simp only [Option.some.injEq, Prod.mk.injEq] at hf
    obtain ⟨rfl, rfl, rfl⟩ := hf
    rw [hl] at hvf
    cases hvf with
    | dat hr =>
      cases hr with
      | fn _ vs us _ _ h1 h2 h3 h4 => exact key vs us hvv (dats h1 h3) (dats h2 h4)
  · cases hf
end
end Go.Proofs.YtlioojekjnigiaeGreat.AM
/- Calls: what is known behind them. -/
namespace Go.Proofs.YtlioojekjnigiaeGreat.AM
set_option linter.unusedVariables false
set_option linter.unusedSimpArgs false

theorem renL_get (f : Nat → Nat) : ∀ (xs : List AVal) (j : Nat), (AVal.ren.renL f xs)[j]? = (xs[j]?).map (AVal.ren f)
  | [], j => by simp [AVal.ren.renL]
  | a :: t, 0 => by simp [AVal.ren.renL]
  | a :: t, j + 1 => by simp [AVal.ren.renL, renL_get f t j]
theorem renL_length (f : Nat → Nat) : ∀ (xs : List AVal), (AVal.ren.renL f xs).length = xs.length
  | [] => rfl
  | a :: t => by simp [AVal.ren.renL, renL_length f t]
theorem ren_one (f : Nat → Nat) (a : AVal) : (a.ren f).one = a.one := by cases a <;> rfl
/-- Handles are called otherwise. -/
theorem VRel.ren {r1 r2 : Rho} {A : View} {f : Nat → Nat} (hr : ∀ j l, r1 j = some l → r2 (f j) = some l) {v : Value} {a : AVal} (h : VRel r1 A v a) : VRel r2 A v (a.ren f) := by
  induction h with
  | any v => exact .any v
  | cell v h => exact .cell v h
  | dat h => exact .dat h
  | kb b => exact .kb b
  | nil a h => exact .nil a h
  | agg cs xs hn _ ih =>
    refine .agg cs _ (by rw [hn, renL_length]) fun j a ha => ?_
    rw [renL_get, Option.map_eq_some_iff] at ha
    obtain ⟨b, hb, rfl⟩ := ha
    exact ih j b hb
  | tup cs xs hn _ ih =>
    refine .tup cs _ (by rw [hn, renL_length]) fun j a ha => ?_
    rw [renL_get, Option.map_eq_some_iff] at ha
    obtain ⟨b, hb, rfl⟩ := ha
    exact ih j b hb
  | ptr h off b n cap hb => exact .ptr _ off b n cap (hr _ _ hb)
  | eptr h sz i off b n cap hb => exact .eptr _ sz i off b n cap (hr _ _ hb)
  | row h b n cap hb => exact .row _ b n cap (hr _ _ hb)
  | rowNil h a ha hb => exact .rowNil _ a ha (hr _ _ hb)
  | sub h sz off len b n cap a hb hl hc ha => exact .sub _ sz off len b n cap a (hr _ _ hb) hl hc ha
  | subNil h sz a hb => exact .subNil _ sz a (hr _ _ hb)
  | fn g vs us xs ys hv hu _ _ ih1 ih2 =>
    refine .fn g vs us _ _ (by rw [hv, renL_length]) (by rw [hu, renL_length]) (fun j a ha => ?_) (fun j a ha => ?_)
    · rw [renL_get, Option.map_eq_some_iff] at ha
      obtain ⟨b, hb, rfl⟩ := ha
      exact ih1 j b hb
    · rw [renL_get, Option.map_eq_some_iff] at ha
      obtain ⟨b, hb, rfl⟩ := ha
      exact ih2 j b hb
theorem hbL_get {n : Nat} : ∀ {xs : List AVal}, AVal.hb.hbL n xs = true → ∀ (j : Nat) (a : AVal), xs[j]? = some a → a.hb n = true
  | [], _, j, a, h => by simp at h
  | x :: t, hs, j, a, h => by
    simp only [AVal.hb.hbL, Bool.and_eq_true] at hs
    match j with
    | 0 =>
      obtain rfl : x = a := by simpa using h
      exact hs.1
    | j + 1 => exact hbL_get hs.2 j a (by simpa using h)
theorem hblt {h n : Nat} (hb : Nat.blt h n = true) : h < n := by simpa [Nat.blt_eq] using hb
theorem VRel.unren' {r1 r2 : Rho} {A : View} {f : Nat → Nat} {n : Nat} (hr : ∀ j l, j < n → r2 (f j) = some l → r1 j = some l) {v : Value} {b : AVal} (h : VRel r2 A v b) : ∀ a : AVal, b = a.ren f → a.hb n = true → VRel r1 A v a := by
  have list : ∀ {xs ys : List AVal} {vs : Nat → Value}, ys = AVal.ren.renL f xs → AVal.hb.hbL n xs = true → (∀ j a, ys[j]? = some a → ∀ x : AVal, a = x.ren f → x.hb n = true → VRel r1 A (vs j) x) → ∀ j a, xs[j]? = some a → VRel r1 A (vs j) a := fun {xs ys vs} e hb ih j a ha => by
    subst e
    exact ih j (a.ren f) (by rw [renL_get, ha]; rfl) a rfl (hbL_get hb j a ha)
  induction h with
  | any v => intro a e hb; cases a <;> simp only [AVal.ren, reduceCtorEq] at e; exact .any v
  | cell v h => intro a e hb; cases a <;> simp only [AVal.ren, reduceCtorEq] at e; exact .cell v h
  | dat h => intro a e hb; cases a <;> simp only [AVal.ren, reduceCtorEq, AVal.dat.injEq] at e; subst e; exact .dat h
  | kb b => intro a e hb; cases a <;> simp only [AVal.ren, reduceCtorEq, AVal.kb.injEq] at e; subst e; exact .kb _
  | nil a h => intro a e hb; cases a <;> simp only [AVal.ren, reduceCtorEq] at e; exact .nil _ h
  | agg cs xs hn _ ih =>
    intro a e hb
    cases a <;> simp only [AVal.ren, reduceCtorEq, AVal.agg.injEq] at e
    exact .agg cs _ (by rw [hn, e, renL_length]) (list e hb ih)
  | tup cs xs hn _ ih =>
    intro a e hb
    cases a <;> simp only [AVal.ren, reduceCtorEq, AVal.tup.injEq] at e
    exact .tup cs _ (by rw [hn, e, renL_length]) (list e hb ih)
  | ptr h off b m cap hbb =>
    intro a e hb
    cases a <;> simp only [AVal.ren, reduceCtorEq, AVal.ptr.injEq] at e
    obtain ⟨rfl, rfl⟩ := e
    exact .ptr _ _ b m cap (hr _ _ (hblt hb) hbb)
  | eptr h sz i off b m cap hbb =>
    intro a e hb
    cases a <;> simp only [AVal.ren, reduceCtorEq, AVal.eptr.injEq] at e
    obtain ⟨rfl, rfl, rfl, rfl⟩ := e
    exact .eptr _ _ _ _ b m cap (hr _ _ (hblt hb) hbb)
  | row h b m cap hbb =>
    intro a e hb
    cases a <;> simp only [AVal.ren, reduceCtorEq, AVal.row.injEq] at e
    subst e
    exact .row _ b m cap (hr _ _ (hblt hb) hbb)
  | rowNil h a ha hbb =>
    intro a e hb
    cases a <;> simp only [AVal.ren, reduceCtorEq, AVal.row.injEq] at e
    subst e
    exact .rowNil _ _ ha (hr _ _ (hblt hb) hbb)
  | sub h sz off len b m cap a hbb hl hc ha =>
    intro a e hb
    cases a <;> simp only [AVal.ren, reduceCtorEq, AVal.sub.injEq] at e
    obtain ⟨rfl, rfl, rfl, rfl⟩ := e
    exact .sub _ _ _ _ b m cap _ (hr _ _ (hblt hb) hbb) hl hc ha
  | subNil h sz a hbb =>
    intro a e hb
    cases a <;> simp only [AVal.ren, reduceCtorEq, AVal.sub.injEq] at e
    obtain ⟨rfl, rfl, rfl, rfl⟩ := e
    exact .subNil _ _ _ (hr _ _ (hblt hb) hbb)
  | fn g vs us xs ys hv hu _ _ ih1 ih2 =>
    intro a e hb
    cases a <;> simp only [AVal.ren, reduceCtorEq, AVal.fn.injEq] at e
    obtain ⟨rfl, e1, e2⟩ := e
    simp only [AVal.hb, Bool.and_eq_true] at hb
    exact .fn g vs us _ _ (by rw [hv, e1, renL_length]) (by rw [hu, e2, renL_length]) (list e1 hb.1 ih1) (list e2 hb.2 ih2)
theorem VRel.unren {r1 r2 : Rho} {A : View} {f : Nat → Nat} {n : Nat} (hr : ∀ j l, j < n → r2 (f j) = some l → r1 j = some l) (a : AVal) {v : Value} (hb : a.hb n = true) (h : VRel r2 A v (a.ren f)) : VRel r1 A v a := VRel.unren' hr h a rfl hb
theorem EntOk.ren {r1 r2 : Rho} {A : View} {w : World} {f : Nat → Nat} (hr : ∀ j l, r1 j = some l → r2 (f j) = some l) {j : Nat} {e : Entry} (he : EntOk r1 A w j e) : EntOk r2 A w (f j) (e.ren f) := by
  match e, he with
  | .dead, _ => trivial
  | .vars T sz cs true, ⟨b, n, cap, cells, h1, h2, h3, h4, h5, h6, h7, h8⟩ =>
    refine ⟨b, n, cap, cells, hr _ _ h1, h2, h3, h4, h5, by rw [renL_length]; exact h6, fun j a ha => ?_, h8⟩
    rw [renL_get, Option.map_eq_some_iff] at ha
    obtain ⟨b, hb, rfl⟩ := ha
    exact ⟨(h7 j b hb).1.ren hr, by rw [ren_one]; exact (h7 j b hb).2⟩
  | .vars T sz cs false, ⟨b, n, cap, h1, h2, h3, h4⟩ =>
    refine ⟨b, n, cap, hr _ _ h1, h2, by rw [renL_length]; exact h3, fun j a ha => ?_⟩
    rw [renL_get, Option.map_eq_some_iff] at ha
    obtain ⟨b, hb, rfl⟩ := ha
    obtain ⟨k1, v, k2, k3⟩ := h4 j b hb
    exact ⟨by rw [ren_one]; exact k1, v, k2, k3.ren hr⟩
  | .rows T sz es true, ⟨h0, .inl ⟨h1, h2⟩⟩ => exact ⟨h0, .inl ⟨hr _ _ h1, h2⟩⟩
  | .rows T sz es true, ⟨h0, .inr ⟨b, cap, cells, h1, h2⟩⟩ => exact ⟨h0, .inr ⟨b, cap, cells, hr _ _ h1, h2⟩⟩
  | .rows T sz es false, ⟨h0, .inl ⟨h1, h2⟩⟩ => exact ⟨h0, .inl ⟨hr _ _ h1, h2⟩⟩
  | .rows T sz es false, ⟨h0, .inr ⟨b, cap, h1, h2⟩⟩ => exact ⟨h0, .inr ⟨b, cap, hr _ _ h1, h2⟩⟩
theorem EntOk.unren {r1 r2 : Rho} {A : View} {w : World} {f : Nat → Nat} {n : Nat} (hr : ∀ j l, j < n → r2 (f j) = some l → r1 j = some l) {j : Nat} (hj : j < n) {e : Entry} (hb : (match e with | .vars _ _ cs _ => AVal.hb.hbL n cs | _ => true) = true) (he : EntOk r2 A w (f j) (e.ren f)) : EntOk r1 A w j e := by
  match e, he with
  | .dead, _ => trivial
  | .vars T sz cs true, ⟨b, n, cap, cells, h1, h2, h3, h4, h5, h6, h7, h8⟩ =>
    rw [renL_length] at h6
    refine ⟨b, n, cap, cells, hr _ _ hj h1, h2, h3, h4, h5, h6, fun j a ha => ?_, h8⟩
    have := h7 j (a.ren f) (by rw [renL_get, ha]; rfl)
    exact ⟨this.1.unren hr a (hbL_get hb j a ha), by rw [← ren_one f]; exact this.2⟩
  | .vars T sz cs false, ⟨b, n, cap, h1, h2, h3, h4⟩ =>
    rw [renL_length] at h3
    refine ⟨b, n, cap, hr _ _ hj h1, h2, h3, fun j a ha => ?_⟩
    obtain ⟨k1, v, k2, k3⟩ := h4 j (a.ren f) (by rw [renL_get, ha]; rfl)
    exact ⟨by rw [← ren_one f]; exact k1, v, k2, k3.unren hr a (hbL_get hb j a ha)⟩
  | .rows T sz es true, ⟨h0, .inl ⟨h1, h2⟩⟩ => exact ⟨h0, .inl ⟨hr _ _ hj h1, h2⟩⟩
  | .rows T sz es true, ⟨h0, .inr ⟨b, cap, cells, h1, h2⟩⟩ => exact ⟨h0, .inr ⟨b, cap, cells, hr _ _ hj h1, h2⟩⟩
  | .rows T sz es false, ⟨h0, .inl ⟨h1, h2⟩⟩ => exact ⟨h0, .inl ⟨hr _ _ hj h1, h2⟩⟩
  | .rows T sz es false, ⟨h0, .inr ⟨b, cap, h1, h2⟩⟩ => exact ⟨h0, .inr ⟨b, cap, hr _ _ hj h1, h2⟩⟩
theorem ren_live (f : Nat → Nat) (e : Entry) : (e.ren f).live = e.live := by cases e <;> rfl

theorem noCore (w : World) (A : View) (hA : ∀ b o v, A b o = some v → w.cell? ⟨b, o, none⟩ = some v) : Core (fun _ => none) A w (Heap.get []) :=
  ⟨hA, fun h => trivial, fun h h' b hl => by cases hl⟩

section
variable {P : Program} {tab : Tab} {lk : Operand → AVal} {next : Nat} {g : Nat → Entry} {k : Kont} {o : Oper}

/-- Nothing of one's own has changed. -/
theorem OpPost.kept {r : Rho} {A A' : View} {w w' : World} {g : Nat → Entry} {next : Nat} {a : AVal} {v : Value} (hc : Core r A w g) (hf : Fr w A w' A' (fun _ => False)) (hv : ∀ b o v, A' b o = some v → w'.cell? ⟨b, o, none⟩ = some v) (hr : VRel r A' v a) : OpPost r A w g [] next 0 a v w' :=
  ⟨r, A', RSub.refl r, fun _ _ => rfl, Core.step (ups := []) hc (RSub.refl r) (fun _ => False) hf hv (fun b hb => hb.elim) (fun h hh => by simp at hh) (fun h b hh => by simp at hh) (fun _ _ _ => rfl), hr, hf.weaken (fun _ h => h.elim), fun b hb => .inl hb⟩
theorem call_look {c : Call} {f : Operand} (hcl : c.callee = .value f) (ho : o.op = .call c) {id : FuncId} {first caps : List AVal} (hf : fnOf (lk f) = some (id, first, caps)) {args' : List AVal} {x : AVal} (hp : PCall P id args' x) (ha : pureAll g 6 (first ++ c.args.toList.map lk ++ caps) = some args') (hx : x.scalar = true)
    (hk : k x [] 0 ((first ++ c.args.toList.map lk ++ caps).flatMap (reach g 8))) : Sound P o lk next g k := by
  refine ⟨_, _, _, _, hk, fun g2 hg2 _ r A w act hr hc hv => ?_⟩
  obtain ⟨vs, h1, h2⟩ := call_run hcl ho hf hp.1 w hv
  have ha2 : pureAll g2 6 (first ++ c.args.toList.map lk ++ caps) = some args' := (pureAll_agree 6 _ hg2).trans ha
  have hvl := VList.pure (r2 := fun _ => none) hc.reads 6 ha2 h2
  refine Does.call h1 (Calls.mono (hp.2 (fun _ => none) (full w) w vs (fun _ _ => rfl) (noCore w _ fun b o v h => h) hvl.1 hvl.2) fun e w' he => ?_)
  obtain ⟨v, r', A', x', H', n', rfl, ⟨rfl, rfl, rfl⟩, _, _, _, hcore, hvx, hfr, _⟩ := he
  have hfr' : Fr w A w' A (fun _ => False) := ⟨hfr.os, hfr.tape, hfr.output, hfr.size, fun b hb _ => hfr.block b hb (fun ⟨h, hl, _⟩ => by cases hl), Sub.refl A, fun _ _ _ => rfl⟩
  exact ⟨v, rfl, OpPost.kept hc hfr' (fun b oo u hA => by
    have := hc.view b oo u hA
    rw [← this]
    exact World.cell?_of_block (w := w) (hfr'.block b (cell_lt' this) (fun h => h))) (scalar_rel hx hvx)⟩
theorem call_data {c : Call} {f : Operand} (hcl : c.callee = .value f) (ho : o.op = .call c) {id : FuncId} {first caps : List AVal} (hf : fnOf (lk f) = some (id, first, caps)) {args' : List AVal} {x : AVal} (hp : PCall P id args' x) (ha : pureAll noG 6 (first ++ c.args.toList.map lk ++ caps) = some args')
    (hk : k x [] 0 []) : Sound P o lk next g k := by
  refine ⟨_, _, _, _, hk, fun g2 hg2 _ r A w act hr hc hv => ?_⟩
  obtain ⟨vs, h1, h2⟩ := call_run hcl ho hf hp.1 w hv
  have hvl := VList.pure (r2 := fun _ => none) (reads_none r A) 6 ha h2
  refine Does.call h1 (Calls.mono (hp.2 (fun _ => none) A w vs (fun _ _ => rfl) (noCore w _ hc.view) hvl.1 hvl.2) fun e w' he => ?_)
  obtain ⟨v, r', A', x', H', n', rfl, ⟨rfl, rfl, rfl⟩, _, _, hrn, hcore, hvx, hfr, _⟩ := he
  have hfr' : Fr w A w' A' (fun _ => False) := ⟨hfr.os, hfr.tape, hfr.output, hfr.size, fun b hb _ => hfr.block b hb (fun ⟨h, hl, _⟩ => by cases hl), hfr.sub, fun b hb _ => hfr.keep b hb (fun ⟨h, hl, _⟩ => by cases hl)⟩
  exact ⟨v, rfl, OpPost.kept hc hfr' hcore.view (hvx.mono (fun h l e => by rw [hrn h (Nat.zero_le _)] at e; cases e) (Sub.refl _))⟩

theorem nodup_get : ∀ {p : List Nat}, nodup p = true → ∀ (i j h : Nat), p[i]? = some h → p[j]? = some h → i = j
  | [], _, i, j, h, hi, hj => by simp at hi
  | x :: t, hp, i, j, h, hi, hj => by
    simp only [nodup, Bool.and_eq_true] at hp
    have key : ∀ q, t[q]? = some h → x ≠ h := fun q hq e => by
      subst e
      have := List.all_eq_true.1 hp.1 _ (List.mem_of_getElem? hq)
      simp [Nat.beq_refl] at this
    match i, j with
    | 0, 0 => rfl
    | 0, j + 1 =>
      obtain rfl : x = h := by simpa using hi
      exact absurd rfl (key j (by simpa using hj))
    | i + 1, 0 =>
      obtain rfl : x = h := by simpa using hj
      exact absurd rfl (key i (by simpa using hi))
    | i + 1, j + 1 => rw [nodup_get hp.2 i j h (by simpa using hi) (by simpa using hj)]
theorem ren1_lt {p : List Nat} {next j h : Nat} (hp : p[j]? = some h) : ren1 p next j = h := by simp only [ren1, nth_get, hp]
theorem ren1_ge {p : List Nat} {next j : Nat} (hj : p.length ≤ j) : ren1 p next j = next + (j - p.length) := by simp only [ren1, nth_get, List.getElem?_eq_none hj]
theorem heapHb_get {n : Nat} : ∀ {H : Heap}, heapHb n H = true → ∀ j, (j < n ∨ H.get j = .dead) ∧ (match H.get j with | .vars _ _ cs _ => AVal.hb.hbL n cs | _ => true) = true
  | [], _, j => ⟨.inr rfl, rfl⟩
  | (h, e) :: t, hh, j => by
    simp only [heapHb, Bool.and_eq_true] at hh
    obtain ⟨⟨h1, h2⟩, h3⟩ := hh
    obtain ⟨i1, i2⟩ := heapHb_get h3 j
    by_cases hj : h = j
    · subst hj
      have : Heap.get ((h, e) :: t) h = e := by simp [Heap.get, Nat.beq_refl]
      rw [this]
      exact ⟨.inl (hblt h1), h2⟩
    · have : Heap.get ((h, e) :: t) j = Heap.get t j := by
        rw [over_get, over_ne hj, ← over_get]
      rw [this]
      exact ⟨i1, i2⟩
/-- The entries of a called function's heap, among one's own. -/
def upsOf (p : List Nat) (next m : Nat) (Hc' : Heap) : Heap := (List.range (p.length + m)).map fun j => (ren1 p next j, (Hc'.get j).ren (ren1 p next))
theorem upsOf_keys {p : List Nat} {next m : Nat} {Hc' : Heap} {h : Nat} : h ∈ (upsOf p next m Hc').map (·.1) ↔ ∃ j, j < p.length + m ∧ ren1 p next j = h := by
  simp only [upsOf, List.map_map, List.mem_map, List.mem_range, Function.comp]
theorem over_map {F : Nat → Nat} {E : Nat → Entry} {g : Nat → Entry} : ∀ (l : List Nat) (j : Nat), j ∈ l → (∀ i ∈ l, F i = F j → i = j) → over (l.map fun j => (F j, E j)) g (F j) = E j
  | [], j, hj, _ => by cases hj
  | x :: t, j, hj, hinj => by
    simp only [List.map_cons]
    by_cases hx : F x = F j
    · have := hinj x (by simp) hx
      subst this
      rw [over_same]
    · rw [over_ne hx]
      refine over_map t j ?_ fun i hi => hinj i (by simp [hi])
      rcases List.mem_cons.1 hj with rfl | hj
      · exact absurd rfl hx
      · exact hj
/-- A function that changes what is one's own. -/
theorem call_eff {c : Call} {f : Operand} (hcl : c.callee = .value f) (ho : o.op = .call c) {id : FuncId} {first caps : List AVal} (hf : fnOf (lk f) = some (id, first, caps)) {p : List Nat} {args' : List AVal} {Hc : Heap} {R : AVal → Heap → Nat → Prop} (hp : ACall P id args' Hc p.length R)
    (ha : first ++ c.args.toList.map lk ++ caps = AVal.ren.renL (ren1 p next) args') (hg : p.map g = (List.range p.length).map fun i => (Hc.get i).ren (ren1 p next)) (hnd : nodup p = true) (hlt : p.all (fun h => Nat.blt h next) = true) (hw : (AVal.hb.hbL p.length args' && heapHb p.length Hc) = true)
    {g2 : Nat → Entry} (hg2 : ∀ h, h ∈ p → g2 h = g h) {r : Rho} {A : View} {w : World} {act : Act} (hr : ∀ x H' m, R x H' (p.length + m) → ∀ h, next ≤ h → h < next + m → r h = none) (hc : Core r A w g2) (hv : ∀ x, x ∈ o.op.operands → VRel r A (act.eval x) (lk x)) :
    Does P o act w fun v w' => ∃ x Hc' m, R x Hc' (p.length + m) ∧ OpPost r A w g2 (upsOf p next m Hc') next m (x.ren (ren1 p next)) v w' := by
  obtain ⟨vs, h1, h2⟩ := call_run hcl ho hf hp.1 w hv
  simp only [Bool.and_eq_true] at hw
  have hlt' : ∀ (i h : Nat), p[i]? = some h → h < next := fun i h hi => hblt (List.all_eq_true.1 hlt h (List.mem_of_getElem? hi))
  have hent : ∀ j, j < p.length → ∃ h, p[j]? = some h ∧ g2 h = (Hc.get j).ren (ren1 p next) := fun j hj => by
    refine ⟨p[j], List.getElem?_eq_getElem hj, ?_⟩
    rw [hg2 _ (List.getElem_mem hj)]
    have := congrArg (·[j]?) hg
    simp only [List.getElem?_map, List.getElem?_eq_getElem hj, Option.map_some, List.getElem?_range hj, Option.some.injEq] at this
    exact this
  -- the handles of the called function
  let rc : Rho := fun j => if j < p.length then r (ren1 p next j) else none
  have hrc : ∀ j l, j < p.length → r (ren1 p next j) = some l → rc j = some l := fun j l hj h => by simp only [rc, if_pos hj]; exact h
  have hrc' : ∀ j l, rc j = some l → j < p.length ∧ r (ren1 p next j) = some l := fun j l h => by
    simp only [rc] at h
    split at h
    · rename_i hj; exact ⟨hj, h⟩
    · cases h
  have hcore : Core rc A w Hc.get := by
    refine ⟨hc.view, fun j => ?_, fun j j' b hl hl' hb hb' => ?_⟩
    · obtain ⟨i1, i2⟩ := heapHb_get hw.2 j
      rcases i1 with hj | hd
      · obtain ⟨h, hh, he⟩ := hent j hj
        have := hc.ent h
        rw [he, ← ren1_lt (next := next) hh] at this
        exact EntOk.unren hrc hj i2 this
      · rw [hd]; trivial
    · have lt : ∀ j, (Hc.get j).live = true → j < p.length := fun j hl => by
        rcases (heapHb_get hw.2 j).1 with hj | hd
        · exact hj
        · rw [hd] at hl; cases hl
      have hj := lt j hl
      have hj' := lt j' hl'
      obtain ⟨h, hh, he⟩ := hent j hj
      obtain ⟨h', hh', he'⟩ := hent j' hj'
      have e1 : r.blk h = some b := by
        simp only [Rho.blk, rc, if_pos hj, ren1_lt hh] at hb
        exact hb
      have e2 : r.blk h' = some b := by
        simp only [Rho.blk, rc, if_pos hj', ren1_lt hh'] at hb'
        exact hb'
      have := hc.dis h h' b (by rw [he, ren_live]; exact hl) (by rw [he', ren_live]; exact hl') e1 e2
      subst this
      exact nodup_get hnd j j' h hh hh'
  have hargs : VList rc A vs args' := by
    rw [ha] at h2
    refine ⟨by rw [h2.1, renL_length], fun j a haj => ?_⟩
    exact VRel.unren hrc a (hbL_get hw.1 j a haj) (h2.2 j _ (by rw [renL_get, haj]; rfl))
  refine Does.call h1 (Calls.mono (hp.2 rc A w vs (fun h hh => by simp only [rc, if_neg (Nat.not_lt.2 hh)]) hcore hargs.1 hargs.2) fun e w' he => ?_)
  obtain ⟨v, r1, A', x, Hc', n', rfl, hR, hle, hr1, hr2, hcore', hvx, hfr, hown⟩ := he
  obtain ⟨m, rfl⟩ : ∃ m, n' = p.length + m := ⟨n' - p.length, by omega⟩
  have hr := hr x Hc' m hR
  refine ⟨v, rfl, x, Hc', m, hR, ?_⟩
  -- one's own handles behind it
  let r' : Rho := fun h => if next ≤ h ∧ h < next + m then r1 (p.length + (h - next)) else r h
  have hr' : ∀ j, j < p.length + m → r' (ren1 p next j) = r1 j := fun j hj => by
    by_cases hjp : j < p.length
    · obtain ⟨h, hh, _⟩ := hent j hjp
      have := hlt' j h hh
      rw [hr1 j hjp]
      simp only [r', rc, if_pos hjp, ren1_lt hh]
      rw [if_neg (by omega)]
    · simp only [r']
      rw [ren1_ge (by omega), if_pos (by omega)]
      congr 1; omega
  have hr'' : ∀ j l, r1 j = some l → r' (ren1 p next j) = some l := fun j l h => by
    rcases Nat.lt_or_ge j (p.length + m) with hj | hj
    · rw [hr' j hj]; exact h
    · rw [hr2 j hj] at h; cases h
  have hsub : RSub r r' := fun h l e => by
    simp only [r']
    split
    · rename_i hh; rw [hr h hh.1 (by omega)] at e; cases e
    · exact e
  have inj : ∀ i j, i < p.length + m → j < p.length + m → ren1 p next i = ren1 p next j → i = j := fun i j hi hj e => by
    by_cases h1 : i < p.length <;> by_cases h2 : j < p.length
    · obtain ⟨h, hh, _⟩ := hent i h1
      obtain ⟨h', hh', _⟩ := hent j h2
      rw [ren1_lt hh, ren1_lt hh'] at e
      subst e
      exact nodup_get hnd i j h hh hh'
    · obtain ⟨h, hh, _⟩ := hent i h1
      have := hlt' i h hh
      rw [ren1_lt hh, ren1_ge (by omega)] at e
      omega
    · obtain ⟨h, hh, _⟩ := hent j h2
      have := hlt' j h hh
      rw [ren1_lt hh, ren1_ge (by omega)] at e
      omega
    · rw [ren1_ge (by omega), ren1_ge (by omega)] at e
      omega
  have hups : ∀ j, j < p.length + m → over (upsOf p next m Hc') g2 (ren1 p next j) = (Hc'.get j).ren (ren1 p next) := fun j hj =>
    over_map (F := ren1 p next) (E := fun j => (Hc'.get j).ren (ren1 p next)) _ j (List.mem_range.2 hj) fun i hi e => inj i j (List.mem_range.1 hi) hj e
  have liveC : ∀ b, LiveB rc Hc.get b → ∃ h, h ∈ (upsOf p next m Hc').map (·.1) ∧ (g2 h).live = true ∧ r.blk h = some b := fun b ⟨j, hl, hb⟩ => by
    have hj : j < p.length := by
      rcases (heapHb_get hw.2 j).1 with hj | hd
      · exact hj
      · rw [hd] at hl; cases hl
    obtain ⟨h, hh, he⟩ := hent j hj
    refine ⟨h, upsOf_keys.2 ⟨j, by omega, ren1_lt hh⟩, by rw [he, ren_live]; exact hl, ?_⟩
    simp only [Rho.blk, rc, if_pos hj, ren1_lt hh] at hb
    exact hb
  have blk1 : ∀ j b, j < p.length + m → r'.blk (ren1 p next j) = some b → r1.blk j = some b := fun j b hj hb => by
    simp only [Rho.blk, hr' j hj] at hb
    exact hb
  refine ⟨r', A', hsub, fun h hh => ?_, ?_, hvx.ren hr'', hfr.weaken fun b hb => let ⟨h, _, hl, hbb⟩ := liveC b hb; ⟨h, hl, hbb⟩, ?_⟩
  · simp only [r']
    rw [if_neg (by omega)]
  · refine Core.step hc hsub (LiveB rc Hc.get) hfr hcore'.view liveC (fun h hh => ?_) (fun h b hh hl hb => ?_) (fun h hh hl => ?_)
    · obtain ⟨j, hj, rfl⟩ := upsOf_keys.1 hh
      rw [hups j hj]
      exact (hcore'.ent j).ren hr''
    · obtain ⟨j, hj, rfl⟩ := upsOf_keys.1 hh
      rw [hups j hj, ren_live] at hl
      have hb1 := blk1 j b hj hb
      refine ⟨?_, fun h2 hh2 hl2 hb2 => ?_⟩
      · rcases hown b ⟨j, hl, hb1⟩ with h3 | h3
        · exact .inr (liveC b h3)
        · exact .inl h3
      · obtain ⟨j2, hj2, rfl⟩ := upsOf_keys.1 hh2
        rw [hups j2 hj2, ren_live] at hl2
        rw [hcore'.dis j2 j b hl2 hl (blk1 j2 b hj2 hb2) hb1]
    · have : ¬ (next ≤ h ∧ h < next + m) := fun hcon => hh (upsOf_keys.2 ⟨p.length + (h - next), by omega, by rw [ren1_ge (by omega)]; omega⟩)
      simp only [Rho.blk, r', if_neg this]
  · rintro b ⟨h, hl, hb⟩
    by_cases hm : h ∈ (upsOf p next m Hc').map (·.1)
    · obtain ⟨j, hj, rfl⟩ := upsOf_keys.1 hm
      rw [hups j hj, ren_live] at hl
      rcases hown b ⟨j, hl, blk1 j b hj hb⟩ with h3 | h3
      · obtain ⟨h0, _, hl0, hb0⟩ := liveC b h3
        exact .inl ⟨h0, hl0, hb0⟩
      · exact .inr h3
    · rw [over_keys hm] at hl
      have : ¬ (next ≤ h ∧ h < next + m) := fun hcon => hm (upsOf_keys.2 ⟨p.length + (h - next), by omega, by rw [ren1_ge (by omega)]; omega⟩)
      exact .inl ⟨h, hl, by simpa only [Rho.blk, r', if_neg this] using hb⟩
end
end Go.Proofs.YtlioojekjnigiaeGreat.AM
/- Calls that make rows of one's own stay. -/
namespace Go.Proofs.YtlioojekjnigiaeGreat.AM
set_option linter.unusedVariables false
set_option linter.unusedSimpArgs false

/-- The rows that stay, of those that are known. -/
def still (g : Nat → Entry) : Nat → Entry := fun h => bif (g h).live then .dead else g h
theorem still_reads {r : Rho} {A : View} {w : World} {g : Nat → Entry} (hc : Core r A w g) : Reads r A (still g) A := by
  refine ⟨Sub.refl A, fun h T sz cs l hg => ?_, fun h T sz es l hg => ?_⟩
  · unfold still at hg
    cases hl : (g h).live
    · rw [hl, cond_false] at hg
      have hlf : l = false := by rw [hg] at hl; exact hl
      subst hlf
      have := hc.ent h
      rw [hg] at this
      obtain ⟨b, n, cap, k1, k2, k3, k4⟩ := this
      exact ⟨b, n, cap, k1, ⟨k3, k2⟩, fun j a ha => (k4 j a ha).2⟩
    · rw [hl, cond_true] at hg; cases hg
  · unfold still at hg
    cases hl : (g h).live
    · rw [hl, cond_false] at hg
      have hlf : l = false := by rw [hg] at hl; exact hl
      subst hlf
      have := hc.ent h
      rw [hg] at this
      obtain ⟨k0, ⟨k1, k2⟩ | ⟨b, cap, k1, k2, F, k3, k4⟩⟩ := this
      · exact ⟨k0, .inl ⟨k1, k2⟩⟩
      · refine ⟨k0, .inr ⟨b, cap, k1, k2, fun i e he j d hd => ⟨F i j, ?_, k4 i e he j d hd⟩⟩⟩
        obtain ⟨p1, p2, _⟩ := elem_place he k0 (List.getElem?_eq_some_iff.1 hd).1
        exact k3 i j p1 p2
    · rw [hl, cond_true] at hg; cases hg

theorem freeze_d : Entry.dead.freeze = .dead := rfl
theorem freeze_v (T sz : Nat) (cs : List AVal) (l : Bool) : (Entry.vars T sz cs l).freeze = .vars T sz cs false := rfl
theorem freeze_r (T sz : Nat) (es : List (List D)) (l : Bool) : (Entry.rows T sz es l).freeze = .rows T sz es false := rfl
theorem toD_freeze {g : Nat → Entry} : ∀ (n : Nat) (a : AVal), toD (fun h => (g h).freeze) n a = toD g n a := by
  intro n
  induction n with
  | zero => intro a; rfl
  | succ n ih =>
    intro a
    have hm : ∀ l : List AVal, l.mapM (toD (fun h => (g h).freeze) n) = l.mapM (toD g n) := fun l => mapM_same fun a _ => ih a
    cases a with
    | ptr h off => simp only [toD]; cases hg : g h <;> simp only [freeze_d, freeze_v, freeze_r, hm]
    | eptr h sz i off => simp only [toD]; cases hg : g h <;> simp only [freeze_d, freeze_v, freeze_r]
    | row h => simp only [toD]; cases hg : g h <;> simp only [freeze_d, freeze_v, freeze_r, hm]
    | sub h sz off len => simp only [toD]; cases hg : g h <;> simp only [freeze_d, freeze_v, freeze_r]
    | fn f xs ys => simp only [toD, hm]
    | _ => rfl
theorem toL_freeze {g : Nat → Entry} (n : Nat) : ∀ (xs : List AVal), toL (fun h => (g h).freeze) n xs = toL g n xs
  | [] => rfl
  | a :: t => by simp only [toL, toD_freeze, toL_freeze n t]
theorem pureL_freeze {g : Nat → Entry} (n : Nat) : ∀ (xs : List AVal), pureA.pureL (fun h => (g h).freeze) n xs = pureA.pureL g n xs
  | [] => rfl
  | a :: t => by cases a <;> simp only [pureA.pureL, toD_freeze, toL_freeze, pureL_freeze n t]
theorem pureA_freeze {g : Nat → Entry} (n : Nat) (a : AVal) : pureA (fun h => (g h).freeze) n a = pureA g n a := by
  cases a <;> simp only [pureA, toD_freeze, toL_freeze, pureL_freeze]
theorem pureAll_freeze {g : Nat → Entry} (n : Nat) : ∀ (xs : List AVal), pureAll (fun h => (g h).freeze) n xs = pureAll g n xs
  | [] => rfl
  | a :: t => by simp only [pureAll, pureA_freeze, pureAll_freeze n t]
theorem reach_freeze {g : Nat → Entry} : ∀ (n : Nat) (a : AVal), reach (fun h => (g h).freeze) n a = reach g n a := by
  intro n
  induction n with
  | zero => intro a; rfl
  | succ n ih =>
    intro a
    have hm : ∀ l : List AVal, l.flatMap (reach (fun h => (g h).freeze) n) = l.flatMap (reach g n) := fun l => by
      congr 1
      exact funext ih
    cases a with
    | ptr h off => simp only [reach]; cases hg : g h <;> simp only [freeze_d, freeze_v, freeze_r, hm]
    | row h => simp only [reach]; cases hg : g h <;> simp only [freeze_d, freeze_v, freeze_r, hm]
    | agg xs => simp only [reach, hm]
    | tup xs => simp only [reach, hm]
    | fn f xs ys => simp only [reach, hm]
    | _ => rfl
theorem freeze_dead {e : Entry} (h : e.live = false) : e.freeze = e := by
  cases e with
  | dead => rfl
  | vars T sz cs l => have : l = false := h; subst this; rfl
  | rows T sz es l => have : l = false := h; subst this; rfl
theorem freeze_live (e : Entry) : e.freeze.live = false := by cases e <;> rfl

/-- A row of one's own stays from here on. -/
theorem Core.stay {r : Rho} {A : View} {w : World} {g : Nat → Entry} (hc : Core r A w g) (h : Nat) (hll : (g h).live = true) :
    ∃ A2, Core r A2 w (over [(h, (g h).freeze)] g) ∧ Sub A A2 ∧ ∀ b, r.blk h ≠ some b → A2 b = A b := by
  have hent := hc.ent h
  let A2 : View := fun b o => if r.blk h = some b then w.cell? ⟨b, o, none⟩ else A b o
  have hfree : ∀ b, r.blk h = some b → ∀ o, A b o = none := fun b hb => (hent.block hll hb).2
  have hA : Sub A A2 := fun b o v hv => by
    simp only [A2]
    split
    · rename_i hb
      rw [hfree b hb] at hv; cases hv
    · exact hv
  have hview : ∀ b o v, A2 b o = some v → w.cell? ⟨b, o, none⟩ = some v := fun b o v hv => by
    simp only [A2] at hv
    split at hv
    · exact hv
    · exact hc.view b o v hv
  have hlf := freeze_live (g h)
  refine ⟨A2, ⟨hview, fun x => ?_, fun x y b hx hy hbx hby => ?_⟩, hA, fun b hb => funext fun o => if_neg hb⟩
  · by_cases hxh : x = h
    · subst hxh
      rw [over_same]
      cases hx : g x with
      | dead => trivial
      | vars T sz cs l =>
        rw [hx] at hll hent
        have hll : l = true := hll
        subst hll
        obtain ⟨b, n, cap, cells, e1, e2, e3, e4, e5, e6, e7, e8⟩ := hent
        refine ⟨b, n, cap, e1, e5, e6, fun j a ha => ⟨(e7 j a ha).2, cells.getD j undef, ?_, (e7 j a ha).1.mono (RSub.refl r) hA⟩⟩
        have hlt : j < cells.size := by
          have := (List.getElem?_eq_some_iff.1 ha).1
          have hm : n * sz ≤ cap * sz := Nat.mul_le_mul_right _ e5
          omega
        simp only [A2]
        rw [if_pos (by simp [Rho.blk, e1])]
        exact cell_of e2 (getD_some hlt undef)
      | rows T sz es l =>
        rw [hx] at hll hent
        have hll : l = true := hll
        subst hll
        obtain ⟨k0, ⟨k1, k2⟩ | ⟨b, cap, cells, e1, e2, e3, e4, e5, e6, e7⟩⟩ := hent
        · exact ⟨k0, .inl ⟨k1, k2⟩⟩
        · refine ⟨k0, .inr ⟨b, cap, e1, e5, fun i j => cells.getD (i * sz + j) undef, fun i j hi hj => ?_, fun i x hx j d hd => (e6 i x hx j d hd).mono hA⟩⟩
          have hlt : i * sz + j < cells.size := by
            have h1 : (i + 1) * sz ≤ es.length * sz := Nat.mul_le_mul_right _ hi
            have h2 : es.length * sz ≤ cap * sz := Nat.mul_le_mul_right _ e5
            rw [Nat.add_mul] at h1
            omega
          simp only [A2]
          rw [if_pos (by simp [Rho.blk, e1])]
          exact cell_of e2 (getD_some hlt undef)
    · rw [over_ne (Ne.symm hxh)]
      refine EntOk.mono (RSub.refl r) hA (fun hl b hb => ⟨rfl, funext fun o => ?_⟩) (hc.ent x)
      simp only [A2]
      rw [if_neg fun hb2 => hxh (hc.dis x h b hl hll hb hb2)]
  · have nx : x ≠ h := fun e0 => by subst e0; rw [over_same, hlf] at hx; cases hx
    have ny : y ≠ h := fun e0 => by subst e0; rw [over_same, hlf] at hy; cases hy
    rw [over_ne (Ne.symm nx)] at hx
    rw [over_ne (Ne.symm ny)] at hy
    exact hc.dis x y b hx hy hbx hby
/-- Some of one's own rows stay. -/
theorem Core.stays {r : Rho} {w : World} (G : Nat → Entry) : ∀ (p : List Nat) {A : View} {g : Nat → Entry} (hc : Core r A w g) (hn : nodup p = true) (hl : ∀ h ∈ p, g h = G h ∧ (G h).live = true),
    ∃ A2, Core r A2 w (over (p.map fun h => (h, (G h).freeze)) g) ∧ Sub A A2 ∧ ∀ b, (∀ h ∈ p, r.blk h ≠ some b) → A2 b = A b
  | [], A, g, hc, _, _ => ⟨A, hc, Sub.refl A, fun _ _ => rfl⟩
  | h :: t, A, g, hc, hn, hl => by
    simp only [nodup, Bool.and_eq_true] at hn
    have hne : ∀ x ∈ t, x ≠ h := fun x hx e => by
      have := List.all_eq_true.1 hn.1 x hx
      rw [e] at this
      simp [Nat.beq_refl] at this
    obtain ⟨A1, c1, s1, k1⟩ := Core.stays G t hc hn.2 fun x hx => hl x (by simp [hx])
    have hg : over (t.map fun h => (h, (G h).freeze)) g h = G h := by
      rw [over_keys, (hl h (by simp)).1]
      simp only [List.map_map, List.mem_map, Function.comp, not_exists, not_and]
      exact fun x hx e => hne x hx e
    obtain ⟨A2, c2, s2, k2⟩ := c1.stay h (by rw [hg]; exact (hl h (by simp)).2)
    rw [hg] at c2
    have : over (List.map (fun h => (h, (G h).freeze)) (h :: t)) g = over [(h, (G h).freeze)] (over (t.map fun h => (h, (G h).freeze)) g) := funext fun x => by
      rw [List.map_cons, ← over_app]
      rfl
    rw [this]
    exact ⟨A2, c2, s1.trans s2, fun b hb => (k2 b (hb h (by simp))).trans (k1 b fun x hx => hb x (by simp [hx]))⟩

section
variable {P : Program} {tab : Tab} {lk : Operand → AVal} {next : Nat} {g : Nat → Entry} {k : Kont} {o : Oper}
theorem call_keep {c : Call} {f : Operand} (hcl : c.callee = .value f) (ho : o.op = .call c) {id : FuncId} {first caps : List AVal} (hf : fnOf (lk f) = some (id, first, caps)) (p : List Nat) {args' : List AVal} {x : AVal} (hp : PCall P id args' x) (ha : pureAll g 6 (first ++ c.args.toList.map lk ++ caps) = some args')
    (hn : nodup p = true) (hl : p.all (fun h => (g h).live) = true) (hin : ((first ++ c.args.toList.map lk ++ caps).flatMap (reach g 8)).all (fun h => !(g h).live || p.any (Nat.beq h)) = true)
    (hk : k x (p.map fun h => (h, (g h).freeze)) 0 ((first ++ c.args.toList.map lk ++ caps).flatMap (reach g 8))) : Sound P o lk next g k := by
  refine ⟨_, _, _, _, hk, fun g2 hg2 hgu r A w act hr hc hv => ?_⟩
  obtain ⟨vs, h1, h2⟩ := call_run hcl ho hf hp.1 w hv
  have hlive : ∀ h ∈ p, (g h).live = true := fun h hh => List.all_eq_true.1 hl h hh
  have hpg : ∀ h ∈ p, g2 h = g h ∧ (g h).live = true := fun h hh => ⟨hgu h (by simpa using hh) (by omega), hlive h hh⟩
  obtain ⟨A1, c1, s1, k1⟩ := Core.stays g p hc hn hpg
  have hfr1 : Fr w A w A1 (LiveB r g2) := ⟨rfl, rfl, rfl, Nat.le_refl _, fun _ _ _ => rfl, s1, fun b _ hb => k1 b fun h hh e => hb ⟨h, by rw [(hpg h hh).1]; exact (hpg h hh).2, e⟩⟩
  generalize hG : over (p.map fun h => (h, (g h).freeze)) g2 = g3 at c1
  have hstill : ∀ h, h ∈ (first ++ c.args.toList.map lk ++ caps).flatMap (reach (fun h => (g h).freeze) 8) → still g3 h = (g h).freeze := fun h hh => by
    have : (fun a => reach (fun h => (g h).freeze) 8 a) = reach g 8 := funext fun a => reach_freeze 8 a
    rw [show (reach (fun h => (g h).freeze) 8) = reach g 8 from this] at hh
    have h3 : g3 h = (g h).freeze := by
      rw [← hG]
      cases hlv : (g h).live with
      | true =>
        have := List.all_eq_true.1 hin h hh
        rw [hlv] at this
        simp only [Bool.not_true, Bool.false_or, List.any_eq_true] at this
        obtain ⟨y, hy, hye⟩ := this
        obtain rfl := Nat.eq_of_beq_eq_true hye
        exact over_map (F := fun x => x) (E := fun h => (g h).freeze) p h hy fun i _ e => e
      | false =>
        rw [over_keys, hg2 h hh, freeze_dead hlv]
        simp only [List.map_map, List.mem_map, Function.comp, not_exists, not_and]
        intro y hy e
        have := hlive y hy
        rw [show y = h from e, hlv] at this
        cases this
    unfold still
    rw [h3, freeze_live, cond_false]
  have ha3 : pureAll (still g3) 6 (first ++ c.args.toList.map lk ++ caps) = some args' := ((pureAll_agree 6 _ hstill).trans (pureAll_freeze 6 _)).trans ha
  have h2' : VList r A1 vs (first ++ c.args.toList.map lk ++ caps) := ⟨h2.1, fun j a hj => (h2.2 j a hj).mono (RSub.refl r) s1⟩
  have hvl := VList.pure (r2 := fun _ => none) (still_reads c1) 6 ha3 h2'
  refine Does.call h1 (Calls.mono (hp.2 (fun _ => none) A1 w vs (fun _ _ => rfl) (noCore w _ c1.view) hvl.1 hvl.2) fun e w' he => ?_)
  obtain ⟨v, r', A', x', H', n', rfl, ⟨rfl, rfl, rfl⟩, _, _, hrn, hcore, hvx, hfr, _⟩ := he
  have hfr' : Fr w A1 w' A' (fun _ => False) := ⟨hfr.os, hfr.tape, hfr.output, hfr.size, fun b hb _ => hfr.block b hb (fun ⟨h, hl, _⟩ => by cases hl), hfr.sub, fun b hb _ => hfr.keep b hb (fun ⟨h, hl, _⟩ => by cases hl)⟩
  obtain ⟨r4, A4, q1, q2, q3, q4, q5, q6⟩ := OpPost.kept (next := next) c1 hfr' hcore.view (hvx.mono (fun h l e => by rw [hrn h (Nat.zero_le _)] at e; cases e) (Sub.refl _))
  have hsub : ∀ b, LiveB r g3 b → LiveB r g2 b := fun b ⟨h, hlv, hb⟩ => by
    refine ⟨h, ?_, hb⟩
    rw [← hG] at hlv
    by_cases hm : h ∈ p
    · rw [(hpg h hm).1]; exact (hpg h hm).2
    · rw [over_keys] at hlv
      · exact hlv
      · simp only [List.map_map, List.mem_map, Function.comp, not_exists, not_and]
        exact fun y hy e => hm (by rw [← show y = h from e]; exact hy)
  refine ⟨v, rfl, r4, A4, q1, q2, by rw [hG]; exact q3, q4, hfr1.trans q5 fun b _ hb => hsub b hb, fun b hb => ?_⟩
  rw [hG] at hb
  rcases q6 b hb with h7 | h7
  · exact .inl (hsub b h7)
  · exact .inr h7
end
end Go.Proofs.YtlioojekjnigiaeGreat.AM
/- The operations, all of them. -/
namespace Go.Proofs.YtlioojekjnigiaeGreat.AM
set_option linter.unusedVariables false
set_option linter.unusedSimpArgs false

section
variable {P : Program} {tab : Tab} {lk : Operand → AVal} {next : Nat} {g : Nat → Entry} {k : Kont} {o : Oper}

/-- What an operation does, in order. -/
def RunOk (P : Program) (o : Oper) (lk : Operand → AVal) (next : Nat) (g : Nat → Entry) (k : Kont) : Prop :=
  ∀ (r : Rho) (A : View) (w : World) (act : Act), (∀ h, next ≤ h → r h = none) → Core r A w g → (∀ x, x ∈ o.op.operands → VRel r A (act.eval x) (lk x)) →
    Does P o act w fun v w' => ∃ a ups m rd, k a ups m rd ∧ OpPost r A w g ups next m a v w'
theorem Sound.run (h : Sound P o lk next g k) : RunOk P o lk next g k := fun r A w act hr hc hv => by
  obtain ⟨a, ups, m, rd, hk, hs⟩ := h
  exact (hs g (fun _ _ => rfl) (fun _ _ _ => rfl) r A w act (fun h h1 _ => hr h h1) hc hv).mono fun v w' hp => ⟨a, ups, m, rd, hk, hp⟩
theorem call_sound {det : Bool} {c : Call} {f : Operand} (hcl : c.callee = .value f) (ho : o.op = .call c) {id : FuncId} {first caps : List AVal} (hf : fnOf (lk f) = some (id, first, caps)) (h : CallOk det P id (first ++ c.args.toList.map lk ++ caps) next g k) :
    Sound P o lk next g k ∨ (det = false ∧ RunOk P o lk next g k) := by
  cases h with
  | look args' x hp ha hx hk => exact .inl (call_look hcl ho hf hp ha hx hk)
  | data args' x hp ha hk => exact .inl (call_data hcl ho hf hp ha hk)
  | keep p args' x hp ha hn hl hin hk => exact .inl (call_keep hcl ho hf p hp ha hn hl hin hk)
  | eff p args' Hc x Hc' m hp ha hg hnd hlt hw hk =>
    refine .inl ⟨_, _, _, _, hk, fun g2 hg2 _ r A w act hr hc hv => ?_⟩
    refine (call_eff hcl ho hf hp ha hg hnd hlt hw hg2 (fun x' H' m' hR h h1 h2 => ?_) hc hv).mono fun v w' hp => ?_
    · obtain ⟨_, _, hm⟩ := hR
      exact hr h h1 (by omega)
    · obtain ⟨x', H', m', ⟨rfl, rfl, hm⟩, hpost⟩ := hp
      have : m' = m := by omega
      subst this
      exact hpost
  | some p args' Hc R hd hp ha hg hnd hlt hw hk =>
    refine .inr ⟨hd, fun r A w act hr hc hv => ?_⟩
    refine (call_eff hcl ho hf hp ha hg hnd hlt hw (fun _ _ => rfl) (fun x' H' m' hR h h1 h2 => hr h h1) hc hv).mono fun v w' hp => ?_
    obtain ⟨x', H', m', hR, hpost⟩ := hp
    exact ⟨_, _, _, _, hk x' H' m' hR, hpost⟩
theorem builtin_sound (ht : TabOk P tab) {c : Call} {b : Builtin} (hcl : c.callee = .builtin b) (ho : o.op = .call c) (h : builtinVC tab next g b c.argTypes.toList (c.args.toList.map lk) k) : Sound P o lk next g k := by
  obtain ⟨callee, args, types⟩ := c
  simp only at hcl h
  subst hcl
  obtain ⟨args⟩ := args
  obtain ⟨types⟩ := types
  simp only [builtinVC] at h
  split at h
  · rename_i t y hy
    match args, hy with
    | [x], hy =>
      simp only [List.map_cons, List.map_nil, List.cons.injEq, and_true] at hy
      subst hy
      split at h
      · rename_i e hk
        exact sound_len ht rfl ho hk h
      · rename_i hk
        exact sound_lenStr ht rfl ho hk h
      · exact h.elim
  · rename_i t u s y hy
    match args, hy with
    | [sx, x], hy =>
      simp only [List.map_cons, List.map_nil, List.cons.injEq, and_true] at hy
      obtain ⟨rfl, rfl⟩ := hy
      cases htu : Nat.beq t u
      · rw [htu] at h; exact h.elim
      rw [htu, cond_true] at h
      obtain rfl := Nat.eq_of_beq_eq_true htu
      split at h
      · rename_i e hk
        split at h
        · rename_i ti hti
          cases hb : Nat.blt 0 ti.size && Nat.blt 0 ti.bytes && ti.zero.isSome
          · rw [hb] at h; exact h.elim
          rw [hb, cond_true] at h
          simp only [Bool.and_eq_true] at hb
          exact sound_append ht hk hti (hblt hb.1.1) (hblt hb.1.2) hb.2 rfl ho h
        · exact h.elim
      · exact h.elim
  · rename_i ts a b hy
    match args, hy with
    | [x, y], hy =>
      simp only [List.map_cons, List.map_nil, List.cons.injEq, and_true] at hy
      obtain ⟨rfl, rfl⟩ := hy
      exact sound_max true rfl ho h
  · rename_i ts a b hy
    match args, hy with
    | [x, y], hy =>
      simp only [List.map_cons, List.map_nil, List.cons.injEq, and_true] at hy
      obtain ⟨rfl, rfl⟩ := hy
      exact sound_max false rfl ho h
  · exact h.elim
/-- What is asked of an operation is enough. -/
theorem op_sound {det : Bool} (ht : TabOk P tab) (h : opVC det tab P lk next g o.op k) : Sound P o lk next g k ∨ (det = false ∧ RunOk P o lk next g k) := by
  generalize ho : o.op = op at h
  cases op with
  | move x => exact .inl (sound_move (.inl ho) h)
  | assign x => exact .inl (sound_move (.inr ho) h)
  | pick c a b => exact .inl (sound_pick ho h)
  | alloc T => exact .inl (sound_alloc ht ho h)
  | box T x => exact .inl (sound_box ho h)
  | build T ps => exact .inl (sound_build ht ho h)
  | buildSlice T n ps => exact .inl (sound_buildSlice ht h ho)
  | load T x => exact .inl (sound_load ht ho h)
  | store T x v => exact .inl (sound_store ht ho h)
  | nilCheck x => exact .inl (sound_nilCheck ho h)
  | binOp op T x y U => exact .inl (sound_bin ht ho h)
  | unOp op T x => cases op <;> first | exact .inl (sound_not ho h) | exact h.elim
  | convert src dst x =>
    simp only [opVC] at h
    split at h
    · rename_i ti hti
      obtain ⟨d, hd, _⟩ := (ht src ti hti).kind
      exact .inl (sound_convert ht ho ⟨d, hd⟩ h)
    · exact h.elim
  | makeFunc f xs ys => exact .inl (sound_makeFunc ho h)
  | makeSlice t l c => exact .inl (sound_makeSlice ht ho h)
  | slice t x lo hi mx => exact .inl (sound_slice ht h ho)
  | fieldAddr T x f => exact .inl (sound_fieldAddr ht ho h)
  | field T x f => exact .inl (sound_field ht ho h)
  | indexAddr t x n => exact .inl (sound_indexAddr ht ho h)
  | index t x n => exact .inl (sound_index ht ho h)
  | extract x i => exact .inl (sound_extract ho h)
  | call c =>
    simp only [opVC] at h
    split at h
    · rename_i f hcl
      split at h
      · rename_i id first caps hf
        exact call_sound hcl ho (by rw [hf]; rfl) h
      · rename_i id ds es hf
        exact call_sound hcl ho (by rw [hf]; rfl) h
      · exact h.elim
    · rename_i b hcl
      exact .inl (builtin_sound ht hcl ho h)
    · exact h.elim
  | _ => exact h.elim
end
end Go.Proofs.YtlioojekjnigiaeGreat.AM
/- Regions, in order. -/
namespace Go.Proofs.YtlioojekjnigiaeGreat.AM
set_option linter.unusedVariables false
set_option linter.unusedSimpArgs false

abbrev Env := List (Nat × AVal)
def look : Env → Nat → AVal
  | [], _ => .any
  | (t', a) :: e, t => bif Nat.beq t' t then a else look e t
def constC : Value → AVal
  | .bool b => .kb b
  | .int k n => .dat (.int k n)
  | .string s => .dat (.str s)
  | .slice none 0 0 => .nil
  | .nilFunc => .cell
  | _ => .any
def constA : Value → AVal
  | .agg cs => .agg (cs.toList.map constC)
  | v => constC v
def lkOf (e : Env) : Operand → AVal
  | .tmp t => look e t
  | .const v => constA v
  | .global _ => .any
  | .func f => .fn (.func f) [] []
structure St where
  env : Env
  next : Nat
  H : Heap
/-- A number that tells two: how many slots there are, and how many handles came in (above 65536). -/
def nOf (N : Nat) : Nat := Nat.mod N 65536
def kOf (N : Nat) : Nat := Nat.div N 65536
/-- What a function began with: blocks of its own, and where the handles that came in lie. -/
structure Began where
  B : Nat → Prop
  r0 : Rho
def putVC (N : Nat) (dst : Option Tmp) (a : AVal) (env : Env) (k : Env → Prop) : Prop := match dst with
  | none => k env
  | some d => bif Nat.blt d (nOf N) then k ((d, a) :: env) else False
abbrev Trace := List (List Nat × List Nat × Nat × Nat)

/-- What the operations of a region ask, one behind the other. -/
def vcOps (det : Bool) (tab : Tab) (P : Program) (N : Nat) (all : List Oper) : List Oper → St → Trace → (St → Trace → Prop) → Prop
  | [], s, tr, K => K s tr
  | o :: rest, s, tr, K =>
    match o.guard with
    | none => opVC det tab P (lkOf s.env) s.next s.H.get o.op fun a ups m rd => putVC N o.dst a s.env fun env => vcOps det tab P N all rest ⟨env, s.next + m, ups ++ s.H⟩ ((rd, ups.map (·.1), s.next, m) :: tr) K
    | some (j, want) => match (nth all j).bind (·.dst) with
      | none => False
      | some t => match look s.env t with
        | .kb b => bif b == want
            then opVC det tab P (lkOf s.env) s.next s.H.get o.op fun a ups m rd => putVC N o.dst a s.env fun env => vcOps det tab P N all rest ⟨env, s.next + m, ups ++ s.H⟩ ((rd, ups.map (·.1), s.next, m) :: tr) K
            else putVC N o.dst (.tup []) s.env fun env => vcOps det tab P N all rest ⟨env, s.next, s.H⟩ (([], [], s.next, 0) :: tr) K
        | .dat (.bool b) => BoolCase b
            (bif want
              then opVC det tab P (lkOf ((t, .kb true) :: s.env)) s.next s.H.get o.op fun a ups m rd => putVC N o.dst a ((t, .kb true) :: s.env) fun env => vcOps det tab P N all rest ⟨env, s.next + m, ups ++ s.H⟩ ((rd, ups.map (·.1), s.next, m) :: tr) K
              else putVC N o.dst (.tup []) ((t, .kb true) :: s.env) fun env => vcOps det tab P N all rest ⟨env, s.next, s.H⟩ (([], [], s.next, 0) :: tr) K)
            (bif want
              then putVC N o.dst (.tup []) ((t, .kb false) :: s.env) fun env => vcOps det tab P N all rest ⟨env, s.next, s.H⟩ (([], [], s.next, 0) :: tr) K
              else opVC det tab P (lkOf ((t, .kb false) :: s.env)) s.next s.H.get o.op fun a ups m rd => putVC N o.dst a ((t, .kb false) :: s.env) fun env => vcOps det tab P N all rest ⟨env, s.next + m, ups ++ s.H⟩ ((rd, ups.map (·.1), s.next, m) :: tr) K)
        | .tup _ => putVC N o.dst (.tup []) s.env fun env => vcOps det tab P N all rest ⟨env, s.next, s.H⟩ (([], [], s.next, 0) :: tr) K
        | _ => False

theorem look_cons {e : Env} {t t' : Nat} {a : AVal} : look ((t', a) :: e) t = if t' = t then a else look e t := by
  simp only [look]
  by_cases h : t' = t
  · subst h; rw [Nat.beq_refl, cond_true, if_pos rfl]
  · rw [if_neg h]
    cases hb : Nat.beq t' t
    · rfl
    · exact absurd (Nat.eq_of_beq_eq_true hb) h
theorem constC_rel {r : Rho} {A : View} (v : Value) : VRel r A v (constC v) := by
  unfold constC
  split
  · exact .kb _
  · exact .dat (.int _ _)
  · exact .dat (.str _)
  · exact .nil _ (.inl rfl)
  · exact .cell _ rfl
  · exact .any _
theorem constA_rel {r : Rho} {A : View} (v : Value) : VRel r A v (constA v) := by
  unfold constA
  split
  · rename_i cs
    refine .agg cs _ (by simp) fun j a ha => ?_
    simp only [List.getElem?_map, Option.map_eq_some_iff] at ha
    obtain ⟨v, hv, rfl⟩ := ha
    have hv' : cs[j]? = some v := by simpa using hv
    have hlt : j < cs.size := (Array.getElem?_eq_some_iff.1 hv').1
    have he : cs[j] = v := by simpa [hlt] using hv'
    have : cs.getD j undef = v := by simp [hlt, he]
    rw [this]
    exact constC_rel v
  · exact constC_rel v

/-- A state, and what is known of it. -/
structure Sim (N : Nat) (w0 : World) (A0 : View) (B0 : Began) (s : St) (r : Rho) (A : View) (act : Act) (w : World) : Prop where
  defers : act.defers = []
  size : act.tmps.size = nOf N
  env : ∀ t, VRel r A (act.tmps.getD t undef) (look s.env t)
  core : Core r A w s.H.get
  fresh : ∀ h, s.next ≤ h → r h = none
  frame : Fr w0 A0 w A B0.B
  own : ∀ b, LiveB r s.H.get b → w0.heap.size ≤ b ∨ B0.B b
  keep : ∀ h, h < kOf N → r h = B0.r0 h
  low : kOf N ≤ s.next

section
variable {P : Program} {tab : Tab} {N : Nat} {w0 : World} {A0 : View} {B0 : Began}

theorem Sim.opnd {s : St} {r : Rho} {A : View} {act : Act} {w : World} (h : Sim N w0 A0 B0 s r A act w) (x : Operand) : VRel r A (act.eval x) (lkOf s.env x) := by
  cases x with
  | tmp t => exact h.env t
  | const v => exact constA_rel v
  | global g => exact .any _
  | func f => exact .fn (.func f) #[] #[] [] [] rfl rfl (by simp) (by simp)
/-- A value is put into a slot. -/
theorem env_put {r r' : Rho} {A A' : View} {act : Act} {e : Env} (hs : act.tmps.size = nOf N) (h : ∀ t, VRel r A (act.tmps.getD t undef) (look e t)) (hr : RSub r r') (hA : Sub A A') {dst : Option Tmp} {a : AVal} {v : Value} (hv : VRel r' A' v a) {k : Env → Prop} (hk : putVC N dst a e k) :
    ∃ e', k e' ∧ (act.put dst v).tmps.size = nOf N ∧ (act.put dst v).defers = act.defers ∧ ∀ t, VRel r' A' ((act.put dst v).tmps.getD t undef) (look e' t) := by
  cases dst with
  | none => exact ⟨e, hk, hs, rfl, fun t => (h t).mono hr hA⟩
  | some d =>
    simp only [putVC] at hk
    cases hb : Nat.blt d (nOf N)
    · rw [hb] at hk; exact hk.elim
    rw [hb, cond_true] at hk
    have hd := hblt hb
    refine ⟨_, hk, by simp [Act.put, hs], rfl, fun t => ?_⟩
    rw [look_cons]
    by_cases ht : d = t
    · subst ht
      rw [if_pos rfl]
      have : (act.put (some d) v).tmps.getD d undef = v := by simp [Act.put, hs, hd]
      rw [this]; exact hv
    · rw [if_neg ht]
      have : (act.put (some d) v).tmps.getD t undef = act.tmps.getD t undef := by simp [Act.put, Array.getElem?_setIfInBounds_ne ht]
      rw [this]
      exact (h t).mono hr hA
theorem Sim.step {s : St} {r : Rho} {A : View} {act : Act} {w : World} (h : Sim N w0 A0 B0 s r A act w) {ups : Heap} {m : Nat} {a : AVal} {v : Value} {w' : World} (hp : OpPost r A w s.H.get ups s.next m a v w') {dst : Option Tmp} {k : Env → Prop} (hk : putVC N dst a s.env k) :
    ∃ e' r' A', k e' ∧ Sim N w0 A0 B0 ⟨e', s.next + m, ups ++ s.H⟩ r' A' (act.put dst v) w' := by
  obtain ⟨r', A', h1, h2, h3, h4, h5, h6⟩ := hp
  obtain ⟨e', k1, k2, k3, k4⟩ := env_put h.size h.env h1 h5.sub h4 hk
  have hg : Heap.get (ups ++ s.H) = over ups s.H.get := funext fun x => over_app_get ups s.H x
  refine ⟨e', r', A', k1, k3.trans h.defers, k2, k4, by rw [hg]; exact h3, fun x hx => ?_, h.frame.trans h5 fun b hb hl => ?_, fun b hb => ?_, fun x hx => (h2 x (.inl (Nat.lt_of_lt_of_le hx h.low))).trans (h.keep x hx), Nat.le_trans h.low (Nat.le_add_right _ _)⟩
  · rw [h2 x (.inr hx)]
    exact h.fresh x (Nat.le_trans (Nat.le_add_right _ _) hx)
  · exact (h.own b hl).resolve_left (Nat.not_le.2 hb)
  · rw [hg] at hb
    rcases h6 b hb with h7 | h7
    · exact h.own b h7
    · exact .inl (Nat.le_trans h.frame.size h7)
theorem undef_rel {r : Rho} {A : View} : VRel r A undef (.tup []) := .tup #[] [] rfl (by simp)
theorem Sim.skip {s : St} {r : Rho} {A : View} {act : Act} {w : World} (h : Sim N w0 A0 B0 s r A act w) {dst : Option Tmp} {k : Env → Prop} (hk : putVC N dst (.tup []) s.env k) :
    ∃ e', k e' ∧ Sim N w0 A0 B0 ⟨e', s.next, s.H⟩ r A (act.put dst undef) w := by
  obtain ⟨e', k1, k2, k3, k4⟩ := env_put h.size h.env (RSub.refl r) (Sub.refl A) undef_rel hk
  exact ⟨e', k1, k3.trans h.defers, k2, k4, h.core, h.fresh, h.frame, h.own, h.keep, h.low⟩
theorem Sim.known {s : St} {r : Rho} {A : View} {act : Act} {w : World} (h : Sim N w0 A0 B0 s r A act w) {t : Nat} {b : Bool} (hl : look s.env t = .dat (.bool b)) : Sim N w0 A0 B0 ⟨(t, .kb b) :: s.env, s.next, s.H⟩ r A act w := by
  refine ⟨h.defers, h.size, fun x => ?_, h.core, h.fresh, h.frame, h.own, h.keep, h.low⟩
  rw [look_cons]
  by_cases hx : t = x
  · subst hx
    rw [if_pos rfl]
    have := h.env t
    rw [hl] at this
    generalize act.tmps.getD t undef = v at this
    cases this with | dat hr => cases hr; exact .kb b
  · rw [if_neg hx]; exact h.env x
/-- Is it wanted? -/
theorem wanted_of {ops : List Oper} {o : Oper} {j : Nat} {want : Bool} (hg : o.guard = some (j, want)) {t : Nat} (ht : (nth ops j).bind (·.dst) = some t) {r : Rho} {A : View} {act : Act} {b : Bool} (hv : VRel r A (act.tmps.getD t undef) (.kb b)) :
    Region.wanted o (yielded ops.toArray act.tmps) = (b == want) := by
  rw [nth_get] at ht
  generalize hx : act.tmps.getD t undef = v at hv
  cases hv
  have hx' : act.tmps[t]? = some (.bool b) := by
    rcases Nat.lt_or_ge t act.tmps.size with hlt | hge
    · simpa [hlt] using hx
    · simp [Array.getElem?_eq_none hge, undef] at hx
  unfold Region.wanted
  rw [hg]
  simp only [yielded, List.getElem?_toArray, ht, Option.bind_some, hx']
  cases b <;> cases want <;> rfl
theorem wanted_tup {ops : List Oper} {o : Oper} {j : Nat} {want : Bool} (hg : o.guard = some (j, want)) {t : Nat} (ht : (nth ops j).bind (·.dst) = some t) {r : Rho} {A : View} {act : Act} {xs : List AVal} (hv : VRel r A (act.tmps.getD t undef) (.tup xs)) :
    Region.wanted o (yielded ops.toArray act.tmps) = false := by
  rw [nth_get] at ht
  generalize hx : act.tmps.getD t undef = v at hv
  cases hv with
  | tup cs _ hn h =>
  unfold Region.wanted
  rw [hg]
  simp only [yielded, List.getElem?_toArray, ht, Option.bind_some]
  rcases Nat.lt_or_ge t act.tmps.size with hlt | hge
  · have hx' : act.tmps[t]? = some (.tuple cs) := by simpa [hlt] using hx
    simp [hx']
  · simp [Array.getElem?_eq_none hge]
theorem op_run (ht : TabOk P tab) {det : Bool} {o : Oper} {lk : Operand → AVal} {next : Nat} {g : Nat → Entry} {k : Kont} (h : opVC det tab P lk next g o.op k) : RunOk P o lk next g k := by
  rcases op_sound ht h with h | h
  · exact h.run
  · exact h.2
/-- Operations in order do what is asked of them. -/
theorem vcOps_sound (ht : TabOk P tab) {det : Bool} {ops : Array Oper} {Q : Exit → Act → World → Prop} {K : St → Trace → Prop} (hK : ∀ s tr r A act w, K s tr → Sim N w0 A0 B0 s r A act w → Q .normal act w) :
    ∀ (l : List Oper) (s : St) (tr : Trace) (r : Rho) (A : View) (act : Act) (w : World), vcOps det tab P N ops.toList l s tr K → Sim N w0 A0 B0 s r A act w → wpList P ops Q l act w
  | [], s, tr, r, A, act, w, h, hs => hK s tr r A act w h hs
  | o :: rest, s, tr, r, A, act, w, h, hs => by
    have run : ∀ (s : St) (r : Rho) (A : View) (act : Act) (w : World), Sim N w0 A0 B0 s r A act w → Region.wanted o (yielded ops act.tmps) = true →
        (opVC det tab P (lkOf s.env) s.next s.H.get o.op fun a ups m rd => putVC N o.dst a s.env fun env => vcOps det tab P N ops.toList rest ⟨env, s.next + m, ups ++ s.H⟩ ((rd, ups.map (·.1), s.next, m) :: tr) K) → wpList P ops Q (o :: rest) act w := fun s r A act w hs hw h => by
      refine wpList_step fun K' hK' => ?_
      rw [if_pos hw]
      have hr := op_run ht h
      refine hr r A w act hs.fresh hs.core (fun x _ => hs.opnd x) K' Q fun v w' hv => ?_
      obtain ⟨a, ups, m, rd, hk, hp⟩ := hv
      obtain ⟨e', r', A', k1, k2⟩ := hs.step hp hk
      exact hK' _ _ (vcOps_sound ht hK rest _ _ r' A' _ w' k1 k2)
    have skip : ∀ (s : St) (r : Rho) (A : View) (act : Act) (w : World), Sim N w0 A0 B0 s r A act w → Region.wanted o (yielded ops act.tmps) = false →
        (putVC N o.dst (.tup []) s.env fun env => vcOps det tab P N ops.toList rest ⟨env, s.next, s.H⟩ (([], [], s.next, 0) :: tr) K) → wpList P ops Q (o :: rest) act w := fun s r A act w hs hw h => by
      refine wpList_step fun K' hK' => ?_
      rw [if_neg (by rw [hw]; simp)]
      obtain ⟨e', k1, k2⟩ := hs.skip h
      exact hK' _ _ (vcOps_sound ht hK rest _ _ r A _ w k1 k2)
    simp only [vcOps] at h
    split at h
    · rename_i hg
      exact run s r A act w hs (by simp [Region.wanted, hg]) h
    · rename_i j want hg
      split at h
      · exact h.elim
      rename_i t hj
      have wt : ∀ {e : Env} {b : Bool}, VRel r A (act.tmps.getD t undef) (.kb b) → Region.wanted o (yielded ops act.tmps) = (b == want) := fun hv => by
        have := wanted_of hg hj hv
        simpa using this
      split at h
      · rename_i b hl
        have hv := hs.env t
        rw [hl] at hv
        have hw := wt (e := []) hv
        cases hbw : b == want
        · rw [hbw, cond_false] at h
          exact skip s r A act w hs (hw.trans hbw) h
        · rw [hbw, cond_true] at h
          exact run s r A act w hs (hw.trans hbw) h
      · rename_i b hl
        have hs' := hs.known hl
        have hv := hs'.env t
        rw [look_cons, if_pos rfl] at hv
        have hw := wt (e := []) hv
        cases b
        · have h := h.onFalse rfl
          cases want
          · rw [cond_false] at h; exact run _ r A act w hs' hw h
          · rw [cond_true] at h; exact skip _ r A act w hs' hw h
        · have h := h.onTrue rfl
          cases want
          · rw [cond_false] at h; exact skip _ r A act w hs' hw h
          · rw [cond_true] at h; exact run _ r A act w hs' hw h
      · rename_i xs hl
        have hv := hs.env t
        rw [hl] at hv
        exact skip s r A act w hs (by simpa using wanted_tup hg hj hv) h
      · exact h.elim
end
end Go.Proofs.YtlioojekjnigiaeGreat.AM
/- Regions whose order is left open: what is asked of them in their own order is enough. -/
namespace Go.Proofs.YtlioojekjnigiaeGreat.AM
set_option linter.unusedVariables false
set_option linter.unusedSimpArgs false

/-- What was known of an operation, in the region's own order. -/
structure Rec where
  o : Oper
  want : Bool
  s : St
  a : AVal
  ups : Heap
  m : Nat
  rd : List Nat
/-- What slots hold behind some of the operations. -/
def lookX (X : Nat → Bool) : List Rec → Nat → (Nat → AVal) → Nat → AVal
  | [], _, base => base
  | rc :: rest, i, base => lookX X rest (i + 1) fun t => if X i = true ∧ rc.o.dst = some t then rc.a else base t
def getX (X : Nat → Bool) : List Rec → Nat → (Nat → Entry) → Nat → Entry
  | [], _, base => base
  | rc :: rest, i, base => getX X rest (i + 1) fun h => if X i = true then over rc.ups base h else base h

theorem lookX_agree {X Y : Nat → Bool} {t : Nat} : ∀ (l : List Rec) (i : Nat) (b b' : Nat → AVal), b t = b' t → (∀ k rc, l[k]? = some rc → rc.o.dst = some t → X (i + k) = Y (i + k)) → lookX X l i b t = lookX Y l i b' t
  | [], i, b, b', hb, h => hb
  | rc :: rest, i, b, b', hb, h => by
    refine lookX_agree rest (i + 1) _ _ ?_ fun k rc hk hd => by rw [show i + 1 + k = i + (k + 1) by omega]; exact h (k + 1) rc (by simpa using hk) hd
    by_cases hd : rc.o.dst = some t
    · have := h 0 rc rfl hd
      simp only [Nat.add_zero] at this
      simp only [this, hd, and_true]
      split
      · rfl
      · exact hb
    · simp only [hd, and_false, if_false]; exact hb
theorem lookX_last {X : Nat → Bool} {t : Nat} : ∀ (l : List Rec) (i k : Nat) (rc : Rec) (b : Nat → AVal), l[k]? = some rc → rc.o.dst = some t → X (i + k) = true → (∀ q rc', l[q]? = some rc' → k < q → rc'.o.dst = some t → X (i + q) = false) → lookX X l i b t = rc.a
  | [], i, k, rc, b, hk, hd, hx, h => by simp at hk
  | rc0 :: rest, i, 0, rc, b, hk, hd, hx, h => by
    obtain rfl : rc0 = rc := by simpa using hk
    simp only [lookX]
    rw [lookX_agree (Y := fun _ => false) rest (i + 1) _ (fun _ => rc0.a) (by simp only [Nat.add_zero] at hx; simp only [hx, hd, and_self, if_true]) fun q rc' hq hd' => ?_]
    · have : ∀ (l : List Rec) (i : Nat) (b : Nat → AVal), lookX (fun _ => false) l i b t = b t := fun l => by
        induction l with
        | nil => intro i b; rfl
        | cons x xs ih => intro i b; simp only [lookX, ih]; simp
      rw [this]
    · have := h (q + 1) rc' (by simpa using hq) (by omega) hd'
      rw [show i + 1 + q = i + (q + 1) by omega]; exact this
  | rc0 :: rest, i, k + 1, rc, b, hk, hd, hx, h => by
    simp only [lookX]
    refine lookX_last rest (i + 1) k rc _ (by simpa using hk) hd (by rw [show i + 1 + k = i + (k + 1) by omega]; exact hx) fun q rc' hq hlt hd' => ?_
    rw [show i + 1 + q = i + (q + 1) by omega]
    exact h (q + 1) rc' (by simpa using hq) (by omega) hd'
theorem getX_agree {X Y : Nat → Bool} {h : Nat} : ∀ (l : List Rec) (i : Nat) (b b' : Nat → Entry), b h = b' h → (∀ k rc, l[k]? = some rc → h ∈ rc.ups.map (·.1) → X (i + k) = Y (i + k)) → getX X l i b h = getX Y l i b' h
  | [], i, b, b', hb, hh => hb
  | rc :: rest, i, b, b', hb, hh => by
    refine getX_agree rest (i + 1) _ _ ?_ fun k rc hk hd => by rw [show i + 1 + k = i + (k + 1) by omega]; exact hh (k + 1) rc (by simpa using hk) hd
    by_cases hd : h ∈ rc.ups.map (·.1)
    · have := hh 0 rc rfl hd
      simp only [Nat.add_zero] at this
      rw [this]
      split
      · exact over_in hd _
      · exact hb
    · rw [over_keys hd, over_keys hd]
      simp only [ite_self]
      exact hb
theorem getX_last {X : Nat → Bool} {h : Nat} (g : Nat → Entry) : ∀ (l : List Rec) (i k : Nat) (rc : Rec) (b : Nat → Entry), l[k]? = some rc → h ∈ rc.ups.map (·.1) → X (i + k) = true → (∀ q rc', l[q]? = some rc' → k < q → h ∈ rc'.ups.map (·.1) → X (i + q) = false) → getX X l i b h = over rc.ups g h
  | [], i, k, rc, b, hk, hd, hx, hh => by simp at hk
  | rc0 :: rest, i, 0, rc, b, hk, hd, hx, hh => by
    obtain rfl : rc0 = rc := by simpa using hk
    simp only [getX]
    rw [getX_agree (Y := fun _ => false) rest (i + 1) _ (over rc0.ups g) (by simp only [Nat.add_zero] at hx; simp only [hx, if_true]; exact over_in hd _) fun q rc' hq hd' => ?_]
    · have : ∀ (l : List Rec) (i : Nat) (b : Nat → Entry), getX (fun _ => false) l i b h = b h := fun l => by
        induction l with
        | nil => intro i b; rfl
        | cons x xs ih => intro i b; simp only [getX, ih]; simp
      rw [this]
    · have := hh (q + 1) rc' (by simpa using hq) (by omega) hd'
      rw [show i + 1 + q = i + (q + 1) by omega]; exact this
  | rc0 :: rest, i, k + 1, rc, b, hk, hd, hx, hh => by
    simp only [getX]
    refine getX_last g rest (i + 1) k rc _ (by simpa using hk) hd (by rw [show i + 1 + k = i + (k + 1) by omega]; exact hx) fun q rc' hq hlt hd' => ?_
    rw [show i + 1 + q = i + (q + 1) by omega]
    exact hh (q + 1) rc' (by simpa using hq) (by omega) hd'
theorem lookX_snoc {X : Nat → Bool} : ∀ (l : List Rec) (rc : Rec) (i : Nat) (b : Nat → AVal), lookX X (l ++ [rc]) i b = fun t => if X (i + l.length) = true ∧ rc.o.dst = some t then rc.a else lookX X l i b t
  | [], rc, i, b => rfl
  | x :: t, rc, i, b => by
    simp only [List.cons_append, lookX]
    rw [lookX_snoc t rc (i + 1)]
    simp only [List.length_cons, show i + 1 + t.length = i + (t.length + 1) by omega]
theorem getX_snoc {X : Nat → Bool} : ∀ (l : List Rec) (rc : Rec) (i : Nat) (b : Nat → Entry), getX X (l ++ [rc]) i b = fun h => if X (i + l.length) = true then over rc.ups (getX X l i b) h else getX X l i b h
  | [], rc, i, b => rfl
  | x :: t, rc, i, b => by
    simp only [List.cons_append, getX]
    rw [getX_snoc t rc (i + 1)]
    simp only [List.length_cons, show i + 1 + t.length = i + (t.length + 1) by omega]

/-- The same, or what of it is known better. -/
def Finer (a b : AVal) : Prop := b = a ∨ ∃ x, a = .dat (.bool x) ∧ b = .kb x
theorem Finer.rel {r : Rho} {A : View} {v : Value} {a b : AVal} (h : Finer a b) (hv : VRel r A v a) : VRel r A v b := by
  rcases h with rfl | ⟨x, rfl, rfl⟩
  · exact hv
  · cases hv with | dat hr => cases hr; exact .kb x

section
variable {P : Program} {tab : Tab} {N : Nat}

/-- What a guard's slot tells. -/
def guardTells (a : AVal) (want got : Bool) : Prop := (∃ b, a = .kb b ∧ got = (b == want)) ∨ ∃ xs, a = .tup xs ∧ got = false
/-- The record of an operation fits what comes ahead of it. -/
structure RecOk (P : Program) (N : Nat) (ops : List Oper) (base : Nat → AVal) (bg : Nat → Entry) (pre : List Rec) (rc : Rec) : Prop where
  op : ops[pre.length]? = some rc.o
  sem : rc.want = true → OpSem P rc.o (lkOf rc.s.env) rc.s.next rc.s.H.get rc.a rc.ups rc.m rc.rd
  none : rc.want = false → rc.a = .tup [] ∧ rc.ups = [] ∧ rc.m = 0 ∧ rc.rd = []
  env : ∀ t, Finer (lookX (fun _ => true) pre 0 base t) (look rc.s.env t)
  heap : ∀ h, rc.s.H.get h = getX (fun _ => true) pre 0 bg h
  dst : ∀ d, rc.o.dst = some d → d < nOf N
  guard : (rc.o.guard = Option.none ∧ rc.want = true) ∨ ∃ j want t, rc.o.guard = some (j, want) ∧ (ops[j]?).bind (·.dst) = some t ∧ guardTells (look rc.s.env t) want rc.want
theorem putVC_ok {dst : Option Tmp} {a : AVal} {e : Env} {k : Env → Prop} (h : putVC N dst a e k) : ∃ e', k e' ∧ (∀ d, dst = some d → d < nOf N) ∧ ∀ t, look e' t = if dst = some t then a else look e t := by
  cases dst with
  | none => exact ⟨e, h, fun d hd => (by cases hd), fun t => (by simp)⟩
  | some d =>
    simp only [putVC] at h
    cases hb : Nat.blt d (nOf N)
    · rw [hb] at h; exact h.elim
    rw [hb, cond_true] at h
    exact ⟨_, h, fun d' hd => by cases hd; exact hblt hb, fun t => by rw [look_cons]; simp⟩
def Traced (P : Program) (N : Nat) (all : List Oper) (base : Nat → AVal) (bg : Nat → Entry) (K : St → Trace → Prop) (l : List Oper) (pre : List Rec) (s : St) (tr : Trace) : Prop :=
  ∃ (recs : List Rec) (s' : St) (tr' : Trace), K s' tr' ∧ recs.length = l.length ∧ (∀ t, Finer (lookX (fun _ => true) (pre ++ recs) 0 base t) (look s'.env t)) ∧ (∀ h, s'.H.get h = getX (fun _ => true) (pre ++ recs) 0 bg h) ∧
    (∀ (q : Nat) (rc : Rec), recs[q]? = some rc → RecOk P N all base bg (pre ++ recs.take q) rc) ∧ tr' = (recs.map fun rc => (rc.rd, rc.ups.map (·.1), rc.s.next, rc.m)).reverse ++ tr ∧
    (∀ (q : Nat) (rc : Rec), recs[q]? = some rc → s.next ≤ rc.s.next ∧ rc.s.next + rc.m ≤ s'.next) ∧ (∀ (q q' : Nat) (rc rc' : Rec), recs[q]? = some rc → recs[q']? = some rc' → q < q' → rc.s.next + rc.m ≤ rc'.s.next) ∧ s.next ≤ s'.next
/-- The records that what is asked of a region leaves. -/
theorem vcOps_recs (ht : TabOk P tab) {all : List Oper} {base : Nat → AVal} {bg : Nat → Entry} {K : St → Trace → Prop} : ∀ (l : List Oper) (pre : List Rec) (s : St) (tr : Trace), all = pre.map (·.o) ++ l → vcOps true tab P N all l s tr K →
    (∀ t, Finer (lookX (fun _ => true) pre 0 base t) (look s.env t)) → (∀ h, s.H.get h = getX (fun _ => true) pre 0 bg h) → Traced P N all base bg K l pre s tr
  | [], pre, s, tr, ha, h, he, hh => ⟨[], s, tr, h, rfl, by simpa using he, by simpa using hh, by simp, by simp, by simp, by simp, Nat.le_refl _⟩
  | o :: rest, pre, s, tr, ha, h, he, hh => by
    have hop : all[pre.length]? = some o := by rw [ha]; simp
    have fin : ∀ (want : Bool) (s1 : St) (a : AVal) (ups : Heap) (m : Nat) (rd : List Nat) (e' : Env), s1.next = s.next → s1.H = s.H → RecOk P N all base bg pre ⟨o, want, s1, a, ups, m, rd⟩ → (∀ t, look e' t = if o.dst = some t then a else look s1.env t) →
        vcOps true tab P N all rest ⟨e', s1.next + m, ups ++ s1.H⟩ ((rd, ups.map (·.1), s1.next, m) :: tr) K → Traced P N all base bg K (o :: rest) pre s tr := fun want s1 a ups m rd e' hn hH hrec hl h => by
      obtain ⟨recs, s', tr', k1, k2, k3, k4, k5, k6, k7, k8, k9⟩ := vcOps_recs ht rest (pre ++ [⟨o, want, s1, a, ups, m, rd⟩]) ⟨e', s1.next + m, ups ++ s1.H⟩ _ (by rw [ha]; simp) h (fun t => by
        rw [lookX_snoc]
        simp only [Nat.zero_add, true_and]
        rw [hl]
        by_cases hd : o.dst = some t
        · rw [if_pos hd, if_pos hd]; exact .inl rfl
        · rw [if_neg hd, if_neg hd]; exact hrec.env t) (fun h => by
        rw [getX_snoc]
        simp only [Nat.zero_add, if_true]
        rw [over_app_get]
        have : s1.H.get = getX (fun _ => true) pre 0 bg := funext hrec.heap
        rw [this])
      refine ⟨⟨o, want, s1, a, ups, m, rd⟩ :: recs, s', tr', k1, by simp [k2], by simpa using k3, by simpa using k4, fun q rc hq => ?_, by rw [k6]; simp, fun q rc hq => ?_, fun q q' rc rc' hq hq' hlt => ?_, by simp only at k9; omega⟩
      · match q with
        | 0 =>
          obtain rfl : _ = rc := by simpa using hq
          simpa using hrec
        | q + 1 =>
          have := k5 q rc (by simpa using hq)
          simpa using this
      · match q with
        | 0 =>
          obtain rfl : _ = rc := by simpa using hq
          simp only at k9 ⊢
          omega
        | q + 1 =>
          have := k7 q rc (by simpa using hq)
          simp only at this
          omega
      · match q, q' with
        | 0, q' + 1 =>
          obtain rfl : _ = rc := by simpa using hq
          have := k7 q' rc' (by simpa using hq')
          exact this.1
        | q + 1, q' + 1 => exact k8 q q' rc rc' (by simpa using hq) (by simpa using hq') (by omega)
    have run : ∀ (s1 : St), s1.next = s.next → s1.H = s.H → (∀ t, Finer (lookX (fun _ => true) pre 0 base t) (look s1.env t)) → ((o.guard = Option.none) ∨ ∃ j want t, o.guard = some (j, want) ∧ (all[j]?).bind (·.dst) = some t ∧ guardTells (look s1.env t) want true) →
        (opVC true tab P (lkOf s1.env) s1.next s1.H.get o.op fun a ups m rd => putVC N o.dst a s1.env fun env => vcOps true tab P N all rest ⟨env, s1.next + m, ups ++ s1.H⟩ ((rd, ups.map (·.1), s1.next, m) :: tr) K) → Traced P N all base bg K (o :: rest) pre s tr := fun s1 hn hH he1 hg h => by
      rcases op_sound ht h with h | ⟨h, _⟩
      · obtain ⟨a, ups, m, rd, hk, hs⟩ := h
        obtain ⟨e', k1, k2, k3⟩ := putVC_ok hk
        exact fin true s1 a ups m rd e' hn hH ⟨hop, fun _ => hs, fun h => (by cases h), he1, fun x => (by rw [hH]; exact hh x), k2, hg.imp (fun h => ⟨h, rfl⟩) id⟩ k3 k1
      · cases h
    have skip : ∀ (s1 : St), s1.next = s.next → s1.H = s.H → (∀ t, Finer (lookX (fun _ => true) pre 0 base t) (look s1.env t)) → (∃ j want t, o.guard = some (j, want) ∧ (all[j]?).bind (·.dst) = some t ∧ guardTells (look s1.env t) want false) →
        (putVC N o.dst (.tup []) s1.env fun env => vcOps true tab P N all rest ⟨env, s1.next, s1.H⟩ (([], [], s1.next, 0) :: tr) K) → Traced P N all base bg K (o :: rest) pre s tr := fun s1 hn hH he1 hg h => by
      obtain ⟨e', k1, k2, k3⟩ := putVC_ok h
      exact fin false s1 (.tup []) [] 0 [] e' hn hH ⟨hop, fun h => (by cases h), fun _ => ⟨rfl, rfl, rfl, rfl⟩, he1, fun x => (by rw [hH]; exact hh x), k2, .inr hg⟩ k3 (by simpa using k1)
    simp only [vcOps] at h
    split at h
    · rename_i hg
      exact run s rfl rfl he (.inl hg) h
    · rename_i j want hg
      split at h
      · exact h.elim
      rename_i t hj
      rw [nth_get] at hj
      split at h
      · rename_i b hl
        cases hbw : b == want
        · rw [hbw, cond_false] at h
          exact skip s rfl rfl he ⟨j, want, t, hg, hj, .inl ⟨b, hl, hbw.symm⟩⟩ h
        · rw [hbw, cond_true] at h
          exact run s rfl rfl he (.inr ⟨j, want, t, hg, hj, .inl ⟨b, hl, hbw.symm⟩⟩) h
      · rename_i b hl
        have hF : ∀ t', Finer (lookX (fun _ => true) pre 0 base t') (look ((t, .kb b) :: s.env) t') := fun t' => by
          rw [look_cons]
          by_cases hx : t = t'
          · subst hx
            rw [if_pos rfl]
            rcases he t with h1 | ⟨x, h1, h2⟩
            · exact .inr ⟨b, by rw [← h1, hl], rfl⟩
            · rw [hl] at h2; cases h2
          · rw [if_neg hx]; exact he t'
        have hlk : look ((t, .kb b) :: s.env) t = .kb b := by rw [look_cons, if_pos rfl]
        cases b
        · have h := h.onFalse rfl
          cases want
          · rw [cond_false] at h; exact run ⟨(t, .kb false) :: s.env, s.next, s.H⟩ rfl rfl hF (.inr ⟨j, false, t, hg, hj, .inl ⟨_, hlk, rfl⟩⟩) h
          · rw [cond_true] at h; exact skip ⟨(t, .kb false) :: s.env, s.next, s.H⟩ rfl rfl hF ⟨j, true, t, hg, hj, .inl ⟨_, hlk, rfl⟩⟩ h
        · have h := h.onTrue rfl
          cases want
          · rw [cond_false] at h; exact skip ⟨(t, .kb true) :: s.env, s.next, s.H⟩ rfl rfl hF ⟨j, false, t, hg, hj, .inl ⟨_, hlk, rfl⟩⟩ h
          · rw [cond_true] at h; exact run ⟨(t, .kb true) :: s.env, s.next, s.H⟩ rfl rfl hF (.inr ⟨j, true, t, hg, hj, .inl ⟨_, hlk, rfl⟩⟩) h
      · rename_i xs hl
        exact skip s rfl rfl he ⟨j, want, t, hg, hj, .inr ⟨xs, hl, rfl⟩⟩ h
      · exact h.elim
end
end Go.Proofs.YtlioojekjnigiaeGreat.AM
/- Regions whose order is left open. -/
namespace Go.Proofs.YtlioojekjnigiaeGreat.AM
set_option linter.unusedVariables false
set_option linter.unusedSimpArgs false

/-- What comes ahead of an operation in whatever order, as a number's bits. -/
def befOf (acc : List Nat) (o : Oper) : Nat := o.after.toList.foldl (fun s e => bif Region.binds .any e then s ||| (2 ^ e.on ||| (nth acc e.on).getD 0) else s) 0
def befs : List Oper → List Nat → List Nat
  | [], acc => acc
  | o :: t, acc => befs t (acc ++ [befOf acc o])
def disj (a b : List Nat) : Bool := a.all fun x => b.all fun y => !Nat.beq x y
/-- Two operations that may come up in either order: neither sees the other. -/
def pairOk (ops : Array Oper) (oi oj : Oper) (ti tj : List Nat × List Nat × Nat × Nat) : Bool := oi.apart ops oj && disj ti.2.1 (tj.1 ++ tj.2.1) && disj tj.2.1 ti.1
def edgesOk (B : List Nat) (i : Nat) (o : Oper) : Bool := (o.after.toList.all fun e => !Region.binds .any e || Nat.blt e.on i) && Nat.beq ((nth B i).getD 0) (befOf B o) && match o.guard with
  | some (j, _) => ((nth B i).getD 0).testBit j
  | none => true
def rowOk (ops : Array Oper) (B : List Nat) (j : Nat) (oj : Oper) (tj : List Nat × List Nat × Nat × Nat) : Nat → List Oper → Trace → Bool
  | _, [], _ => true
  | i, oi :: t, ti :: u => (Nat.ble j i || ((nth B j).getD 0).testBit i || pairOk ops oi oj ti tj) && rowOk ops B j oj tj (i + 1) t u
  | _, _ :: _, [] => false
def allOk (ops : Array Oper) (B : List Nat) (l : List Oper) (tr : Trace) : Nat → List Oper → Trace → Bool
  | _, [], _ => true
  | j, oj :: t, tj :: u => edgesOk B j oj && rowOk ops B j oj tj 0 l tr && allOk ops B l tr (j + 1) t u
  | _, _ :: _, [] => false
def confOk (P : Program) (ops : Array Oper) (tr : Trace) : Bool := allOk ops (befs ops.toList []) ops.toList tr.reverse 0 ops.toList tr.reverse && Region.noSelect ops

theorem lookX_no {t : Nat} : ∀ (l : List Rec) (i : Nat) (b : Nat → AVal), lookX (fun _ => false) l i b t = b t
  | [], i, b => rfl
  | x :: xs, i, b => by simp only [lookX, lookX_no xs]; simp
theorem getX_no {h : Nat} : ∀ (l : List Rec) (i : Nat) (b : Nat → Entry), getX (fun _ => false) l i b h = b h
  | [], i, b => rfl
  | x :: xs, i, b => by simp only [getX, getX_no xs]; simp
theorem rowOk_get {ops : Array Oper} {B : List Nat} {j : Nat} {oj : Oper} {tj : List Nat × List Nat × Nat × Nat} : ∀ (l : List Oper) (tr : Trace) (i : Nat), rowOk ops B j oj tj i l tr = true → ∀ q oi ti, l[q]? = some oi → tr[q]? = some ti → i + q < j → ((nth B j).getD 0).testBit (i + q) = false → pairOk ops oi oj ti tj = true
  | [], tr, i, h, q, oi, ti, ho, ht, hlt, hb => by simp at ho
  | o :: t, [], i, h, q, oi, ti, ho, ht, hlt, hb => by simp at ht
  | o :: t, x :: u, i, h, q, oi, ti, ho, ht, hlt, hb => by
    simp only [rowOk, Bool.and_eq_true, Bool.or_eq_true] at h
    match q with
    | 0 =>
      obtain rfl : o = oi := by simpa using ho
      obtain rfl : x = ti := by simpa using ht
      rcases h.1 with (h1 | h1) | h1
      · have := Nat.le_of_ble_eq_true h1; omega
      · simp only [Nat.add_zero] at hb; rw [hb] at h1; cases h1
      · exact h1
    | q + 1 => exact rowOk_get t u (i + 1) h.2 q oi ti (by simpa using ho) (by simpa using ht) (by omega) (by rw [show i + 1 + q = i + (q + 1) by omega]; exact hb)
theorem allOk_get {ops : Array Oper} {B : List Nat} {l : List Oper} {tr : Trace} : ∀ (m : List Oper) (u : Trace) (j : Nat), allOk ops B l tr j m u = true → ∀ q oj, m[q]? = some oj → ∃ tj, u[q]? = some tj ∧ edgesOk B (j + q) oj = true ∧ rowOk ops B (j + q) oj tj 0 l tr = true
  | [], u, j, h, q, oj, ho => by simp at ho
  | o :: t, [], j, h, q, oj, ho => by simp [allOk] at h
  | o :: t, x :: u, j, h, q, oj, ho => by
    simp only [allOk, Bool.and_eq_true] at h
    match q with
    | 0 =>
      obtain rfl : o = oj := by simpa using ho
      exact ⟨x, rfl, h.1.1, h.1.2⟩
    | q + 1 =>
      have := allOk_get t u (j + 1) h.2 q oj (by simpa using ho)
      rw [show j + 1 + q = j + (q + 1) by omega] at this
      simpa using this
theorem disj_ok {a b : List Nat} (h : disj a b = true) {x : Nat} (ha : x ∈ a) : x ∉ b := fun hb => by
  have := List.all_eq_true.1 (List.all_eq_true.1 h x ha) x hb
  simp [Nat.beq_refl] at this
theorem befOf_bit {acc : List Nat} {o : Oper} {j : Nat} (h : (befOf acc o).testBit j = true) : ∃ e ∈ o.after, Region.binds .any e = true ∧ (e.on = j ∨ ((nth acc e.on).getD 0).testBit j = true) := by
  have key : ∀ (l : List Edge) (s : Nat), (l.foldl (fun s e => bif Region.binds .any e then s ||| (2 ^ e.on ||| (nth acc e.on).getD 0) else s) s).testBit j = true → s.testBit j = true ∨ ∃ e ∈ l, Region.binds .any e = true ∧ (e.on = j ∨ ((nth acc e.on).getD 0).testBit j = true) := fun l => by
    induction l with
    | nil => intro s h; exact .inl h
    | cons e t ih =>
      intro s h
      simp only [List.foldl_cons] at h
      rcases ih _ h with h | ⟨e', he', h⟩
      · cases hb : Region.binds .any e
        · rw [hb, cond_false] at h; exact .inl h
        · rw [hb, cond_true, Nat.testBit_or, Nat.testBit_or, Bool.or_eq_true, Bool.or_eq_true] at h
          rcases h with h | h | h
          · exact .inl h
          · refine .inr ⟨e, by simp, hb, .inl ?_⟩
            rw [Nat.testBit_two_pow] at h
            simpa using h
          · exact .inr ⟨e, by simp, hb, .inr h⟩
      · exact .inr ⟨e', by simp [he'], h⟩
  rcases key _ _ h with h | ⟨e, he, h⟩
  · simp at h
  · exact ⟨e, by simpa using he, h⟩

section
variable {P : Program} {tab : Tab} {N : Nat} {w0 : World} {A0 : View} {B0 : Began}

/-- What is known where some of the operations have come up. -/
structure SimX (N : Nat) (w0 : World) (A0 : View) (B0 : Began) (recs : List Rec) (base : Nat → AVal) (bg : Nat → Entry) (top : Nat) (X : Nat → Bool) (r : Rho) (A : View) (act : Act) (w : World) : Prop where
  defers : act.defers = []
  size : act.tmps.size = nOf N
  env : ∀ t, VRel r A (act.tmps.getD t undef) (lookX X recs 0 base t)
  core : Core r A w (getX X recs 0 bg)
  fresh : ∀ h, top ≤ h → r h = none
  unborn : ∀ (q : Nat) (rc : Rec), recs[q]? = some rc → X q = false → ∀ h, rc.s.next ≤ h → h < rc.s.next + rc.m → r h = none
  frame : Fr w0 A0 w A B0.B
  own : ∀ b, LiveB r (getX X recs 0 bg) b → w0.heap.size ≤ b ∨ B0.B b
  keep : ∀ h, h < kOf N → r h = B0.r0 h

theorem drawn_sound (ht : TabOk P tab) (hm : P.follows .mixedOrders = true) {ops : Array Oper} {id : Nat} {Q : Exit → Act → World → Prop} {K : St → Prop} (hK : ∀ s r A act w, K s → Sim N w0 A0 B0 s r A act w → Q .normal act w)
    {s : St} {r : Rho} {A : View} {act : Act} {w : World} (hs : Sim N w0 A0 B0 s r A act w) (h : vcOps true tab P N ops.toList ops.toList s [] fun s' tr => confOk P ops tr = true ∧ K s') : (Code.region id ops true).wp P Q act w := by
  obtain ⟨recs, s', tr', ⟨hconf, hk⟩, k2, k3, k4, k5, k6, k7, k8, k9⟩ := vcOps_recs ht (base := look s.env) (bg := s.H.get) ops.toList [] s [] (by simp) h (fun t => .inl rfl) (fun _ => rfl)
  simp only [List.nil_append] at k3 k4 k5
  simp only [List.append_nil] at k6
  subst k6
  simp only [confOk, List.reverse_reverse, Bool.and_eq_true] at hconf
  obtain ⟨hall, hns⟩ := hconf
  generalize hB : befs ops.toList [] = B at hall
  have hsz : recs.length = ops.size := by rw [k2]; simp
  have hop : ∀ (q : Nat) (rc : Rec), recs[q]? = some rc → ops[q]? = some rc.o := fun q rc hq => by
    have hlt := (List.getElem?_eq_some_iff.1 hq).1
    have := (k5 q rc hq).op
    rw [List.length_take, Nat.min_eq_left (by omega)] at this
    simpa using this
  -- what the check tells of an operation
  have tell : ∀ (q : Nat) (rc : Rec), recs[q]? = some rc → edgesOk B q rc.o = true ∧ ∀ (p : Nat) (rp : Rec), recs[p]? = some rp → p < q → ((nth B q).getD 0).testBit p = false → pairOk ops rp.o rc.o (rp.rd, rp.ups.map (·.1), rp.s.next, rp.m) (rc.rd, rc.ups.map (·.1), rc.s.next, rc.m) = true := fun q rc hq => by
    obtain ⟨tj, h1, h2, h3⟩ := allOk_get ops.toList _ 0 hall q rc.o (by simpa using hop q rc hq)
    rw [List.getElem?_map, hq] at h1
    simp only [Option.map_some, Option.some.injEq] at h1
    subst h1
    rw [Nat.zero_add] at h2 h3
    exact ⟨h2, fun p rp hp hlt hb => rowOk_get ops.toList _ 0 h3 p rp.o _ (by simpa using hop p rp hp) (by rw [List.getElem?_map, hp]; rfl) (by omega) (by rw [Nat.zero_add]; exact hb)⟩
  have edge : ∀ (q : Nat) (rc : Rec), recs[q]? = some rc → (∀ e ∈ rc.o.after, Region.binds .any e = true → e.on < q) ∧ (nth B q).getD 0 = befOf B rc.o ∧ ∀ j want, rc.o.guard = some (j, want) → ((nth B q).getD 0).testBit j = true := fun q rc hq => by
    have := (tell q rc hq).1
    simp only [edgesOk, Bool.and_eq_true] at this
    obtain ⟨⟨h1, h2⟩, h3⟩ := this
    refine ⟨fun e he hb => ?_, Nat.eq_of_beq_eq_true h2, fun j want hg => ?_⟩
    · have := List.all_eq_true.1 h1 e (by simpa using he)
      rw [hb] at this
      exact hblt (by simpa using this)
    · rw [hg] at h3; exact h3
  -- where the ones ahead of an operation have come up, all that comes ahead of those has too
  have closed : ∀ (X : Nat → Bool), (∀ (q : Nat) (rc : Rec), recs[q]? = some rc → X q = true → ∀ e ∈ rc.o.after, Region.binds .any e = true → X e.on = true) → ∀ (q : Nat) (rc : Rec), recs[q]? = some rc → (∀ e ∈ rc.o.after, Region.binds .any e = true → X e.on = true) → ∀ p, ((nth B q).getD 0).testBit p = true → X p = true := fun X hX => by
    intro q
    induction q using Nat.strongRecOn with
    | _ q ih =>
      intro rc hq he p hp
      rw [(edge q rc hq).2.1] at hp
      obtain ⟨e, h1, h2, h3⟩ := befOf_bit hp
      have hXe := he e h1 h2
      rcases h3 with rfl | h3
      · exact hXe
      · have hlt := (edge q rc hq).1 e h1 h2
        have hqlt := (List.getElem?_eq_some_iff.1 hq).1
        obtain ⟨re, hre⟩ : ∃ re, recs[e.on]? = some re := ⟨recs[e.on]'(by omega), List.getElem?_eq_getElem _⟩
        exact ih e.on hlt re hre (hX e.on re hre hXe) p h3
  -- the main part
  have main : ∀ (fuel : Nat) (listed : Array Bool) (r : Rho) (A : View) (act : Act) (w : World), listed.size = ops.size → ((List.range ops.size).filter fun i => !listed.getD i false).length ≤ fuel →
      (∀ (q : Nat) (rc : Rec), recs[q]? = some rc → listed.getD q false = true → ∀ e ∈ rc.o.after, Region.binds .any e = true → listed.getD e.on false = true) →
      SimX N w0 A0 B0 recs (look s.env) s.H.get s'.next (fun i => listed.getD i false) r A act w → wpAny P .any ops Q fuel listed act w := fun fuel => by
    -- all have come up
    have done : ∀ (listed : Array Bool) (r : Rho) (A : View) (act : Act) (w : World), listed.size = ops.size → (∀ i, i < ops.size → listed.getD i false = true) → SimX N w0 A0 B0 recs (look s.env) s.H.get s'.next (fun i => listed.getD i false) r A act w → Q .normal act w := fun listed r A act w hl hall hsx => by
      have e1 : ∀ t, lookX (fun i => listed.getD i false) recs 0 (look s.env) t = lookX (fun _ => true) recs 0 (look s.env) t := fun t => lookX_agree recs 0 _ _ rfl fun k rc hk _ => by
        have := (List.getElem?_eq_some_iff.1 hk).1
        simp only [Nat.zero_add]
        exact hall k (by omega)
      have e2 : getX (fun i => listed.getD i false) recs 0 s.H.get = s'.H.get := funext fun h => by
        rw [k4]
        exact getX_agree recs 0 _ _ rfl fun k rc hk _ => by
          have := (List.getElem?_eq_some_iff.1 hk).1
          simp only [Nat.zero_add]
          exact hall k (by omega)
      have hcore := hsx.core
      have hown := hsx.own
      rw [e2] at hcore hown
      exact hK s' r A act w hk ⟨hsx.defers, hsx.size, fun t => (k3 t).rel (by rw [← e1]; exact hsx.env t), hcore, hsx.fresh, hsx.frame, hown, hsx.keep, Nat.le_trans hs.low k9⟩
    have nil_all : ∀ (listed : Array Bool), listed.size = ops.size → Region.ready .any ops listed = [] → ∀ i, i < ops.size → listed.getD i false = true := fun listed hl hr i => by
      induction i using Nat.strongRecOn with
      | _ i ih =>
        intro hi
        cases hli : listed.getD i false with
        | true => rfl
        | false =>
          exfalso
          obtain ⟨rc, hrc⟩ : ∃ rc, recs[i]? = some rc := ⟨recs[i]'(by omega), List.getElem?_eq_getElem _⟩
          have hm : i ∈ Region.ready .any ops listed := mem_ready.2 ⟨by simpa [hl, hi] using hli, rc.o, hop i rc hrc, fun e he hb => ih e.on ((edge i rc hrc).1 e he hb) (by have := (edge i rc hrc).1 e he hb; omega)⟩
          rw [hr] at hm; cases hm
    induction fuel with
    | zero =>
      intro listed r A act w hl hf hcl hsx
      have hall' : ∀ i, i < ops.size → listed.getD i false = true := fun i hi => by
        have hnil : ((List.range ops.size).filter fun i => !listed.getD i false) = [] := List.eq_nil_of_length_eq_zero (by omega)
        have := List.filter_eq_nil_iff.1 hnil i (List.mem_range.2 hi)
        simpa using this
      refine ⟨?_, done listed r A act w hl hall' hsx⟩
      refine List.filter_eq_nil_iff.2 fun i hi => ?_
      have := hall' i (List.mem_range.1 hi)
      have hi' := List.mem_range.1 hi
      simp [hl, hi'] at this ⊢
      intro h; rw [h] at this; cases this
    | succ fuel ih =>
      intro listed r A act w hl hf hcl hsx
      refine ⟨fun hr => done listed r A act w hl (nil_all listed hl hr) hsx, fun i hi => ?_⟩
      obtain ⟨hi0, oi, hoi, hpre⟩ := mem_ready.1 hi
      have hilt : i < ops.size := (Array.getElem?_eq_some_iff.1 hoi).1
      obtain ⟨rc, hrc⟩ : ∃ rc, recs[i]? = some rc := ⟨recs[i]'(by omega), List.getElem?_eq_getElem _⟩
      have hoo := hop i rc hrc
      rw [hoi] at hoo
      obtain rfl : oi = rc.o := by simpa using hoo
      have hXi : listed.getD i false = false := by simpa [hl, hilt] using hi0
      have hrec := k5 i rc hrc
      have hlen : (recs.take i).length = i := by rw [List.length_take]; omega
      -- those that are not ordered against it
      have before : ∀ (p : Nat) (rp : Rec), recs[p]? = some rp → p < i → listed.getD p false = false → pairOk ops rp.o rc.o (rp.rd, rp.ups.map (·.1), rp.s.next, rp.m) (rc.rd, rc.ups.map (·.1), rc.s.next, rc.m) = true := fun p rp hp hlt hx => by
        refine (tell i rc hrc).2 p rp hp hlt ?_
        cases hb : ((nth B i).getD 0).testBit p with
        | false => rfl
        | true => rw [closed (fun i => listed.getD i false) hcl i rc hrc hpre p hb] at hx; cases hx
      have behind : ∀ (p : Nat) (rp : Rec), recs[p]? = some rp → i < p → listed.getD p false = true → pairOk ops rc.o rp.o (rc.rd, rc.ups.map (·.1), rc.s.next, rc.m) (rp.rd, rp.ups.map (·.1), rp.s.next, rp.m) = true := fun p rp hp hlt hx => by
        refine (tell p rp hp).2 i rc hrc hlt ?_
        cases hb : ((nth B p).getD 0).testBit i with
        | false => rfl
        | true => rw [closed (fun i => listed.getD i false) hcl p rp hp (hcl p rp hp hx) i hb] at hXi; cases hXi
      have pre_get : ∀ (k : Nat) (rp : Rec), (recs.take i)[k]? = some rp → recs[k]? = some rp ∧ k < i := fun k rp hk => by
        rw [List.getElem?_take] at hk
        split at hk
        · exact ⟨hk, by assumption⟩
        · cases hk
      -- what it looks at is as it was in the region's own order
      have slots : ∀ t, t ∈ rc.o.looksAt ops → lookX (fun i => listed.getD i false) recs 0 (look s.env) t = lookX (fun _ => true) (recs.take i) 0 (look s.env) t := fun t hmem => by
        have h1 : lookX (fun i => listed.getD i false) recs 0 (look s.env) t = lookX (fun j => decide (j < i)) recs 0 (look s.env) t := lookX_agree recs 0 _ _ rfl fun k rp hk hd => by
          simp only [Nat.zero_add]
          rcases Nat.lt_trichotomy k i with hlt | rfl | hgt
          · cases hx : listed.getD k false with
            | true => simp [hlt]
            | false =>
              have := before k rp hk hlt hx
              simp only [pairOk, Bool.and_eq_true] at this
              exact absurd hmem ((Oper.apart_spec this.1.1).1 t hd)
          · simp [hXi]
          · cases hx : listed.getD k false with
            | false => simp [Nat.not_lt.2 (Nat.le_of_lt hgt)]
            | true =>
              have := behind k rp hk hgt hx
              simp only [pairOk, Bool.and_eq_true] at this
              exact absurd hmem ((Oper.apart_spec this.1.1).2.2 t hd)
        have h2 : ∀ (l : List Rec) (n off : Nat) (b : Nat → AVal), lookX (fun j => decide (j < off + n)) l off b t = lookX (fun _ => true) (l.take n) off b t := fun l => by
          induction l with
          | nil => intro n off b; simp [lookX]
          | cons x xs ihl =>
            intro n off b
            cases n with
            | zero =>
              simp only [List.take_zero, lookX, Nat.add_zero, Nat.lt_irrefl, decide_false, Bool.false_eq_true, false_and, if_false]
              have : ∀ (l : List Rec) (o2 : Nat) (b : Nat → AVal), off < o2 → lookX (fun j => decide (j < off)) l o2 b t = b t := fun l => by
                induction l with
                | nil => intro o2 b _; rfl
                | cons y ys ihy =>
                  intro o2 b ho
                  simp only [lookX]
                  rw [ihy (o2 + 1) _ (by omega)]
                  simp [Nat.not_lt.2 (Nat.le_of_lt ho)]
              exact this xs (off + 1) _ (by omega)
            | succ n =>
              simp only [List.take_succ_cons, lookX]
              have := ihl n (off + 1)
              rw [show off + 1 + n = off + (n + 1) by omega] at this
              rw [this]
              simp [show off < off + (n + 1) by omega]
        rw [h1]
        have := h2 recs i 0 (look s.env)
        rw [Nat.zero_add] at this
        exact this
      have heaps : ∀ h, h ∈ rc.rd ++ rc.ups.map (·.1) → getX (fun i => listed.getD i false) recs 0 s.H.get h = rc.s.H.get h := fun h hmem => by
        rw [hrec.heap h]
        have h1 : getX (fun i => listed.getD i false) recs 0 s.H.get h = getX (fun j => decide (j < i)) recs 0 s.H.get h := getX_agree recs 0 _ _ rfl fun k rp hk hd => by
          simp only [Nat.zero_add]
          rcases Nat.lt_trichotomy k i with hlt | rfl | hgt
          · cases hx : listed.getD k false with
            | true => simp [hlt]
            | false =>
              have := before k rp hk hlt hx
              simp only [pairOk, Bool.and_eq_true] at this
              exact absurd hmem (disj_ok this.1.2 hd)
          · simp [hXi]
          · cases hx : listed.getD k false with
            | false => simp [Nat.not_lt.2 (Nat.le_of_lt hgt)]
            | true =>
              have := behind k rp hk hgt hx
              simp only [pairOk, Bool.and_eq_true] at this
              rcases List.mem_append.1 hmem with hm1 | hm1
              · exact absurd hm1 (disj_ok this.2 hd)
              · have h5 := disj_ok this.1.2 hm1
                simp only [List.mem_append, not_or] at h5
                exact absurd hd h5.2
        have h2 : ∀ (l : List Rec) (n off : Nat) (b : Nat → Entry), getX (fun j => decide (j < off + n)) l off b h = getX (fun _ => true) (l.take n) off b h := fun l => by
          induction l with
          | nil => intro n off b; simp [getX]
          | cons x xs ihl =>
            intro n off b
            cases n with
            | zero =>
              simp only [List.take_zero, getX, Nat.add_zero, Nat.lt_irrefl, decide_false, Bool.false_eq_true, if_false]
              have : ∀ (l : List Rec) (o2 : Nat) (b : Nat → Entry), off < o2 → getX (fun j => decide (j < off)) l o2 b h = b h := fun l => by
                induction l with
                | nil => intro o2 b _; rfl
                | cons y ys ihy =>
                  intro o2 b ho
                  simp only [getX]
                  rw [ihy (o2 + 1) _ (by omega)]
                  simp [Nat.not_lt.2 (Nat.le_of_lt ho)]
              exact this xs (off + 1) _ (by omega)
            | succ n =>
              simp only [List.take_succ_cons, getX]
              have := ihl n (off + 1)
              rw [show off + 1 + n = off + (n + 1) by omega] at this
              rw [this]
              simp [show off < off + (n + 1) by omega]
        rw [h1]
        have := h2 recs i 0 s.H.get
        rw [Nat.zero_add] at this
        exact this
      -- its next state
      have hset : ∀ j, (listed.setIfInBounds i true).getD j false = (if j = i then true else listed.getD j false) := fun j => by
        by_cases hj : j = i
        · subst hj; simp [hl, hilt]
        · rw [if_neg hj, getD_set_ne false (Ne.symm hj)]
      have next : ∀ (r' : Rho) (A' : View) (v : Value) (w' : World), RSub r r' → (∀ h, h < rc.s.next ∨ rc.s.next + rc.m ≤ h → r' h = r h) → Core r' A' w' (over rc.ups (getX (fun i => listed.getD i false) recs 0 s.H.get)) → VRel r' A' v rc.a → Fr w A w' A' (LiveB r (getX (fun i => listed.getD i false) recs 0 s.H.get)) →
          (∀ b, LiveB r' (over rc.ups (getX (fun i => listed.getD i false) recs 0 s.H.get)) b → LiveB r (getX (fun i => listed.getD i false) recs 0 s.H.get) b ∨ w.heap.size ≤ b) → wpAny P .any ops Q fuel (listed.setIfInBounds i true) (act.put rc.o.dst v) w' := fun r' A' v w' g1 g2 g3 g4 g5 g6 => by
        have eH : over rc.ups (getX (fun i => listed.getD i false) recs 0 s.H.get) = getX (fun j => (listed.setIfInBounds i true).getD j false) recs 0 s.H.get := funext fun h => by
          by_cases hm : h ∈ rc.ups.map (·.1)
          · symm
            refine getX_last _ recs 0 i rc _ hrc hm (by simp only [Nat.zero_add, hset, if_true]) fun q rq hq hlt hqm => ?_
            simp only [Nat.zero_add, hset]
            rw [if_neg (by omega)]
            cases hx : listed.getD q false with
            | false => rfl
            | true =>
              have := behind q rq hq hlt hx
              simp only [pairOk, Bool.and_eq_true] at this
              have h5 := disj_ok this.1.2 hm
              simp only [List.mem_append, not_or] at h5
              exact absurd hqm h5.2
          · rw [over_keys hm]
            refine getX_agree recs 0 _ _ rfl fun k rk hk hd => ?_
            simp only [Nat.zero_add, hset]
            by_cases hki : k = i
            · subst hki
              rw [hrc] at hk
              cases hk
              exact absurd hd hm
            · rw [if_neg hki]
        rw [eH] at g3 g6
        refine ih _ r' A' _ w' (by simpa using hl) ?_ ?_ ⟨?_, ?_, fun t => ?_, g3, fun h hh => ?_, fun q rq hq hx h h1 h2 => ?_, hsx.frame.trans g5 fun b hb hlb => (hsx.own b hlb).resolve_left (Nat.not_le.2 hb), fun b hb => ?_, fun x hx => (g2 x (.inl (by have h5 := (k7 i rc hrc).1; have h6 := hs.low; omega))).trans (hsx.keep x hx)⟩
        · have hsub : ((List.range ops.size).filter fun j => !(listed.setIfInBounds i true).getD j false) = ((List.range ops.size).filter fun j => !listed.getD j false).filter fun j => decide (j ≠ i) := by
            rw [List.filter_filter]
            refine List.filter_congr fun j _ => ?_
            rw [hset]
            by_cases hj : j = i <;> simp [hj]
          rw [hsub]
          have := List.length_filter_lt_length_iff_exists (p := fun j => decide (j ≠ i)) (l := (List.range ops.size).filter fun j => !listed.getD j false) |>.2 ⟨i, List.mem_filter.2 ⟨List.mem_range.2 hilt, by rw [hXi]; rfl⟩, by simp⟩
          omega
        · intro q rq hq hx e he hb
          rw [hset]
          split
          · rfl
          · rw [hset] at hx
            split at hx
            · rename_i hqi
              subst hqi
              rw [hrc] at hq
              cases hq
              exact hpre e he hb
            · exact hcl q rq hq hx e he hb
        · cases hd : rc.o.dst <;> simp [Act.put, hsx.defers]
        · cases hd : rc.o.dst <;> simp [Act.put, hsx.size]
        · by_cases hd : rc.o.dst = some t
          · have e1 : lookX (fun j => (listed.setIfInBounds i true).getD j false) recs 0 (look s.env) t = rc.a := by
              refine lookX_last recs 0 i rc _ hrc hd (by simp only [Nat.zero_add, hset, if_true]) fun q rq hq hlt hqd => ?_
              simp only [Nat.zero_add, hset]
              rw [if_neg (by omega)]
              cases hx : listed.getD q false with
              | false => rfl
              | true =>
                have := behind q rq hq hlt hx
                simp only [pairOk, Bool.and_eq_true] at this
                exact absurd hqd ((Oper.apart_spec this.1.1).2.1 t hd)
            rw [e1]
            have : (act.put rc.o.dst v).tmps.getD t undef = v := by
              have := hrec.dst t hd
              simp [Act.put, hd, hsx.size, this]
            rw [this]; exact g4
          · have e1 : lookX (fun j => (listed.setIfInBounds i true).getD j false) recs 0 (look s.env) t = lookX (fun i => listed.getD i false) recs 0 (look s.env) t := by
              refine lookX_agree recs 0 _ _ rfl fun k rk hk hdk => ?_
              simp only [Nat.zero_add, hset]
              by_cases hki : k = i
              · subst hki
                rw [hrc] at hk
                cases hk
                exact absurd hdk hd
              · rw [if_neg hki]
            rw [e1]
            have : (act.put rc.o.dst v).tmps.getD t undef = act.tmps.getD t undef := by
              cases hdd : rc.o.dst with
              | none => rfl
              | some d =>
                have hne : d ≠ t := fun e => hd (by rw [hdd, e])
                simp [Act.put, Array.getElem?_setIfInBounds_ne hne]
            rw [this]
            exact (hsx.env t).mono g1 g5.sub
        · have h5 := k7 i rc hrc
          rw [g2 h (.inr (by omega))]
          exact hsx.fresh h hh
        · rw [hset] at hx
          have hqi : q ≠ i := fun e => by rw [if_pos e] at hx; cases hx
          rw [if_neg hqi] at hx
          have := hsx.unborn q rq hq hx h h1 h2
          rw [g2 h ?_]
          · exact this
          · rcases Nat.lt_or_ge q i with hlt | hge
            · have := k8 q i rq rc hq hrc hlt; omega
            · have := k8 i q rc rq hrc hq (by omega); omega
        · rcases g6 b hb with h7 | h7
          · exact hsx.own b h7
          · exact .inl (Nat.le_trans hsx.frame.size h7)
      -- is it wanted?
      have hwant : Region.wanted rc.o (yielded ops act.tmps) = rc.want := by
        rcases hrec.guard with ⟨hg, hw⟩ | ⟨j, want, t, hg, hj, hgt⟩
        · rw [hw]; simp [Region.wanted, hg]
        · have hjs : ops[j]? = ops.toList[j]? := by simp
          have hmem : t ∈ rc.o.looksAt ops := by
            unfold Oper.looksAt
            rw [hg]
            refine List.mem_append_right _ ?_
            simp only [hjs, hj, Option.toList_some, List.mem_singleton]
          have hv := hsx.env t
          rw [slots t hmem] at hv
          have hv2 := (hrec.env t).rel hv
          rcases hgt with ⟨b, hlb, hw⟩ | ⟨xs, hlb, hw⟩
          · rw [hlb] at hv2
            have := wanted_of (ops := ops.toList) hg (by rw [nth_get]; exact hj) hv2
            simpa [hw] using this
          · rw [hlb] at hv2
            have := wanted_tup (ops := ops.toList) hg (by rw [nth_get]; exact hj) hv2
            simpa [hw] using this
      unfold wpOp
      simp only [hoi]
      rw [hwant]
      cases hw : rc.want with
      | false =>
        simp only [Bool.false_eq_true, if_false]
        obtain ⟨e1, e2, e3, e4⟩ := hrec.none hw
        refine next r A undef w (RSub.refl r) (fun _ _ => rfl) ?_ ?_ (Fr.refl _ _ _) ?_
        · rw [e2]; exact hsx.core
        · rw [e1]; exact undef_rel
        · rw [e2]; exact fun b hb => .inl hb
      | true =>
        simp only [if_true]
        left
        have hsem := hrec.sem hw
        refine hsem (getX (fun i => listed.getD i false) recs 0 s.H.get) (fun h hh => heaps h (List.mem_append_left _ hh)) (fun h hh _ => heaps h (List.mem_append_right _ hh)) r A w act (fun h h1 h2 => hsx.unborn i rc hrc hXi h h1 h2) hsx.core (fun x hx => ?_) _ Q fun v w' hp => ?_
        · cases x with
          | tmp t =>
            have hmem : t ∈ rc.o.looksAt ops := List.mem_append_left _ (List.mem_filterMap.2 ⟨.tmp t, by simpa using hx, rfl⟩)
            have hv := hsx.env t
            rw [slots t hmem] at hv
            exact (hrec.env t).rel hv
          | const v => exact constA_rel v
          | global g => exact .any _
          | func f => exact .fn (.func f) #[] #[] [] [] rfl rfl (by simp) (by simp)
        · obtain ⟨r', A', g1, g2, g3, g4, g5, g6⟩ := hp
          exact next r' A' v w' g1 g2 g3 g4 g5 g6
  have rep : ∀ k, (Array.replicate ops.size false).getD (0 + k) false = false := fun k => by
    by_cases hk : k < ops.size <;> simp [hk]
  have hX : getX (fun i => (Array.replicate ops.size false).getD i false) recs 0 s.H.get = s.H.get := funext fun h => by
    rw [getX_agree (Y := fun _ => false) recs 0 _ s.H.get rfl fun k rc hk _ => rep k, getX_no]
  refine wp_region_any hm (main ops.size (Array.replicate ops.size false) r A act _ (by simp) ?_ (fun q rc hq hx => ?_) ⟨hs.defers, hs.size, fun t => ?_, ?_, fun h hh => hs.fresh h (by omega), fun q rc hq _ h h1 h2 => hs.fresh h (by have := (k7 q rc hq).1; omega), ?_, ?_, hs.keep⟩)
  · exact Nat.le_trans (List.length_filter_le _ _) (by simp)
  · exfalso
    have hlt := (List.getElem?_eq_some_iff.1 hq).1
    simp [show q < ops.size by omega] at hx
  · have e1 : lookX (fun i => (Array.replicate ops.size false).getD i false) recs 0 (look s.env) t = lookX (fun _ => false) recs 0 (look s.env) t := lookX_agree recs 0 _ _ rfl fun k rc hk _ => rep k
    rw [e1, lookX_no]
    exact hs.env t
  · rw [hX]
    exact ⟨hs.core.view, hs.core.ent, hs.core.dis⟩
  · exact ⟨hs.frame.os, hs.frame.tape, hs.frame.output, hs.frame.size, hs.frame.block, hs.frame.sub, hs.frame.keep⟩
  · rw [hX]; exact hs.own
end
end Go.Proofs.YtlioojekjnigiaeGreat.AM
/- Code: what is asked of it, and that it is enough. -/
namespace Go.Proofs.YtlioojekjnigiaeGreat.AM
set_option linter.unusedVariables false
set_option linter.unusedSimpArgs false

/-- How code is left. -/
inductive X where
  | normal
  | exit (id : Nat)
  | ret
/-- What is known can be told so. -/
def Into (N : Nat) (s : St) (p : St → Prop) : Prop := ∀ w0 A0 B0 r A act w, Sim N w0 A0 B0 s r A act w → ∃ s' r' A', p s' ∧ Sim N w0 A0 B0 s' r' A' act w
/-- A loop: what holds at each round's beginning, and a number that falls. -/
inductive LoopOk (N : Nat) (body : (X → St → Prop) → St → Prop) (Q : X → St → Prop) (s : St) : Prop
  | mk (I : Nat → St → Prop) (n : Nat) (h0 : Into N s (I n)) (hr : ∀ n s, I n s → body (fun e s' => match e with
      | .normal => Into N s' fun s2 => ∃ n', n' < n ∧ I n' s2
      | .exit id => Q (.exit id) s'
      | .ret => Q .ret s') s) : LoopOk N body Q s
structure Conf (b : Bool) (k : Prop) : Prop where
  ok : b = true
  go : k
/-- Code that is cut: what holds between. -/
inductive SeqOk (N : Nat) (a b : (X → St → Prop) → St → Prop) (Q : X → St → Prop) (s : St) : Prop
  | go (h : a (fun e s' => match e with
      | .normal => b Q s'
      | .exit id => Q (.exit id) s'
      | .ret => Q .ret s') s) : SeqOk N a b Q s
  | cut (M : St → Prop) (ha : a (fun e s' => match e with
      | .normal => Into N s' M
      | .exit id => Q (.exit id) s'
      | .ret => Q .ret s') s) (hb : ∀ s', M s' → b Q s') : SeqOk N a b Q s
def isCond : Code → Bool
  | .cond .. => true
  | _ => false
/-- Code behind which one may cut. -/
def isBig : Code → Bool
  | .cond .. => true
  | .block .. => true
  | .loop .. => true
  | .seq _ b => isBig b
  | _ => false
def vc (ic : Code → Bool) (tab : Tab) (P : Program) (N : Nat) : Code → (X → St → Prop) → St → Prop
  | .skip, Q, s => Q .normal s
  | .label _, Q, s => Q .normal s
  | .ret, Q, s => Q .ret s
  | .exit id, Q, s => Q (.exit id) s
  | .seq a b, Q, s => bif ic a then SeqOk N (vc ic tab P N a) (vc ic tab P N b) Q s else vc ic tab P N a (fun e s' => match e with
      | .normal => vc ic tab P N b Q s'
      | .exit id => Q (.exit id) s'
      | .ret => Q .ret s') s
  | .cond c t f, Q, s => match lkOf s.env c with
    | .kb true => vc ic tab P N t Q s
    | .kb false => vc ic tab P N f Q s
    | .dat (.bool b) => BoolCase b (vc ic tab P N t Q s) (vc ic tab P N f Q s)
    | _ => False
  | .block id c, Q, s => vc ic tab P N c (fun e s' => match e with
      | .normal => Q .normal s'
      | .exit id' => bif Nat.beq id' id then Q .normal s' else Q (.exit id') s'
      | .ret => Q .ret s') s
  | .loop c, Q, s => LoopOk N (vc ic tab P N c) Q s
  | .region _ ops draw, Q, s => bif draw
      then vcOps true tab P N ops.toList ops.toList s [] fun s' tr => Conf (confOk P ops tr) (Q .normal s')
      else vcOps false tab P N ops.toList ops.toList s [] fun s' _ => Q .normal s'
  | _, _, _ => False

section
variable {P : Program} {tab : Tab} {N : Nat} {w0 : World} {A0 : View} {B0 : Began}

def lift (N : Nat) (w0 : World) (A0 : View) (B0 : Began) (Q : X → St → Prop) : Exit → Act → World → Prop
  | .normal, a, w => ∃ s r A, Q .normal s ∧ Sim N w0 A0 B0 s r A a w
  | .exit id, a, w => ∃ s r A, Q (.exit id) s ∧ Sim N w0 A0 B0 s r A a w
  | .ret, a, w => ∃ s r A, Q .ret s ∧ Sim N w0 A0 B0 s r A a w
  | _, _, _ => False
theorem wp_loop_n {Q : Exit → Act → World → Prop} {c : Code} (I : Nat → Act → World → Prop) {n : Nat} {a : Act} {w : World} (h0 : I n a w)
    (round : ∀ n a w, I n a w → c.wp P (Exit.then (fun a' w' => ∃ n', n' < n ∧ I n' a' w') Q) a w) : (Code.loop c).wp P Q a w := by
  intro b k cs
  have key : ∀ n a w, I n a w → ∃ e a' w', Q e a' w' ∧ Arrives P (lone (b.at a (.code c :: .inLoop c :: k)) cs w) b k cs e a' w' := by
    intro n
    induction n using Nat.strongRecOn with
    | _ n ih =>
      intro a w hI
      obtain ⟨e, a1, w1, hq, harr⟩ := round n a w hI b (.inLoop c :: k) cs
      cases e with
      | normal =>
        obtain ⟨n', hlt, hI1⟩ := hq
        obtain ⟨e2, a2, w2, hq2, harr2⟩ := ih n' hlt a1 w1 hI1
        exact ⟨e2, a2, w2, hq2, .of_steps (Steps.trans harr (.one step_inLoop)) harr2⟩
      | exit id => exact ⟨_, a1, w1, hq, .pass (x := .inLoop c) rfl (fun _ _ => .inl (by simp)) harr⟩
      | goto l => exact ⟨_, a1, w1, hq, .pass (x := .inLoop c) rfl (fun _ _ => .inl (by simp)) harr⟩
      | ret => exact ⟨_, a1, w1, hq, .pass (x := .inLoop c) rfl (fun _ _ => .inl (by simp)) harr⟩
      | panic ch => exact ⟨_, a1, w1, hq, .pass (x := .inLoop c) rfl (fun _ _ => .inl (by simp)) harr⟩
      | outgrown => exact ⟨_, a1, w1, hq, .pass (x := .inLoop c) rfl (fun _ _ => .inl (by simp)) harr⟩
  obtain ⟨e, a', w', hq, harr⟩ := key _ a w h0
  exact ⟨e, a', w', hq, .of_steps (.one step_loop) harr⟩
/-- What is asked of code is enough. -/
theorem vc_sound {ic : Code → Bool} (ht : TabOk P tab) (hm : P.follows .mixedOrders = true) : ∀ (c : Code) (Q : X → St → Prop) (s : St) (r : Rho) (A : View) (act : Act) (w : World), vc ic tab P N c Q s → Sim N w0 A0 B0 s r A act w → c.wp P (lift N w0 A0 B0 Q) act w := by
  intro c
  induction c with
  | skip => exact fun Q s r A act w h hs => wp_skip ⟨s, r, A, h, hs⟩
  | label l => exact fun Q s r A act w h hs => wp_label ⟨s, r, A, h, hs⟩
  | ret => exact fun Q s r A act w h hs => wp_ret ⟨s, r, A, h, hs⟩
  | exit id => exact fun Q s r A act w h hs => wp_exit ⟨s, r, A, h, hs⟩
  | seq a b iha ihb =>
    intro Q s r A act w h hs
    have go : (vc ic tab P N a (fun e s' => match e with
      | .normal => vc ic tab P N b Q s'
      | .exit id => Q (.exit id) s'
      | .ret => Q .ret s') s) → (Code.seq a b).wp P (lift N w0 A0 B0 Q) act w := fun h => by
      refine wp_seq (wp_mono (iha _ s r A act w h hs) fun e a' w' he => ?_)
      cases e with
      | normal => obtain ⟨s', r', A', h1, h2⟩ := he; exact ihb Q s' r' A' a' w' h1 h2
      | exit id => exact he
      | ret => exact he
      | _ => exact he.elim
    simp only [vc] at h
    cases hc : ic a with
    | false => rw [hc, cond_false] at h; exact go h
    | true =>
      rw [hc, cond_true] at h
      cases h with
      | go h => exact go h
      | cut M ha hb =>
        refine wp_seq (wp_mono (iha _ s r A act w ha hs) fun e a' w' he => ?_)
        cases e with
        | normal =>
          obtain ⟨s', r', A', h1, h2⟩ := he
          obtain ⟨s2, r2, A2, h3, h4⟩ := h1 _ _ _ _ _ _ _ h2
          exact ihb Q s2 r2 A2 a' w' (hb s2 h3) h4
        | exit id => exact he
        | ret => exact he
        | _ => exact he.elim
  | cond c t f iht ihf =>
    intro Q s r A act w h hs
    have hv := hs.opnd c
    simp only [vc] at h
    split at h
    · rename_i hl
      rw [hl] at hv
      generalize hx : act.eval c = v at hv
      cases hv
      exact wp_cond hx (iht Q s r A act w h hs)
    · rename_i hl
      rw [hl] at hv
      generalize hx : act.eval c = v at hv
      cases hv
      exact wp_cond hx (ihf Q s r A act w h hs)
    · rename_i b hl
      rw [hl] at hv
      generalize hx : act.eval c = v at hv
      cases hv with
      | dat hr =>
        cases hr
        cases b
        · exact wp_cond hx (ihf Q s r A act w (h.onFalse rfl) hs)
        · exact wp_cond hx (iht Q s r A act w (h.onTrue rfl) hs)
    · exact h.elim
  | block id c ih =>
    intro Q s r A act w h hs
    refine wp_block (wp_mono (ih _ s r A act w h hs) fun e a' w' he => ?_)
    cases e with
    | normal => exact he
    | exit id' =>
      obtain ⟨s', r', A', h1, h2⟩ := he
      simp only [Exit.inBlock]
      cases hb : Nat.beq id' id
      · simp only [hb, cond_false] at h1
        have hne : id' ≠ id := fun e0 => by subst e0; rw [Nat.beq_refl] at hb; cases hb
        rw [if_neg hne]
        exact ⟨s', r', A', h1, h2⟩
      · simp only [hb, cond_true] at h1
        rw [if_pos (Nat.eq_of_beq_eq_true hb)]
        exact ⟨s', r', A', h1, h2⟩
    | ret => exact he
    | _ => exact he.elim
  | loop c ih =>
    intro Q s r A act w h hs
    obtain ⟨I, n, h0, hr⟩ := h
    obtain ⟨s1, r1, A1, h1, h2⟩ := h0 _ _ _ _ _ _ _ hs
    refine wp_loop_n (fun n a w => ∃ s r A, I n s ∧ Sim N w0 A0 B0 s r A a w) (n := n) ⟨s1, r1, A1, h1, h2⟩ fun n a w hI => ?_
    obtain ⟨s2, r2, A2, hI, hs2⟩ := hI
    refine wp_mono (ih _ s2 r2 A2 a w (hr n s2 hI) hs2) fun e a' w' he => ?_
    cases e with
    | normal =>
      obtain ⟨s3, r3, A3, h3, h4⟩ := he
      obtain ⟨s4, r4, A4, ⟨n', hlt, hI'⟩, h5⟩ := h3 _ _ _ _ _ _ _ h4
      exact ⟨n', hlt, s4, r4, A4, hI', h5⟩
    | exit id => exact he
    | ret => exact he
    | _ => exact he.elim
  | region id ops draw =>
    intro Q s r A act w h hs
    simp only [vc] at h
    cases draw with
    | true =>
      rw [cond_true] at h
      have h' : vcOps true tab P N ops.toList ops.toList s [] fun s' tr => confOk P ops tr = true ∧ Q .normal s' := by
        have : (fun (s' : St) (tr : Trace) => Conf (confOk P ops tr) (Q .normal s')) = fun s' tr => confOk P ops tr = true ∧ Q .normal s' := funext fun s' => funext fun tr => propext ⟨fun h => ⟨h.ok, h.go⟩, fun h => ⟨h.1, h.2⟩⟩
        rw [this] at h; exact h
      exact drawn_sound ht hm (fun s' r' A' a' w' hk hs' => ⟨s', r', A', hk, hs'⟩) hs h'
    | false =>
      rw [cond_false] at h
      refine wp_region_list (vcOps_sound ht (K := fun s' _ => Q .normal s') (fun s' tr r' A' a' w' hk hs' => ⟨s', r', A', hk, hs'⟩) ops.toList s [] r A act w h hs)
  | _ => exact fun Q s r A act w h hs => h.elim
end
end Go.Proofs.YtlioojekjnigiaeGreat.AM
/- Functions: what is asked of a body makes what is told of a call. -/
namespace Go.Proofs.YtlioojekjnigiaeGreat.AM
set_option linter.unusedVariables false
set_option linter.unusedSimpArgs false

/-- What results are known to be. -/
def resVC (tab : Tab) (s : St) : List ResultVar → (List AVal → Prop) → Prop
  | [], k => k []
  | .tmp t :: rest, k => resVC tab s rest fun xs => k (look s.env t :: xs)
  | .cell t T :: rest, k => match look s.env t with
    | .ptr h off => match s.H.get h with
      | .vars _ _ cs _ => partA tab T cs off fun a => resVC tab s rest fun xs => k (a :: xs)
      | _ => False
    | _ => False
def tupA : List AVal → AVal
  | [a] => a
  | xs => .tup xs
/-- Data, of what is answered. -/
def outA (g : Nat → Entry) : AVal → Option AVal
  | .tup xs => (pureAll g 6 xs).map .tup
  | a => pureA g 6 a
/-- What one answers that only reads. -/
inductive RetData (o : Option AVal) (x : AVal) : Prop
  | mk (h : o = some x) : RetData o x
def dataQ (tab : Tab) (rs : List ResultVar) (x : AVal) (e : X) (s : St) : Prop := match e with
  | .normal | .ret => resVC tab s rs fun xs => RetData (outA s.H.get (tupA xs)) x
  | .exit _ => False
def argEnv : Nat → List AVal → Env
  | _, [] => []
  | i, a :: t => (i, a) :: argEnv (i + 1) t

section
variable {P : Program} {tab : Tab} {N : Nat} {w0 : World} {A0 : View} {B0 : Began}

def resOne (act : Act) : ResultVar → Sem Value
  | .tmp t => pure (act.tmps.getD t undef)
  | .cell a t => do loadVar t (← asAddr (act.tmps.getD a undef))
theorem argEnv_look : ∀ (xs : List AVal) (i t : Nat), look (argEnv i xs) t = if i ≤ t then (xs[t - i]?).getD .any else .any
  | [], i, t => by simp [argEnv, look]
  | a :: xs, i, t => by
    simp only [argEnv, look_cons]
    by_cases h : i = t
    · subst h; simp
    · rw [if_neg h, argEnv_look xs (i + 1) t]
      by_cases h2 : i ≤ t
      · rw [if_pos (by omega), if_pos h2, show t - i = (t - (i + 1)) + 1 by omega]
        simp
      · rw [if_neg (by omega), if_neg h2]
/-- The results of a function, as the model gathers them. -/
theorem res_ok (ht : TabOk P tab) {s : St} {r : Rho} {A : View} {act : Act} {w : World} (hs : Sim N w0 A0 B0 s r A act w) : ∀ (rs : List ResultVar) (k : List AVal → Prop), resVC tab s rs k →
    ∃ xs vs, k xs ∧ (rs.mapM (resOne act)).run P w = .ok vs w ∧ vs.length = xs.length ∧ ∀ (j : Nat) (a : AVal), xs[j]? = some a → ∃ v, vs[j]? = some v ∧ VRel r A v a
  | [], k, h => ⟨[], [], h, by simp, rfl, by simp⟩
  | .tmp t :: rest, k, h => by
    obtain ⟨xs, vs, h1, h2, h3, h4⟩ := res_ok ht hs rest _ h
    refine ⟨look s.env t :: xs, act.tmps.getD t undef :: vs, h1, ?_, by simp [h3], fun j a ha => ?_⟩
    · rw [List.mapM_cons, Sem.run_bind]
      simp only [resOne, Sem.run_pure, Result.andThen_ok, Sem.run_bind, h2]
    · match j with
      | 0 =>
        obtain rfl : look s.env t = a := by simpa using ha
        exact ⟨_, rfl, hs.env t⟩
      | j + 1 => exact h4 j a (by simpa using ha)
  | .cell t T :: rest, k, h => by
    simp only [resVC] at h
    split at h
    · rename_i hh off hl
      split at h
      · rename_i T' sz cs l hg
        obtain ⟨ti, a, p1, p2, p3, p4⟩ := partA_ok ht h
        obtain ⟨xs, vs, h1, h2, h3, h4⟩ := res_ok ht hs rest _ p2
        have hv := hs.env t
        rw [hl] at hv
        generalize hx : act.tmps.getD t undef = v at hv
        cases hv with
        | ptr _ _ b n cap hb =>
          obtain ⟨b', n', cap', e1, _, _, e2⟩ := hs.core.var hg
          rw [hb] at e1
          simp only [Option.some.injEq, Loc.mk.injEq] at e1
          obtain ⟨rfl, rfl, rfl⟩ := e1
          obtain ⟨v, k1, k2⟩ := load_known ht p1 (off := off) (o := 0) (b := b) p4 (r := r) (A := A) (w := w) (fun j a ha => by rw [Nat.zero_add]; exact (e2 j a ha).2)
          rw [Nat.zero_add] at k1
          refine ⟨a :: xs, v :: vs, h1, ?_, by simp [h3], fun j a' ha => ?_⟩
          · rw [List.mapM_cons, Sem.run_bind]
            simp only [resOne, Sem.run_bind, hx, asAddr, Sem.run_pure, Result.andThen_ok, k1, h2]
          · match j with
            | 0 =>
              obtain rfl : a = a' := by simpa using ha
              exact ⟨v, rfl, k2⟩
            | j + 1 => exact h4 j a' (by simpa using ha)
      · exact h.elim
    · exact h.elim
theorem res_run (ht : TabOk P tab) {fn : Func} {s : St} {r : Rho} {A : View} {act : Act} {w : World} (hs : Sim N w0 A0 B0 s r A act w) {k : List AVal → Prop} (h : resVC tab s fn.results.toList k) : ∃ xs v, k xs ∧ (results fn act.tmps).run P w = .ok v w ∧ VRel r A v (tupA xs) := by
  obtain ⟨xs, vs, h1, h2, h3, h4⟩ := res_ok ht hs _ _ h
  have h5 : (fn.results.mapM (resOne act)).run P w = .ok vs.toArray w := by
    rw [← Array.toArray_toList (xs := fn.results), List.mapM_toArray]
    simp only [Sem.run_map, h2, Result.andThen_ok]
  refine ⟨xs, if h : vs.toArray.size = 1 then vs.toArray[0] else .tuple vs.toArray, h1, ?_, ?_⟩
  · unfold results
    rw [Sem.run_bind]
    have hr : ∀ F : ResultVar → Sem Value, F = resOne act → (fn.results.mapM F).run P w = .ok vs.toArray w := fun F e => by rw [e]; exact h5
    rw [hr _ (funext fun x => by cases x <;> rfl)]
    rfl
  · match xs, vs, h3, h4 with
    | [a], [v], _, h4 =>
      obtain ⟨u, hu, hv⟩ := h4 0 a rfl
      obtain rfl : v = u := by simpa using hu
      simpa [tupA] using hv
    | [], [], _, h4 =>
      simp only [tupA]
      exact .tup _ _ rfl (by simp)
    | a :: b :: t, v :: u :: q, h3, h4 =>
      simp only [tupA, List.size_toArray, List.length_cons]
      rw [dif_neg (by omega)]
      refine .tup _ _ (by simpa using h3) fun j x hx => ?_
      obtain ⟨y, hy, hv⟩ := h4 j x hx
      have : (v :: u :: q).toArray.getD j undef = y := by
        rw [Array.getD_eq_getD_getElem?]
        simp only [List.getElem?_toArray, hy, Option.getD_some]
      rw [this]; exact hv
/-- A function's beginning. -/
theorem start_sim {r : Rho} {A : View} {w : World} {H : Heap} {n : Nat} {args : List AVal} {vs : Array Value} (hr : ∀ h, n ≤ h → r h = none) (hc : Core r A w H.get) (hv : VList r A vs args) (hN : args.length ≤ nOf N) (hk : kOf N = n) :
    Sim N w A ⟨LiveB r H.get, r⟩ ⟨argEnv 0 args, n, H⟩ r A { tmps := vs ++ Array.replicate (nOf N - vs.size) undef, defers := [] } w := by
  refine ⟨rfl, by simp [hv.1]; omega, fun t => ?_, hc, hr, Fr.refl _ _ _, fun b hb => .inr hb, fun _ _ => rfl, Nat.le_of_eq hk⟩
  rw [argEnv_look, if_pos (Nat.zero_le _), Nat.sub_zero]
  cases ha : args[t]? with
  | none => exact .any _
  | some a =>
    have hlt : t < vs.size := by rw [hv.1]; exact (List.getElem?_eq_some_iff.1 ha).1
    rw [getD_append, if_pos hlt]
    exact hv.2 t a ha
theorem lift_body {fn : Func} {Q : X → St → Prop} {R : Ending → World → Prop} (h : ∀ (s : St) (r : Rho) (A : View) (act : Act) (w : World) (e : X), Q e s → Sim N w0 A0 B0 s r A act w → (∀ id, e ≠ .exit id) ∧ ∃ v, (results fn act.tmps).run P w = .ok v w ∧ R (.returned v) w) :
    ∀ e a w, lift N w0 A0 B0 Q e a w → bodyPost P fn R e a w := fun e a w he => by
  cases e with
  | normal =>
    obtain ⟨s, r, A, h1, h2⟩ := he
    exact ⟨h2.defers, (h s r A a w .normal h1 h2).2⟩
  | ret =>
    obtain ⟨s, r, A, h1, h2⟩ := he
    exact ⟨h2.defers, (h s r A a w .ret h1 h2).2⟩
  | exit id =>
    obtain ⟨s, r, A, h1, h2⟩ := he
    exact absurd rfl ((h s r A a w (.exit id) h1 h2).1 id)
  | _ => exact he.elim
theorem outA_ok {r r2 : Rho} {A A2 : View} {g : Nat → Entry} (hR : Reads r A g A2) {a b : AVal} (h : outA g a = some b) {v : Value} (hv : VRel r A v a) : VRel r2 A2 v b := by
  unfold outA at h
  split at h
  · rw [Option.map_eq_some_iff] at h
    obtain ⟨ys, hys, rfl⟩ := h
    cases hv with
    | tup cs _ hn hx =>
      have := VList.pure (r2 := r2) hR 6 hys ⟨hn, hx⟩
      exact .tup cs ys this.1 this.2
  · exact pureA_ok hR 6 h hv
/-- A function that only reads, and answers data. -/
theorem pcall_of_vc' {ic : Code → Bool} (ht : TabOk P tab) (hm : P.follows .mixedOrders = true) {f : FuncId} {fn : Func} {c : Code} {args : List AVal} {x : AVal} (hf : P.funcs[f]? = some fn) (hb : fn.body = some c) (hcall : callable P f = true) (hN : fn.ntmps = N) (hsm : N < 65536) (hlen : args.length ≤ N)
    {Q : X → St → Prop} (hQ : ∀ e s, Q e s → dataQ tab fn.results.toList x e s) (h : vc ic tab P N c Q ⟨argEnv 0 args, 0, []⟩) : PCall P f args x := by
  refine ⟨hcall, fun r A w vs hr hc hs hv => ?_⟩
  refine calls_of_wp hf hb ?_
  have hn : nOf N = N := Nat.mod_eq_of_lt hsm
  rw [hN.trans hn.symm]
  have hsim := start_sim (N := N) (H := []) hr hc ⟨hs, hv⟩ (by rw [hn]; exact hlen) (Nat.div_eq_of_lt hsm)
  refine wp_mono (vc_sound ht hm c _ _ r A _ w h hsim) (lift_body fun s r' A' act w' e hq hs' => ?_)
  have hq := hQ e s hq
  have body : resVC tab s fn.results.toList (fun xs => RetData (outA s.H.get (tupA xs)) x) → ∃ v, (results fn act.tmps).run P w' = .ok v w' ∧ (fun e w' => ∃ v r' A' x' H' n', e = Ending.returned v ∧ (x' = x ∧ H' = [] ∧ n' = 0) ∧ 0 ≤ n' ∧ (∀ h, h < 0 → r' h = r h) ∧ (∀ h, n' ≤ h → r' h = none) ∧ Core r' A' w' (Heap.get H') ∧ VRel r' A' v x' ∧ Fr w A w' A' (LiveB r (Heap.get [])) ∧ ∀ b, LiveB r' (Heap.get H') b → LiveB r (Heap.get []) b ∨ w.heap.size ≤ b) (.returned v) w' := fun hres => by
    obtain ⟨xs, v, ⟨hk⟩, h2, h3⟩ := res_run ht hs' hres
    -- all that is new stays
    let A2 : View := fun b o => if w.heap.size ≤ b then w'.cell? ⟨b, o, none⟩ else A b o
    have hA : Sub A A2 := fun b o u hu => by
      have hlt := hc.view_lt hu
      simp only [A2]
      rw [if_neg (by omega)]
      exact hu
    have hA' : Sub A' A2 := fun b o u hu => by
      simp only [A2]
      split
      · exact hs'.core.view b o u hu
      · rename_i hlt
        rw [← hs'.frame.keep b (by omega) (fun ⟨h, hl, _⟩ => by cases hl)]
        exact hu
    have hview : ∀ b o u, A2 b o = some u → w'.cell? ⟨b, o, none⟩ = some u := fun b o u hu => by
      simp only [A2] at hu
      split at hu
      · exact hu
      · exact hs'.core.view b o u (hs'.frame.sub b o u hu)
    have hR : Reads r' A' s.H.get A2 := by
      refine ⟨hA', fun h T sz cs l hg => ?_, fun h T sz es l hg => ?_⟩
      · cases l with
        | false =>
          have := hs'.core.ent h
          rw [hg] at this
          obtain ⟨b, n, cap, k1, k5, k6, k4⟩ := this
          exact ⟨b, n, cap, k1, ⟨k6, k5⟩, fun j a ha => let ⟨_, u, q1, q2⟩ := k4 j a ha; ⟨u, hA' _ _ _ q1, q2⟩⟩
        | true =>
          obtain ⟨b, n, cap, k1, k5, k6, k2⟩ := hs'.core.var hg
          have hlive : LiveB r' s.H.get b := ⟨h, by rw [hg]; rfl, by simp [Rho.blk, k1]⟩
          have hge : w.heap.size ≤ b := (hs'.own b hlive).resolve_right fun ⟨h, hl, _⟩ => by cases hl
          exact ⟨b, n, cap, k1, ⟨k5, k6⟩, fun j a ha => let ⟨_, u, q1, q2⟩ := k2 j a ha; ⟨u, by simp only [A2]; rw [if_pos hge]; exact q1, q2⟩⟩
      · cases l with
        | false =>
          have := hs'.core.ent h
          rw [hg] at this
          obtain ⟨k0, ⟨k1, k2⟩ | ⟨b, cap, k1, k2, F, k3, k4⟩⟩ := this
          · exact ⟨k0, .inl ⟨k1, k2⟩⟩
          · refine ⟨k0, .inr ⟨b, cap, k1, k2, fun i e he j d hd => ⟨F i j, ?_, k4 i e he j d hd⟩⟩⟩
            obtain ⟨p1, p2, _⟩ := elem_place he k0 (List.getElem?_eq_some_iff.1 hd).1
            exact hA' _ _ _ (k3 i j p1 p2)
        | true =>
          obtain ⟨k0, ⟨k1, k2⟩ | ⟨b, cap, k1, k2, k3⟩⟩ := hs'.core.elems hg
          · exact ⟨k0, .inl ⟨k1, k2⟩⟩
          · have hlive : LiveB r' s.H.get b := ⟨h, by rw [hg]; rfl, by simp [Rho.blk, k1]⟩
            have hge : w.heap.size ≤ b := (hs'.own b hlive).resolve_right fun ⟨h, hl, _⟩ => by cases hl
            refine ⟨k0, .inr ⟨b, cap, k1, k2, fun i e he j d hd => ?_⟩⟩
            obtain ⟨u, q1, q2⟩ := k3 i e he j d hd
            exact ⟨u, by simp only [A2]; rw [if_pos hge]; exact q1, q2⟩
    refine ⟨v, h2, v, fun _ => none, A2, x, [], 0, rfl, ⟨rfl, rfl, rfl⟩, Nat.le_refl _, fun h hh => by omega, fun _ _ => rfl, noCore w' A2 hview, outA_ok hR hk h3, ?_, fun b ⟨h, hl, _⟩ => by cases hl⟩
    refine ⟨hs'.frame.os, hs'.frame.tape, hs'.frame.output, hs'.frame.size, hs'.frame.block, hA, fun b hb _ => funext fun o => ?_⟩
    simp only [A2]
    rw [if_neg (by omega)]
  cases e with
  | normal => exact ⟨fun id h => (by cases h), body hq⟩
  | ret => exact ⟨fun id h => (by cases h), body hq⟩
  | exit id => exact hq.elim
end
end Go.Proofs.YtlioojekjnigiaeGreat.AM
/- The table of types, out of the program. -/
namespace Go.Proofs.YtlioojekjnigiaeGreat.AM
set_option linter.unusedVariables false
set_option linter.unusedSimpArgs false

def kindOf : TypeDesc → TK
  | .bool => .bool
  | .int k => .int k
  | .string => .string
  | .slice e => .slice e
  | .array n e => .array n e
  | .struct fs => .struct (fs.toList.map fun f => (f.type, f.offset))
  | .pointer e => .pointer e
  | _ => .other
def zeroL : List Value → Option (List AVal)
  | [] => some []
  | v :: t => match constC v, zeroL t with
    | .any, _ => none
    | a, some l => some (a :: l)
    | _, none => none
def scalarKind (P : Program) (t : Nat) : Option TK := match P.underlying t with
  | some (.int k) => some (.int k)
  | some .bool => some .bool
  | some .string => some .string
  | _ => none
def flatKinds (P : Program) : List Field → Nat → Option (List TK)
  | [], _ => some []
  | f :: fs, i => bif f.name != "_" && Nat.beq f.offset i then match scalarKind P f.type, flatKinds P fs (i + 1) with
      | some k, some ks => some (k :: ks)
      | _, _ => none
    else none
def eqOf (P : Program) (t : Nat) : Option (List TK) := match P.underlying t with
  | some (.struct fs) => bif !P.stoodInHeld t && !P.eqGuardType P.depth t then flatKinds P fs.toList 0 else none
  | some (.array n e) => bif !P.eqGuardType P.depth t && Nat.beq (P.cellsOf e) 1 then match scalarKind P e with
      | some k => some (List.replicate n k)
      | none => none
    else none
  | _ => none
def tiOf (P : Program) (t : Nat) : Option TI := match P.info? t, P.underlying t with
  | some i, some d => match i.zero with
    | none => some ⟨i.size, i.bytes, kindOf d, none, eqOf P t⟩
    | some z => match zeroL z.cells.toList with
      | none => some ⟨i.size, i.bytes, kindOf d, none, eqOf P t⟩
      | some zs => bif Nat.beq zs.length i.size then some ⟨i.size, i.bytes, kindOf d, some zs, eqOf P t⟩ else some ⟨i.size, i.bytes, kindOf d, none, eqOf P t⟩
  | _, _ => none

theorem kindOf_ok (d : TypeDesc) : KindOk d (kindOf d) := by
  cases d <;> first | rfl | exact ⟨_, rfl, rfl⟩
theorem zeroL_ok : ∀ {vs : List Value} {zs : List AVal}, zeroL vs = some zs → zs.length = vs.length ∧ ∀ (j : Nat) (a : AVal), zs[j]? = some a → ∃ v, vs[j]? = some v ∧ a = constC v
  | [], zs, h => by
    simp only [zeroL, Option.some.injEq] at h
    subst h; simp
  | v :: t, zs, h => by
    simp only [zeroL] at h
    split at h
    · cases h
    · rename_i l ht hne
      cases h
      obtain ⟨h1, h2⟩ := zeroL_ok ht
      refine ⟨by simp [h1], fun j b hj => ?_⟩
      match j with
      | 0 =>
        obtain rfl : _ = b := by simpa using hj
        exact ⟨v, rfl, rfl⟩
      | j + 1 => exact h2 j b (by simpa using hj)
    · cases h
section
variable {P : Program}
theorem eqK_ok {t : Nat} {k : TK} (h : scalarKind P t = some k) {r : Rho} {A : View} {x y : Value} {a b : AVal} {c : Bool} (ha : VRel r A x a) (hb : VRel r A y b) (he : eqK k a b = some c) (d : Nat) (w : World) :
    (Op.equalIn (d + 1) t x y).run P w = .ok c w ∧ (isAgg t).run P w = .ok false w := by
  have ag : ∀ dd, P.underlying t = some dd → (match dd with | .struct _ | .array _ _ => true | _ => false) = false → (isAgg t).run P w = .ok false w := fun dd hd hh => by
    simp only [isAgg, Sem.run_bind, run_underlying hd, Result.andThen_ok]
    cases dd <;> first | rfl | cases hh
  unfold scalarKind at h
  split at h
  · rename_i kd hu
    cases h
    refine ⟨?_, ag _ hu rfl⟩
    simp only [eqK] at he
    split at he
    · rename_i k1 n1 k2 n2 h1 h2
      cases hk : Nat.beq (kindNo k1) (kindNo k2)
      · rw [hk] at he; cases he
      rw [hk, cond_true] at he
      cases he
      obtain rfl := kind_of_no hk
      have e1 := dataOf_ok h1 ha
      have e2 := dataOf_ok h2 hb
      cases e1; cases e2
      exact run_equalIn_int w d t k1 _ _ _ hu
    · cases he
  · rename_i hu
    cases h
    refine ⟨?_, ag _ hu rfl⟩
    simp only [eqK] at he
    split at he
    · rename_i x1 y1 h1 h2
      cases he
      obtain rfl := vrel_bool ha h1
      obtain rfl := vrel_bool hb h2
      exact run_equalIn_bool w d t _ _ hu
    · cases he
  · rename_i hu
    cases h
    refine ⟨?_, ag _ hu rfl⟩
    simp only [eqK] at he
    split at he
    · rename_i x1 y1 h1 h2
      cases he
      have e1 := dataOf_ok h1 ha
      have e2 := dataOf_ok h2 hb
      cases e1; cases e2
      rw [run_equalIn_string w d t _ _ hu, bytes_eq]
    · cases he
  · cases h
theorem part_cell {t : Nat} {xs : Array Value} {off : Nat} (w : World) (h : (isAgg t).run P w = .ok false w) (hlt : off < xs.size) : (part t xs off).run P w = .ok (xs.getD off undef) w := by
  simp [part, h, hlt]
theorem eqFields_ok (d : Nat) (w : World) {r : Rho} {A : View} (xs ys : Array Value) : ∀ (fs : List Field) (i : Nat) (ks : List TK) (us vs : List AVal) (b : Bool), flatKinds P fs i = some ks → (∀ (j : Nat) (a : AVal), us[j]? = some a → i + j < xs.size ∧ VRel r A (xs.getD (i + j) undef) a) → (∀ (j : Nat) (a : AVal), vs[j]? = some a → i + j < ys.size ∧ VRel r A (ys.getD (i + j) undef) a) → eqL ks us vs = some b →
    (Op.eqFields (d + 1) xs ys fs).run P w = .ok b w
  | [], i, ks, us, vs, b, h, hx, hy, he => by
    simp only [flatKinds, Option.some.injEq] at h
    subst h
    cases us <;> cases vs <;> simp only [eqL, Option.some.injEq, reduceCtorEq] at he
    subst he
    simp [Op.eqFields]
  | f :: fs, i, ks, us, vs, b, h, hx, hy, he => by
    simp only [flatKinds] at h
    cases hc : (f.name != "_" && Nat.beq f.offset i)
    · rw [hc] at h; cases h
    rw [hc, cond_true] at h
    simp only [Bool.and_eq_true] at hc
    have hname : f.name ≠ "_" := by simpa using hc.1
    have hoff := Nat.eq_of_beq_eq_true hc.2
    split at h
    · rename_i k ks' hk hks
      cases h
      match us, vs with
      | u :: us, v :: vs =>
        simp only [eqL] at he
        split at he
        · rename_i c1 c2 h1 h2
          cases he
          obtain ⟨l1, v1⟩ := hx 0 u rfl
          obtain ⟨l2, v2⟩ := hy 0 v rfl
          simp only [Nat.add_zero] at l1 v1 l2 v2
          obtain ⟨q1, q2⟩ := eqK_ok hk v1 v2 h1 d w
          have ih := eqFields_ok d w xs ys fs (i + 1) ks' us vs c2 hks (fun j a ha => by rw [show i + 1 + j = i + (j + 1) by omega]; exact hx (j + 1) a (by simpa using ha)) (fun j a ha => by rw [show i + 1 + j = i + (j + 1) by omega]; exact hy (j + 1) a (by simpa using ha)) h2
          rw [Op.eqFields, if_pos hname]
          simp only [Sem.run_bind, hoff, part_cell w q2 l1, part_cell w q2 l2, Result.andThen_ok, q1]
          cases c1
          · simp
          · simpa using ih
        · cases he
      | [], _ => simp [eqL] at he
      | _ :: _, [] => simp [eqL] at he
    · cases h
theorem eqItems_ok (d : Nat) (w : World) {r : Rho} {A : View} {e : Nat} {k : TK} (hk : scalarKind P e = some k) (xs ys : Array Value) : ∀ (n i : Nat) (us vs : List AVal) (b : Bool), (∀ (j : Nat) (a : AVal), us[j]? = some a → i + j < xs.size ∧ VRel r A (xs.getD (i + j) undef) a) → (∀ (j : Nat) (a : AVal), vs[j]? = some a → i + j < ys.size ∧ VRel r A (ys.getD (i + j) undef) a) → eqL (List.replicate n k) us vs = some b →
    (Op.eqItems (d + 1) e 1 xs ys (List.range' i n)).run P w = .ok b w
  | 0, i, us, vs, b, hx, hy, he => by
    cases us <;> cases vs <;> simp only [List.replicate, eqL, Option.some.injEq, reduceCtorEq] at he
    subst he
    simp [Op.eqItems]
  | n + 1, i, us, vs, b, hx, hy, he => by
    match us, vs with
    | u :: us, v :: vs =>
      simp only [List.replicate, eqL] at he
      split at he
      · rename_i c1 c2 h1 h2
        cases he
        obtain ⟨l1, v1⟩ := hx 0 u rfl
        obtain ⟨l2, v2⟩ := hy 0 v rfl
        simp only [Nat.add_zero] at l1 v1 l2 v2
        obtain ⟨q1, q2⟩ := eqK_ok hk v1 v2 h1 d w
        have ih := eqItems_ok d w hk xs ys n (i + 1) us vs c2 (fun j a ha => by rw [show i + 1 + j = i + (j + 1) by omega]; exact hx (j + 1) a (by simpa using ha)) (fun j a ha => by rw [show i + 1 + j = i + (j + 1) by omega]; exact hy (j + 1) a (by simpa using ha)) h2
        rw [List.range'_succ]
        simp only [Op.eqItems, Sem.run_bind, Nat.mul_one, part_cell w q2 l1, part_cell w q2 l2, Result.andThen_ok, q1]
        cases c1
        · simp
        · simpa using ih
      · cases he
    | [], _ => simp [List.replicate, eqL] at he
    | _ :: _, [] => simp [List.replicate, eqL] at he
theorem tiOf_ok {t : Nat} {ti : TI} (h : tiOf P t = some ti) : TIok P t ti := by
  have eqs : ∀ (ks : List TK), eqOf P t = some ks → P.eqGuardType P.depth t = false ∧ ∀ (r : Rho) (A : View) (xs ys : Array Value) (us vs : List AVal) (b : Bool) (w : World), xs.size = us.length → ys.size = vs.length →
      (∀ j a, us[j]? = some a → VRel r A (xs.getD j undef) a) → (∀ j a, vs[j]? = some a → VRel r A (ys.getD j undef) a) → eqL ks us vs = some b → (Op.equalIn 10000 t (.agg xs) (.agg ys)).run P w = .ok b w := fun ks hks => by
    unfold eqOf at hks
    split at hks
    · rename_i fs hu
      cases hc : (!P.stoodInHeld t && !P.eqGuardType P.depth t)
      · rw [hc] at hks; cases hks
      rw [hc, cond_true] at hks
      simp only [Bool.and_eq_true, Bool.not_eq_true'] at hc
      refine ⟨hc.2, fun r A xs ys us vs b w hx hy h1 h2 he => ?_⟩
      have hf : P.fieldsOf t = fs := by simp [Program.fieldsOf, hu]
      rw [run_equalIn_struct w 9999 t xs ys (by rw [hf]; exact hu) hc.1, hf]
      exact eqFields_ok 9998 w xs ys fs.toList 0 ks us vs b hks (fun j a ha => ⟨by rw [Nat.zero_add, hx]; exact (List.getElem?_eq_some_iff.1 ha).1, by rw [Nat.zero_add]; exact h1 j a ha⟩) (fun j a ha => ⟨by rw [Nat.zero_add, hy]; exact (List.getElem?_eq_some_iff.1 ha).1, by rw [Nat.zero_add]; exact h2 j a ha⟩) he
    · rename_i n e hu
      cases hc : (!P.eqGuardType P.depth t && Nat.beq (P.cellsOf e) 1)
      · rw [hc] at hks; cases hks
      rw [hc, cond_true] at hks
      simp only [Bool.and_eq_true, Bool.not_eq_true'] at hc
      split at hks
      · rename_i k hk
        cases hks
        refine ⟨hc.1, fun r A xs ys us vs b w hx hy h1 h2 he => ?_⟩
        have hone := Nat.eq_of_beq_eq_true hc.2
        obtain ⟨i, hi⟩ : ∃ i, P.info? e = some i := by
          cases hi : P.info? e with
          | none => simp [Program.cellsOf, hi] at hone
          | some i => exact ⟨i, rfl⟩
        rw [run_equalIn_array w 9999 xs ys hu hi, hone, List.range_eq_range']
        exact eqItems_ok 9998 w hk xs ys n 0 us vs b (fun j a ha => ⟨by rw [Nat.zero_add, hx]; exact (List.getElem?_eq_some_iff.1 ha).1, by rw [Nat.zero_add]; exact h1 j a ha⟩) (fun j a ha => ⟨by rw [Nat.zero_add, hy]; exact (List.getElem?_eq_some_iff.1 ha).1, by rw [Nat.zero_add]; exact h2 j a ha⟩) he
      · cases hks
    · cases hks
  unfold tiOf at h
  split at h
  · rename_i i d hi hd
    have noz : TIok P t ⟨i.size, i.bytes, kindOf d, none, eqOf P t⟩ := ⟨fun zs h => (by cases h), ⟨i, hi, rfl, rfl, fun zs h => (by cases h)⟩, ⟨d, hd, kindOf_ok d⟩, eqs⟩
    split at h
    · cases h; exact noz
    · rename_i z hz
      split at h
      · cases h; exact noz
      · rename_i zs hzs
        cases hb : Nat.beq zs.length i.size
        · rw [hb, cond_false] at h; cases h; exact noz
        · rw [hb, cond_true] at h
          cases h
          obtain ⟨h1, h2⟩ := zeroL_ok hzs
          refine ⟨fun ws h => (by cases h; exact Nat.eq_of_beq_eq_true hb), ⟨i, hi, rfl, rfl, fun ws h => ?_⟩, ⟨d, hd, kindOf_ok d⟩, eqs⟩
          cases h
          refine ⟨z, hz, by rw [h1]; simp, fun j a ha r A => ?_⟩
          obtain ⟨v, hv, rfl⟩ := h2 j a ha
          have hv' : z.cells[j]? = some v := by simpa using hv
          have hlt : j < z.cells.size := (Array.getElem?_eq_some_iff.1 hv').1
          have he : z.cells[j] = v := by simpa [hlt] using hv'
          have : z.cells.getD j undef = v := by simp [hlt, he]
          rw [this]
          exact constC_rel v
  · cases h
/-- A table that the program bears out. -/
def tabFits (P : Program) : Tab → Nat → Prop
  | [], _ => True
  | ti :: t, i => tiOf P i = some ti ∧ tabFits P t (i + 1)
theorem tabFits_get : ∀ (tab : Tab) (i : Nat), tabFits P tab i → ∀ t ti, nth tab t = some ti → TIok P (i + t) ti
  | [], i, h, t, ti, hn => by simp [nth] at hn
  | x :: tab, i, h, 0, ti, hn => by
    simp only [nth, Option.some.injEq] at hn
    subst hn
    exact tiOf_ok h.1
  | x :: tab, i, h, t + 1, ti, hn => by
    have := tabFits_get tab (i + 1) h.2 t ti hn
    rw [show i + 1 + t = i + (t + 1) by omega] at this
    exact this
theorem tab_ok {tab : Tab} (h : tabFits P tab 0) : TabOk P tab := fun t ti hn => by
  have := tabFits_get tab 0 h t ti hn
  rw [Nat.zero_add] at this
  exact this
end
end Go.Proofs.YtlioojekjnigiaeGreat.AM
/- The same asking, so that it is reckoned step by step. -/
namespace Go.Proofs.YtlioojekjnigiaeGreat.AM
set_option linter.unusedVariables false
set_option linter.unusedSimpArgs false

def fN : Nat → (Nat → Prop) → Prop
  | 0, k => k 0
  | n + 1, k => k (n + 1)
def fB : Bool → (Bool → Prop) → Prop
  | true, k => k true
  | false, k => k false
def fA : AVal → (AVal → Prop) → Prop
  | .any, k => k .any
  | .cell, k => k .cell
  | .dat d, k => k (.dat d)
  | .kb b, k => fB b fun b => k (.kb b)
  | .nil, k => k .nil
  | .agg xs, k => fL xs fun xs => k (.agg xs)
  | .tup xs, k => fL xs fun xs => k (.tup xs)
  | .ptr h o, k => fN h fun h => fN o fun o => k (.ptr h o)
  | .eptr h sz i o, k => fN h fun h => fN o fun o => k (.eptr h sz i o)
  | .row h, k => fN h fun h => k (.row h)
  | .sub h sz o l, k => fN h fun h => k (.sub h sz o l)
  | .fn f xs ys, k => fL xs fun xs => fL ys fun ys => k (.fn f xs ys)
where
  fL : List AVal → (List AVal → Prop) → Prop
  | [], k => k []
  | a :: t, k => fA a fun a => fL t fun t => k (a :: t)
def fE : Entry → (Entry → Prop) → Prop
  | .dead, k => k .dead
  | .vars T sz cs l, k => fA.fL cs fun cs => k (.vars T sz cs l)
  | .rows T sz es l, k => k (.rows T sz es l)
def fH : Heap → Heap → (Heap → Prop) → Prop
  | [], H, k => k H
  | (h, e) :: t, H, k => fN h fun h => fE e fun e => fH t H fun r => k ((h, e) :: r)
theorem fN_eq (n : Nat) (k : Nat → Prop) : fN n k = k n := by cases n <;> rfl
theorem fB_eq (b : Bool) (k : Bool → Prop) : fB b k = k b := by cases b <;> rfl
theorem fA_both : (∀ (a : AVal) (k : AVal → Prop), fA a k = k a) ∧ ∀ (l : List AVal) (k : List AVal → Prop), fA.fL l k = k l := by
  have key : ∀ n : Nat, (∀ (a : AVal), SizeOf.sizeOf a ≤ n → ∀ k : AVal → Prop, fA a k = k a) ∧ ∀ (l : List AVal), SizeOf.sizeOf l ≤ n → ∀ k : List AVal → Prop, fA.fL l k = k l := by
    intro (n : Nat)
    induction n with
    | zero => exact ⟨fun a h => by cases a <;> simp at h, fun l h => by cases l <;> simp at h⟩
    | succ n ih =>
      refine ⟨fun a h k => ?_, fun l h k => ?_⟩
      · cases a with
        | agg xs => simp only [fA, ih.2 xs (by simp at h; omega)]
        | tup xs => simp only [fA, ih.2 xs (by simp at h; omega)]
        | fn f xs ys => simp only [fA, ih.2 xs (by simp at h; omega), ih.2 ys (by simp at h; omega)]
        | _ => simp only [fA, fN_eq, fB_eq]
      · cases l with
        | nil => rfl
        | cons a t => simp only [fA.fL, ih.1 a (by simp at h; omega), ih.2 t (by simp at h; omega)]
  exact ⟨fun a k => (key _).1 a (Nat.le_refl _) k, fun l k => (key _).2 l (Nat.le_refl _) k⟩
theorem fA_eq (a : AVal) (k : AVal → Prop) : fA a k = k a := fA_both.1 a k
theorem fE_eq (e : Entry) (k : Entry → Prop) : fE e k = k e := by cases e <;> simp only [fE, fA_both.2]
theorem fH_eq (a H : Heap) (k : Heap → Prop) : fH a H k = k (a ++ H) := by
  induction a generalizing k with
  | nil => rfl
  | cons x t ih => obtain ⟨h, e⟩ := x; simp only [fH, fN_eq, fE_eq, ih, List.cons_append]

def putF (N : Nat) (dst : Option Tmp) (a : AVal) (env : Env) (k : Env → Prop) : Prop := match dst with
  | none => k env
  | some d => bif Nat.blt d (nOf N) then fA a fun a => k ((d, a) :: env) else False
theorem putF_eq (N : Nat) (dst : Option Tmp) (a : AVal) (env : Env) (k : Env → Prop) : putF N dst a env k = putVC N dst a env k := by
  cases dst <;> simp only [putF, putVC, fA_eq]
def opsF (det : Bool) (tab : Tab) (P : Program) (N : Nat) (all : List Oper) : List Oper → Env → Nat → Heap → Trace → (Env → Nat → Heap → Trace → Prop) → Prop
  | [], env, next, H, tr, K => K env next H tr
  | o :: rest, env, next, H, tr, K =>
    match o.guard with
    | none => opVC det tab P (lkOf env) next H.get o.op fun a ups m rd => putF N o.dst a env fun env => fN (next + m) fun next' => fH ups H fun H => opsF det tab P N all rest env next' H ((rd, ups.map (·.1), next, m) :: tr) K
    | some (j, want) => match (nth all j).bind (·.dst) with
      | none => False
      | some t => match look env t with
        | .kb b => bif b == want
            then opVC det tab P (lkOf env) next H.get o.op fun a ups m rd => putF N o.dst a env fun env => fN (next + m) fun next' => fH ups H fun H => opsF det tab P N all rest env next' H ((rd, ups.map (·.1), next, m) :: tr) K
            else putF N o.dst (.tup []) env fun env => opsF det tab P N all rest env next H (([], [], next, 0) :: tr) K
        | .dat (.bool b) => BoolCase b
            (bif want
              then opVC det tab P (lkOf ((t, .kb true) :: env)) next H.get o.op fun a ups m rd => putF N o.dst a ((t, .kb true) :: env) fun env => fN (next + m) fun next' => fH ups H fun H => opsF det tab P N all rest env next' H ((rd, ups.map (·.1), next, m) :: tr) K
              else putF N o.dst (.tup []) ((t, .kb true) :: env) fun env => opsF det tab P N all rest env next H (([], [], next, 0) :: tr) K)
            (bif want
              then putF N o.dst (.tup []) ((t, .kb false) :: env) fun env => opsF det tab P N all rest env next H (([], [], next, 0) :: tr) K
              else opVC det tab P (lkOf ((t, .kb false) :: env)) next H.get o.op fun a ups m rd => putF N o.dst a ((t, .kb false) :: env) fun env => fN (next + m) fun next' => fH ups H fun H => opsF det tab P N all rest env next' H ((rd, ups.map (·.1), next, m) :: tr) K)
        | .tup _ => putF N o.dst (.tup []) env fun env => opsF det tab P N all rest env next H (([], [], next, 0) :: tr) K
        | _ => False
theorem opsF_eq (det : Bool) (tab : Tab) (P : Program) (N : Nat) (all : List Oper) : ∀ (l : List Oper) (s : St) (tr : Trace) (K : St → Trace → Prop), opsF det tab P N all l s.env s.next s.H tr (fun env next H tr => K ⟨env, next, H⟩ tr) = vcOps det tab P N all l s tr K
  | [], s, tr, K => rfl
  | o :: rest, s, tr, K => by
    have ih := fun env next H tr => opsF_eq det tab P N all rest ⟨env, next, H⟩ tr K
    simp only at ih
    simp only [opsF, vcOps, putF_eq, fN_eq, fH_eq, ih] <;> rfl
def vcF (ic : Code → Bool) (tab : Tab) (P : Program) (N : Nat) : Code → (X → Env → Nat → Heap → Prop) → Env → Nat → Heap → Prop
  | .skip, Q, e, n, H => Q .normal e n H
  | .label _, Q, e, n, H => Q .normal e n H
  | .ret, Q, e, n, H => Q .ret e n H
  | .exit id, Q, e, n, H => Q (.exit id) e n H
  | .seq a b, Q, e, n, H => bif ic a
      then SeqOk N (fun Q s => vcF ic tab P N a (fun x e n H => Q x ⟨e, n, H⟩) s.env s.next s.H) (fun Q s => vcF ic tab P N b (fun x e n H => Q x ⟨e, n, H⟩) s.env s.next s.H) (fun x s => Q x s.env s.next s.H) ⟨e, n, H⟩
      else vcF ic tab P N a (fun x e n H => match x with
        | .normal => vcF ic tab P N b Q e n H
        | .exit id => Q (.exit id) e n H
        | .ret => Q .ret e n H) e n H
  | .cond c t f, Q, e, n, H => match lkOf e c with
    | .kb true => vcF ic tab P N t Q e n H
    | .kb false => vcF ic tab P N f Q e n H
    | .dat (.bool b) => BoolCase b (vcF ic tab P N t Q e n H) (vcF ic tab P N f Q e n H)
    | _ => False
  | .block id c, Q, e, n, H => vcF ic tab P N c (fun x e n H => match x with
      | .normal => Q .normal e n H
      | .exit id' => bif Nat.beq id' id then Q .normal e n H else Q (.exit id') e n H
      | .ret => Q .ret e n H) e n H
  | .loop c, Q, e, n, H => LoopOk N (fun Q s => vcF ic tab P N c (fun x e n H => Q x ⟨e, n, H⟩) s.env s.next s.H) (fun x s => Q x s.env s.next s.H) ⟨e, n, H⟩
  | .region _ ops draw, Q, e, n, H => bif draw
      then opsF true tab P N ops.toList ops.toList e n H [] fun e n H tr => Conf (confOk P ops tr) (Q .normal e n H)
      else opsF false tab P N ops.toList ops.toList e n H [] fun e n H _ => Q .normal e n H
  | _, _, _, _, _ => False
theorem vcF_eq (ic : Code → Bool) (tab : Tab) (P : Program) (N : Nat) : ∀ (c : Code) (Q : X → St → Prop) (s : St), vcF ic tab P N c (fun x e n H => Q x ⟨e, n, H⟩) s.env s.next s.H = vc ic tab P N c Q s := by
  intro c
  induction c with
  | skip => exact fun Q s => rfl
  | label l => exact fun Q s => rfl
  | ret => exact fun Q s => rfl
  | exit id => exact fun Q s => rfl
  | seq a b iha ihb =>
    intro Q s
    simp only [vcF, vc]
    have h1 : (vcF ic tab P N a (fun x e n H => match x with
        | .normal => vcF ic tab P N b (fun x e n H => Q x ⟨e, n, H⟩) e n H
        | .exit id => Q (.exit id) ⟨e, n, H⟩
        | .ret => Q .ret ⟨e, n, H⟩) s.env s.next s.H) = vc ic tab P N a (fun e s' => match e with
        | .normal => vc ic tab P N b Q s'
        | .exit id => Q (.exit id) s'
        | .ret => Q .ret s') s := by
      rw [← iha]
      congr 1
      funext x e n H
      cases x
      · exact ihb Q ⟨e, n, H⟩
      · rfl
      · rfl
    have h2 : (fun Q s => vcF ic tab P N a (fun x e n H => Q x ⟨e, n, H⟩) s.env s.next s.H) = vc ic tab P N a := funext fun Q => funext fun s => iha Q s
    have h3 : (fun Q s => vcF ic tab P N b (fun x e n H => Q x ⟨e, n, H⟩) s.env s.next s.H) = vc ic tab P N b := funext fun Q => funext fun s => ihb Q s
    (rw [h1, h2, h3]) <;> rfl
  | cond c t f iht ihf =>
    intro Q s
    simp only [vcF, vc, iht, ihf] <;> rfl
  | block id c ih =>
    intro Q s
    simp only [vcF, vc]
    (rw [← ih]) <;> congr 1
  | loop c ih =>
    intro Q s
    simp only [vcF, vc]
    have h2 : (fun Q s => vcF ic tab P N c (fun x e n H => Q x ⟨e, n, H⟩) s.env s.next s.H) = vc ic tab P N c := funext fun Q => funext fun s => ih Q s
    rw [h2]
  | region id ops draw =>
    intro Q s
    simp only [vcF, vc]
    cases draw
    · exact opsF_eq false tab P N ops.toList ops.toList s [] fun s' _ => Q .normal s'
    · exact opsF_eq true tab P N ops.toList ops.toList s [] fun s' tr => Conf (confOk P ops tr) (Q .normal s')
  | _ => exact fun Q s => rfl

/-- The same, by plain recursion: so that reckoning leaves what is left in one form. -/
abbrev OpsT := Env → Nat → Heap → Trace → (Env → Nat → Heap → Trace → Prop) → Prop
def opsNil : OpsT := fun env next H tr K => K env next H tr
def opsCons (det : Bool) (tab : Tab) (P : Program) (N : Nat) (all : List Oper) (o : Oper) (_ : List Oper) (ih : OpsT) : OpsT := fun env next H tr K =>
    match o.guard with
    | none => opVC det tab P (lkOf env) next H.get o.op fun a ups m rd => putF N o.dst a env fun env => fN (next + m) fun next' => fH ups H fun H => ih env next' H ((rd, ups.map (·.1), next, m) :: tr) K
    | some (j, want) => match (nth all j).bind (·.dst) with
      | none => False
      | some t => match look env t with
        | .kb b => bif b == want
            then opVC det tab P (lkOf env) next H.get o.op fun a ups m rd => putF N o.dst a env fun env => fN (next + m) fun next' => fH ups H fun H => ih env next' H ((rd, ups.map (·.1), next, m) :: tr) K
            else putF N o.dst (.tup []) env fun env => ih env next H (([], [], next, 0) :: tr) K
        | .dat (.bool b) => BoolCase b
            (bif want
              then opVC det tab P (lkOf ((t, .kb true) :: env)) next H.get o.op fun a ups m rd => putF N o.dst a ((t, .kb true) :: env) fun env => fN (next + m) fun next' => fH ups H fun H => ih env next' H ((rd, ups.map (·.1), next, m) :: tr) K
              else putF N o.dst (.tup []) ((t, .kb true) :: env) fun env => ih env next H (([], [], next, 0) :: tr) K)
            (bif want
              then putF N o.dst (.tup []) ((t, .kb false) :: env) fun env => ih env next H (([], [], next, 0) :: tr) K
              else opVC det tab P (lkOf ((t, .kb false) :: env)) next H.get o.op fun a ups m rd => putF N o.dst a ((t, .kb false) :: env) fun env => fN (next + m) fun next' => fH ups H fun H => ih env next' H ((rd, ups.map (·.1), next, m) :: tr) K)
        | .tup _ => putF N o.dst (.tup []) env fun env => ih env next H (([], [], next, 0) :: tr) K
        | _ => False
def opsR (det : Bool) (tab : Tab) (P : Program) (N : Nat) (all : List Oper) (l : List Oper) : OpsT :=
  List.rec (motive := fun _ => OpsT) opsNil (opsCons det tab P N all) l
theorem opsR_eq (det : Bool) (tab : Tab) (P : Program) (N : Nat) (all : List Oper) : ∀ (l : List Oper), opsR det tab P N all l = opsF det tab P N all l
  | [] => rfl
  | o :: rest => by
    funext env next H tr K
    simp only [opsF, ← opsR_eq det tab P N all rest]
    rfl
abbrev VcT := (X → Env → Nat → Heap → Prop) → Env → Nat → Heap → Prop
def vcNormal : VcT := fun Q e n H => Q .normal e n H
def vcRegion (tab : Tab) (P : Program) (N : Nat) (_ : Nat) (ops : Array Oper) (draw : Bool) : VcT := fun Q e n H => bif draw
      then opsR true tab P N ops.toList ops.toList e n H [] fun e n H tr => Conf (confOk P ops tr) (Q .normal e n H)
      else opsR false tab P N ops.toList ops.toList e n H [] fun e n H _ => Q .normal e n H
def vcSeq (ic : Code → Bool) (N : Nat) (a _ : Code) (iha ihb : VcT) : VcT := fun Q e n H => bif ic a
      then SeqOk N (fun Q s => iha (fun x e n H => Q x ⟨e, n, H⟩) s.env s.next s.H) (fun Q s => ihb (fun x e n H => Q x ⟨e, n, H⟩) s.env s.next s.H) (fun x s => Q x s.env s.next s.H) ⟨e, n, H⟩
      else iha (fun x e n H => match x with
        | .normal => ihb Q e n H
        | .exit id => Q (.exit id) e n H
        | .ret => Q .ret e n H) e n H
def vcCond (c : Operand) (_ _ : Code) (iht ihf : VcT) : VcT := fun Q e n H => match lkOf e c with
      | .kb true => iht Q e n H
      | .kb false => ihf Q e n H
      | .dat (.bool b) => BoolCase b (iht Q e n H) (ihf Q e n H)
      | _ => False
def vcBlock (id : Nat) (_ : Code) (ih : VcT) : VcT := fun Q e n H => ih (fun x e n H => match x with
      | .normal => Q .normal e n H
      | .exit id' => bif Nat.beq id' id then Q .normal e n H else Q (.exit id') e n H
      | .ret => Q .ret e n H) e n H
def vcLoop (N : Nat) (_ : Code) (ih : VcT) : VcT := fun Q e n H => LoopOk N (fun Q s => ih (fun x e n H => Q x ⟨e, n, H⟩) s.env s.next s.H) (fun x s => Q x s.env s.next s.H) ⟨e, n, H⟩
def vcRangeFunc (_ : Operand) (_ : Array Tmp) (_ _ : Code) (_ _ : VcT) : VcT := fun _ _ _ _ => False
def vcExit (id : Nat) : VcT := fun Q e n H => Q (.exit id) e n H
def vcScope (_ : Code) (_ : VcT) : VcT := fun _ _ _ _ => False
def vcLabel (_ : Nat) : VcT := fun Q e n H => Q .normal e n H
def vcGoto (_ : Nat) : VcT := fun _ _ _ _ => False
def vcRet : VcT := fun Q e n H => Q .ret e n H
def vcRefuse (_ : String) : VcT := fun _ _ _ _ => False
def vcR (ic : Code → Bool) (tab : Tab) (P : Program) (N : Nat) (c : Code) : VcT :=
  Code.rec (motive := fun _ => VcT) vcNormal (vcRegion tab P N) (vcSeq ic N) vcCond vcBlock (vcLoop N) vcRangeFunc vcExit vcScope vcLabel vcGoto vcRet vcRefuse c
theorem vcR_eq (ic : Code → Bool) (tab : Tab) (P : Program) (N : Nat) : ∀ (c : Code), vcR ic tab P N c = vcF ic tab P N c := by
  intro c
  induction c with
  | seq a b iha ihb => funext Q e n H; simp only [vcF, ← iha, ← ihb]; rfl
  | cond c t f iht ihf => funext Q e n H; simp only [vcF, ← iht, ← ihf]; rfl
  | block id c ih => funext Q e n H; simp only [vcF, ← ih]; rfl
  | loop c ih => funext Q e n H; simp only [vcF, ← ih]; rfl
  | region id ops draw => funext Q e n H; simp only [vcF, ← opsR_eq]; rfl
  | _ => rfl

/-- A function's body. -/
def bodyOf (fn : Func) : Code := fn.body.getD .skip
/-- What is answered is what was told. -/
structure Ret (y x : AVal) : Prop where
  eq : y = x
def dataF (tab : Tab) (rs : List ResultVar) (x : AVal) (e : X) (env : Env) (next : Nat) (H : Heap) : Prop := match e with
  | .normal | .ret => resVC tab ⟨env, next, H⟩ rs fun xs => match outA H.get (tupA xs) with
    | some y => fA y fun y => Ret y x
    | none => False
  | .exit _ => False
theorem resVC_mono {tab : Tab} {s : St} {k k' : List AVal → Prop} (hk : ∀ xs, k xs → k' xs) : ∀ (rs : List ResultVar), resVC tab s rs k → resVC tab s rs k'
  | [], h => hk _ h
  | .tmp t :: rest, h => resVC_mono (k := fun xs => k (look s.env t :: xs)) (fun xs h => hk _ h) rest h
  | .cell t T :: rest, h => by
    simp only [resVC] at h ⊢
    split at h
    · split at h
      · rename_i hg
        unfold partA at h ⊢
        split at h
        · exact h.elim
        · rename_i ti hti
          obtain ⟨h1, h2⟩ := dropA_ok _ _ _ h
          have dr : ∀ (n : Nat) (l : List AVal) (q : List AVal → Prop), n ≤ l.length → q (l.drop n) → dropA n l q := fun n => by
            induction n with
            | zero => intro l q _ h; exact h
            | succ n ih => intro l q hl h; cases l with
              | nil => simp at hl
              | cons a t => exact ih t q (by simpa using hl) (by simpa using h)
          have tk : ∀ (n : Nat) (l : List AVal) (q : List AVal → Prop), n ≤ l.length → q (l.take n) → takeA n l q := fun n => by
            induction n with
            | zero => intro l q _ h; simpa [takeA] using h
            | succ n ih => intro l q hl h; cases l with
              | nil => simp at hl
              | cons a t => exact ih t _ (by simpa using hl) (by simpa using h)
          simp only
          refine dr _ _ _ h1 ?_
          cases hk' : ti.kind.isAgg
          · rw [hk', cond_false] at h2
            rw [cond_false]
            split at h2
            · exact h2.elim
            · exact resVC_mono (fun xs h => hk _ h) rest h2
          · rw [hk', cond_true] at h2
            rw [cond_true]
            obtain ⟨h3, h4⟩ := takeA_ok _ _ _ h2
            exact tk _ _ _ h3 (resVC_mono (fun xs h => hk _ h) rest h4)
      · exact h.elim
    · exact h.elim
theorem dataF_imp {tab : Tab} {rs : List ResultVar} {x : AVal} {e : X} {s : St} (h : dataF tab rs x e s.env s.next s.H) : dataQ tab rs x e s := by
  have key : resVC tab s rs (fun xs => match outA s.H.get (tupA xs) with
    | some y => fA y fun y => Ret y x
    | none => False) → resVC tab s rs fun xs => RetData (outA s.H.get (tupA xs)) x := fun h => resVC_mono (fun xs h => by
      split at h
      · rename_i y hy
        rw [fA_eq] at h
        exact ⟨by rw [hy, h.eq]⟩
      · exact h.elim) rs h
  cases e with
  | normal => exact key h
  | ret => exact key h
  | exit id => exact h
/-- A function that only reads, and answers data: what is asked of its body. -/
theorem pcall_with (ic : Code → Bool) {P : Program} {tab : Tab} (ht : TabOk P tab) (hm : P.follows .mixedOrders = true) {f N : Nat} {fn : Func} {args : List AVal} {x : AVal} (hf : P.funcs[f]? = some fn) (hcall : callable P f = true) (hN : fn.ntmps = N) (hlen : (Nat.ble args.length N && Nat.blt N 65536) = true)
    (h : vcR ic tab P N (bodyOf fn) (dataF tab fn.results.toList x) (argEnv 0 args) 0 []) : PCall P f args x := by
  simp only [Bool.and_eq_true] at hlen
  have hb : fn.body = some (bodyOf fn) := by
    unfold callable at hcall
    rw [hf] at hcall
    simp only [Bool.and_eq_true] at hcall
    obtain ⟨c, hc⟩ := Option.isSome_iff_exists.1 hcall.2
    simp [bodyOf, hc]
  refine pcall_of_vc' (ic := ic) ht hm hf hb hcall hN (hblt hlen.2) (Nat.le_of_ble_eq_true hlen.1) (Q := fun e s => dataF tab fn.results.toList x e s.env s.next s.H) (fun e s h => dataF_imp h) ?_
  rw [← vcF_eq, ← vcR_eq]
  exact h
theorem pcall_intro {P : Program} {tab : Tab} (ht : TabOk P tab) (hm : P.follows .mixedOrders = true) {f N : Nat} {fn : Func} {args : List AVal} {x : AVal} (hf : P.funcs[f]? = some fn) (hcall : callable P f = true) (hN : fn.ntmps = N) (hlen : (Nat.ble args.length N && Nat.blt N 65536) = true)
    (h : vcR isCond tab P N (bodyOf fn) (dataF tab fn.results.toList x) (argEnv 0 args) 0 []) : PCall P f args x := pcall_with isCond ht hm hf hcall hN hlen h
/-- .. cut behind all that is great. -/
theorem pcall_cut {P : Program} {tab : Tab} (ht : TabOk P tab) (hm : P.follows .mixedOrders = true) {f N : Nat} {fn : Func} {args : List AVal} {x : AVal} (hf : P.funcs[f]? = some fn) (hcall : callable P f = true) (hN : fn.ntmps = N) (hlen : (Nat.ble args.length N && Nat.blt N 65536) = true)
    (h : vcR isBig tab P N (bodyOf fn) (dataF tab fn.results.toList x) (argEnv 0 args) 0 []) : PCall P f args x := pcall_with isBig ht hm hf hcall hN hlen h
end Go.Proofs.YtlioojekjnigiaeGreat.AM
/- The table of types of this program. -/
namespace Go.Proofs.YtlioojekjnigiaeGreat.AM
set_option maxRecDepth 100000
def tab : Tab := [
  ⟨1, 0, .other, none, none⟩,
  ⟨1, 8, .other, some [.cell], none⟩,
  ⟨1, 8, .int .i64, some [.dat (.int .i64 0)], none⟩,
  ⟨1, 8, .int .i64, some [.dat (.int .i64 0)], none⟩,
  ⟨1, 1, .bool, some [.kb false], none⟩,
  ⟨1, 1, .int .u8, some [.dat (.int .u8 0)], none⟩,
  ⟨1, 1, .int .u8, some [.dat (.int .u8 0)], none⟩,
  ⟨4, 24, .struct [(2, 0), (3, 1), (4, 2), (6, 3)], some [.dat (.int .i64 0), .dat (.int .i64 0), .kb false, .dat (.int .u8 0)], some [.int .i64, .int .i64, .bool, .int .u8]⟩,
  ⟨4, 24, .struct [(2, 0), (3, 1), (4, 2), (6, 3)], some [.dat (.int .i64 0), .dat (.int .i64 0), .kb false, .dat (.int .u8 0)], some [.int .i64, .int .i64, .bool, .int .u8]⟩,
  ⟨1, 16, .string, some [.dat (.str ByteArray.empty)], none⟩,
  ⟨1, 16, .string, some [.dat (.str ByteArray.empty)], none⟩,
  ⟨1, 16, .string, some [.dat (.str ByteArray.empty)], none⟩,
  ⟨1, 8, .int .u64, some [.dat (.int .u64 0)], none⟩,
  ⟨2, 24, .struct [(9, 0), (12, 1)], some [.dat (.str ByteArray.empty), .dat (.int .u64 0)], none⟩,
  ⟨2, 24, .struct [(9, 0), (12, 1)], some [.dat (.str ByteArray.empty), .dat (.int .u64 0)], none⟩,
  ⟨1, 8, .pointer 179, none, none⟩,
  ⟨1, 8, .pointer 182, none, none⟩,
  ⟨1, 8, .pointer 191, none, none⟩,
  ⟨1, 8, .struct [(17, 0)], none, none⟩,
  ⟨1, 8, .struct [(17, 0)], none, none⟩,
  ⟨1, 16, .other, none, none⟩,
  ⟨1, 4, .int .i32, some [.dat (.int .i32 0)], none⟩,
  ⟨1, 24, .slice 48, some [.nil], none⟩,
  ⟨1, 24, .slice 60, some [.nil], none⟩,
  ⟨1, 8, .int .i64, some [.dat (.int .i64 0)], none⟩,
  ⟨1, 0, .other, none, none⟩,
  ⟨1, 8, .other, some [.cell], none⟩,
  ⟨1, 24, .slice 9, some [.nil], none⟩,
  ⟨1, 0, .other, none, none⟩,
  ⟨1, 8, .other, some [.cell], none⟩,
  ⟨1, 0, .other, none, none⟩,
  ⟨1, 8, .other, some [.cell], none⟩,
  ⟨1, 8, .other, some [.cell], none⟩,
  ⟨1, 8, .other, some [.cell], none⟩,
  ⟨1, 8, .other, some [.cell], none⟩,
  ⟨1, 8, .other, some [.cell], none⟩,
  ⟨1, 0, .other, none, none⟩,
  ⟨1, 8, .other, some [.cell], none⟩,
  ⟨1, 8, .other, some [.cell], none⟩,
  ⟨1, 8, .other, some [.cell], none⟩,
  ⟨1, 8, .other, some [.cell], none⟩,
  ⟨1, 8, .other, some [.cell], none⟩,
  ⟨3, 56, .struct [(3, 0), (22, 1), (22, 2)], some [.dat (.int .i64 0), .nil, .nil], none⟩,
  ⟨3, 56, .struct [(3, 0), (22, 1), (22, 2)], some [.dat (.int .i64 0), .nil, .nil], none⟩,
  ⟨2, 16, .struct [(3, 0), (3, 1)], some [.dat (.int .i64 0), .dat (.int .i64 0)], some [.int .i64, .int .i64]⟩,
  ⟨2, 16, .struct [(3, 0), (3, 1)], some [.dat (.int .i64 0), .dat (.int .i64 0)], some [.int .i64, .int .i64]⟩,
  ⟨1, 24, .slice 45, some [.nil], none⟩,
  ⟨5, 64, .struct [(45, 0), (3, 2), (9, 3), (46, 4)], some [.dat (.int .i64 0), .dat (.int .i64 0), .dat (.int .i64 0), .dat (.str ByteArray.empty), .nil], none⟩,
  ⟨5, 64, .struct [(45, 0), (3, 2), (9, 3), (46, 4)], some [.dat (.int .i64 0), .dat (.int .i64 0), .dat (.int .i64 0), .dat (.str ByteArray.empty), .nil], none⟩,
  ⟨1, 0, .other, none, none⟩,
  ⟨1, 8, .other, some [.cell], none⟩,
  ⟨1, 8, .other, some [.cell], none⟩,
  ⟨1, 24, .slice 56, some [.nil], none⟩,
  ⟨1, 8, .other, some [.cell], none⟩,
  ⟨1, 8, .other, some [.cell], none⟩,
  ⟨6, 80, .struct [(45, 0), (3, 2), (9, 3), (9, 4), (46, 5)], some [.dat (.int .i64 0), .dat (.int .i64 0), .dat (.int .i64 0), .dat (.str ByteArray.empty), .dat (.str ByteArray.empty), .nil], none⟩,
  ⟨6, 80, .struct [(45, 0), (3, 2), (9, 3), (9, 4), (46, 5)], some [.dat (.int .i64 0), .dat (.int .i64 0), .dat (.int .i64 0), .dat (.str ByteArray.empty), .dat (.str ByteArray.empty), .nil], none⟩,
  ⟨1, 8, .other, some [.cell], none⟩,
  ⟨1, 8, .other, some [.cell], none⟩,
  ⟨2, 40, .struct [(9, 0), (27, 1)], some [.dat (.str ByteArray.empty), .nil], none⟩,
  ⟨2, 40, .struct [(9, 0), (27, 1)], some [.dat (.str ByteArray.empty), .nil], none⟩,
  ⟨1, 0, .other, none, none⟩,
  ⟨1, 8, .other, some [.cell], none⟩,
  ⟨1, 0, .other, none, none⟩,
  ⟨1, 8, .other, some [.cell], none⟩,
  ⟨1, 8, .other, some [.cell], none⟩,
  ⟨1, 8, .other, some [.cell], none⟩,
  ⟨2, 16, .array 2 3, some [.dat (.int .i64 0), .dat (.int .i64 0)], some [.int .i64, .int .i64]⟩,
  ⟨2, 16, .array 2 3, some [.dat (.int .i64 0), .dat (.int .i64 0)], some [.int .i64, .int .i64]⟩,
  ⟨1, 8, .other, some [.cell], none⟩,
  ⟨1, 8, .other, some [.cell], none⟩,
  ⟨1, 8, .other, some [.cell], none⟩,
  ⟨1, 8, .other, some [.cell], none⟩,
  ⟨1, 24, .slice 4, some [.nil], none⟩,
  ⟨1, 8, .other, some [.cell], none⟩,
  ⟨1, 8, .other, some [.cell], none⟩,
  ⟨1, 0, .other, none, none⟩,
  ⟨1, 8, .other, some [.cell], none⟩,
  ⟨1, 8, .other, some [.cell], none⟩,
  ⟨1, 8, .other, some [.cell], none⟩,
  ⟨1, 8, .other, some [.cell], none⟩,
  ⟨1, 8, .other, some [.cell], none⟩,
  ⟨1, 8, .other, some [.cell], none⟩,
  ⟨3, 56, .struct [(43, 0)], some [.dat (.int .i64 0), .nil, .nil], none⟩,
  ⟨3, 56, .struct [(43, 0)], some [.dat (.int .i64 0), .nil, .nil], none⟩,
  ⟨1, 0, .other, none, none⟩,
  ⟨1, 8, .other, some [.cell], none⟩,
  ⟨1, 8, .other, some [.cell], none⟩,
  ⟨1, 0, .other, none, none⟩,
  ⟨1, 8, .other, some [.cell], none⟩,
  ⟨1, 8, .other, some [.cell], none⟩,
  ⟨1, 8, .other, some [.cell], none⟩,
  ⟨1, 8, .other, some [.cell], none⟩,
  ⟨1, 8, .other, some [.cell], none⟩,
  ⟨1, 8, .other, some [.cell], none⟩,
  ⟨1, 8, .other, some [.cell], none⟩,
  ⟨1, 8, .other, some [.cell], none⟩,
  ⟨1, 8, .other, some [.cell], none⟩,
  ⟨1, 24, .slice 5, some [.nil], none⟩,
  ⟨1, 8, .other, some [.cell], none⟩,
  ⟨1, 8, .other, some [.cell], none⟩,
  ⟨1, 8, .other, some [.cell], none⟩,
  ⟨1, 8, .other, some [.cell], none⟩,
  ⟨1, 8, .other, some [.cell], none⟩,
  ⟨1, 8, .other, some [.cell], none⟩,
  ⟨1, 8, .pointer 84, none, none⟩,
  ⟨1, 8, .other, some [.cell], none⟩,
  ⟨1, 8, .other, some [.cell], none⟩,
  ⟨1, 8, .other, some [.cell], none⟩,
  ⟨1, 8, .other, some [.cell], none⟩,
  ⟨1, 8, .other, some [.cell], none⟩,
  ⟨1, 8, .other, some [.cell], none⟩,
  ⟨1, 8, .other, some [.cell], none⟩,
  ⟨1, 8, .other, some [.cell], none⟩,
  ⟨1, 8, .other, some [.cell], none⟩,
  ⟨1, 8, .pointer 60, none, none⟩,
  ⟨1, 8, .other, some [.cell], none⟩,
  ⟨1, 8, .other, some [.cell], none⟩,
  ⟨1, 8, .other, some [.cell], none⟩,
  ⟨1, 8, .other, some [.cell], none⟩,
  ⟨1, 24, .slice 3, some [.nil], none⟩,
  ⟨1, 8, .other, some [.cell], none⟩,
  ⟨1, 8, .other, some [.cell], none⟩,
  ⟨1, 8, .other, some [.cell], none⟩,
  ⟨1, 8, .other, some [.cell], none⟩,
  ⟨1, 8, .other, some [.cell], none⟩,
  ⟨1, 8, .other, some [.cell], none⟩,
  ⟨1, 8, .other, some [.cell], none⟩,
  ⟨1, 8, .other, some [.cell], none⟩,
  ⟨1, 8, .other, some [.cell], none⟩,
  ⟨1, 8, .other, some [.cell], none⟩,
  ⟨1, 8, .other, some [.cell], none⟩,
  ⟨1, 8, .other, some [.cell], none⟩,
  ⟨1, 8, .other, some [.cell], none⟩,
  ⟨1, 8, .other, some [.cell], none⟩,
  ⟨1, 8, .int .u64, some [.dat (.int .u64 0)], none⟩,
  ⟨1, 8, .other, some [.cell], none⟩,
  ⟨1, 8, .other, some [.cell], none⟩,
  ⟨1, 8, .other, some [.cell], none⟩,
  ⟨1, 8, .other, some [.cell], none⟩,
  ⟨1, 8, .other, some [.cell], none⟩,
  ⟨1, 8, .other, some [.cell], none⟩,
  ⟨1, 8, .other, some [.cell], none⟩,
  ⟨1, 8, .int .i64, some [.dat (.int .i64 0)], none⟩,
  ⟨1, 0, .other, none, none⟩,
  ⟨1, 8, .other, some [.cell], none⟩,
  ⟨1, 8, .other, some [.cell], none⟩,
  ⟨1, 8, .other, some [.cell], none⟩,
  ⟨1, 0, .other, none, none⟩,
  ⟨1, 8, .other, some [.cell], none⟩,
  ⟨1, 8, .other, some [.cell], none⟩,
  ⟨1, 4, .int .u32, some [.dat (.int .u32 0)], none⟩,
  ⟨1, 8, .other, some [.cell], none⟩,
  ⟨1, 8, .int .u64, some [.dat (.int .u64 0)], none⟩,
  ⟨1, 0, .other, none, none⟩,
  ⟨1, 8, .other, some [.cell], none⟩,
  ⟨1, 8, .other, some [.cell], none⟩,
  ⟨1, 8, .other, some [.cell], none⟩,
  ⟨1, 8, .other, some [.cell], none⟩,
  ⟨1, 8, .other, some [.cell], none⟩,
  ⟨1, 8, .other, some [.cell], none⟩,
  ⟨1, 8, .other, some [.cell], none⟩,
  ⟨1, 8, .other, some [.cell], none⟩,
  ⟨1, 8, .other, some [.cell], none⟩,
  ⟨1, 8, .int .u64, some [.dat (.int .u64 0)], none⟩,
  ⟨1, 8, .other, some [.cell], none⟩,
  ⟨1, 8, .other, some [.cell], none⟩,
  ⟨1, 8, .other, some [.cell], none⟩,
  ⟨1, 8, .pointer 3, none, none⟩,
  ⟨1, 8, .other, some [.cell], none⟩,
  ⟨1, 8, .other, some [.cell], none⟩,
  ⟨1, 8, .other, some [.cell], none⟩,
  ⟨1, 8, .pointer 164, none, none⟩,
  ⟨1, 0, .other, none, none⟩,
  ⟨1, 8, .other, some [.cell], none⟩,
  ⟨1, 8, .other, some [.cell], none⟩,
  ⟨1, 8, .other, some [.cell], none⟩,
  ⟨1, 8, .other, some [.cell], none⟩,
  ⟨4, 40, .struct [(17, 0), (17, 1), (17, 2), (9, 3)], none, none⟩,
  ⟨4, 40, .struct [(17, 0), (17, 1), (17, 2), (9, 3)], none, none⟩,
  ⟨0, 0, .array 0 16, some [], none⟩,
  ⟨0, 0, .struct [(180, 0)], some [], none⟩,
  ⟨0, 0, .struct [(180, 0)], some [], none⟩,
  ⟨1, 8, .other, some [.cell], none⟩,
  ⟨1, 1, .int .u8, some [.dat (.int .u8 0)], none⟩,
  ⟨1, 1, .int .u8, some [.dat (.int .u8 0)], none⟩,
  ⟨1, 8, .other, some [.cell], none⟩,
  ⟨1, 8, .pointer 5, none, none⟩,
  ⟨1, 4, .int .i32, some [.dat (.int .i32 0)], none⟩,
  ⟨1, 4, .int .i32, some [.dat (.int .i32 0)], none⟩,
  ⟨11, 48, .struct [(12, 0), (12, 1), (151, 2), (184, 3), (5, 4), (5, 5), (185, 6), (186, 7), (187, 8), (188, 9), (189, 10)], none, none⟩,
  ⟨11, 48, .struct [(12, 0), (12, 1), (151, 2), (184, 3), (5, 4), (5, 5), (185, 6), (186, 7), (187, 8), (188, 9), (189, 10)], none, none⟩,
  ⟨1, 8, .other, none, none⟩]
theorem tab_mixed : Tryz.prog.follows .mixedOrders = true := by kernel_rfl
theorem tab0 : tiOf Tryz.prog 0 = nth tab 0 := by kernel_rfl
theorem tab1 : tiOf Tryz.prog 1 = nth tab 1 := by kernel_rfl
theorem tab2 : tiOf Tryz.prog 2 = nth tab 2 := by kernel_rfl
theorem tab3 : tiOf Tryz.prog 3 = nth tab 3 := by kernel_rfl
theorem tab4 : tiOf Tryz.prog 4 = nth tab 4 := by kernel_rfl
theorem tab5 : tiOf Tryz.prog 5 = nth tab 5 := by kernel_rfl
theorem tab6 : tiOf Tryz.prog 6 = nth tab 6 := by kernel_rfl
theorem tab7 : tiOf Tryz.prog 7 = nth tab 7 := by kernel_rfl
theorem tab8 : tiOf Tryz.prog 8 = nth tab 8 := by kernel_rfl
theorem tab9 : tiOf Tryz.prog 9 = nth tab 9 := by kernel_rfl
theorem tab10 : tiOf Tryz.prog 10 = nth tab 10 := by kernel_rfl
theorem tab11 : tiOf Tryz.prog 11 = nth tab 11 := by kernel_rfl
theorem tab12 : tiOf Tryz.prog 12 = nth tab 12 := by kernel_rfl
theorem tab13 : tiOf Tryz.prog 13 = nth tab 13 := by kernel_rfl
theorem tab14 : tiOf Tryz.prog 14 = nth tab 14 := by kernel_rfl
theorem tab15 : tiOf Tryz.prog 15 = nth tab 15 := by kernel_rfl
theorem tab16 : tiOf Tryz.prog 16 = nth tab 16 := by kernel_rfl
theorem tab17 : tiOf Tryz.prog 17 = nth tab 17 := by kernel_rfl
theorem tab18 : tiOf Tryz.prog 18 = nth tab 18 := by kernel_rfl
theorem tab19 : tiOf Tryz.prog 19 = nth tab 19 := by kernel_rfl
theorem tab20 : tiOf Tryz.prog 20 = nth tab 20 := by kernel_rfl
theorem tab21 : tiOf Tryz.prog 21 = nth tab 21 := by kernel_rfl
theorem tab22 : tiOf Tryz.prog 22 = nth tab 22 := by kernel_rfl
theorem tab23 : tiOf Tryz.prog 23 = nth tab 23 := by kernel_rfl
theorem tab24 : tiOf Tryz.prog 24 = nth tab 24 := by kernel_rfl
theorem tab25 : tiOf Tryz.prog 25 = nth tab 25 := by kernel_rfl
theorem tab26 : tiOf Tryz.prog 26 = nth tab 26 := by kernel_rfl
theorem tab27 : tiOf Tryz.prog 27 = nth tab 27 := by kernel_rfl
theorem tab28 : tiOf Tryz.prog 28 = nth tab 28 := by kernel_rfl
theorem tab29 : tiOf Tryz.prog 29 = nth tab 29 := by kernel_rfl
theorem tab30 : tiOf Tryz.prog 30 = nth tab 30 := by kernel_rfl
theorem tab31 : tiOf Tryz.prog 31 = nth tab 31 := by kernel_rfl
theorem tab32 : tiOf Tryz.prog 32 = nth tab 32 := by kernel_rfl
theorem tab33 : tiOf Tryz.prog 33 = nth tab 33 := by kernel_rfl
theorem tab34 : tiOf Tryz.prog 34 = nth tab 34 := by kernel_rfl
theorem tab35 : tiOf Tryz.prog 35 = nth tab 35 := by kernel_rfl
theorem tab36 : tiOf Tryz.prog 36 = nth tab 36 := by kernel_rfl
theorem tab37 : tiOf Tryz.prog 37 = nth tab 37 := by kernel_rfl
theorem tab38 : tiOf Tryz.prog 38 = nth tab 38 := by kernel_rfl
theorem tab39 : tiOf Tryz.prog 39 = nth tab 39 := by kernel_rfl
theorem tab40 : tiOf Tryz.prog 40 = nth tab 40 := by kernel_rfl
theorem tab41 : tiOf Tryz.prog 41 = nth tab 41 := by kernel_rfl
theorem tab42 : tiOf Tryz.prog 42 = nth tab 42 := by kernel_rfl
theorem tab43 : tiOf Tryz.prog 43 = nth tab 43 := by kernel_rfl
theorem tab44 : tiOf Tryz.prog 44 = nth tab 44 := by kernel_rfl
theorem tab45 : tiOf Tryz.prog 45 = nth tab 45 := by kernel_rfl
theorem tab46 : tiOf Tryz.prog 46 = nth tab 46 := by kernel_rfl
theorem tab47 : tiOf Tryz.prog 47 = nth tab 47 := by kernel_rfl
theorem tab48 : tiOf Tryz.prog 48 = nth tab 48 := by kernel_rfl
theorem tab49 : tiOf Tryz.prog 49 = nth tab 49 := by kernel_rfl
theorem tab50 : tiOf Tryz.prog 50 = nth tab 50 := by kernel_rfl
theorem tab51 : tiOf Tryz.prog 51 = nth tab 51 := by kernel_rfl
theorem tab52 : tiOf Tryz.prog 52 = nth tab 52 := by kernel_rfl
theorem tab53 : tiOf Tryz.prog 53 = nth tab 53 := by kernel_rfl
theorem tab54 : tiOf Tryz.prog 54 = nth tab 54 := by kernel_rfl
theorem tab55 : tiOf Tryz.prog 55 = nth tab 55 := by kernel_rfl
theorem tab56 : tiOf Tryz.prog 56 = nth tab 56 := by kernel_rfl
theorem tab57 : tiOf Tryz.prog 57 = nth tab 57 := by kernel_rfl
theorem tab58 : tiOf Tryz.prog 58 = nth tab 58 := by kernel_rfl
theorem tab59 : tiOf Tryz.prog 59 = nth tab 59 := by kernel_rfl
theorem tab60 : tiOf Tryz.prog 60 = nth tab 60 := by kernel_rfl
theorem tab61 : tiOf Tryz.prog 61 = nth tab 61 := by kernel_rfl
theorem tab62 : tiOf Tryz.prog 62 = nth tab 62 := by kernel_rfl
theorem tab63 : tiOf Tryz.prog 63 = nth tab 63 := by kernel_rfl
theorem tab64 : tiOf Tryz.prog 64 = nth tab 64 := by kernel_rfl
theorem tab65 : tiOf Tryz.prog 65 = nth tab 65 := by kernel_rfl
theorem tab66 : tiOf Tryz.prog 66 = nth tab 66 := by kernel_rfl
theorem tab67 : tiOf Tryz.prog 67 = nth tab 67 := by kernel_rfl
theorem tab68 : tiOf Tryz.prog 68 = nth tab 68 := by kernel_rfl
theorem tab69 : tiOf Tryz.prog 69 = nth tab 69 := by kernel_rfl
theorem tab70 : tiOf Tryz.prog 70 = nth tab 70 := by kernel_rfl
theorem tab71 : tiOf Tryz.prog 71 = nth tab 71 := by kernel_rfl
theorem tab72 : tiOf Tryz.prog 72 = nth tab 72 := by kernel_rfl
theorem tab73 : tiOf Tryz.prog 73 = nth tab 73 := by kernel_rfl
theorem tab74 : tiOf Tryz.prog 74 = nth tab 74 := by kernel_rfl
theorem tab75 : tiOf Tryz.prog 75 = nth tab 75 := by kernel_rfl
theorem tab76 : tiOf Tryz.prog 76 = nth tab 76 := by kernel_rfl
theorem tab77 : tiOf Tryz.prog 77 = nth tab 77 := by kernel_rfl
theorem tab78 : tiOf Tryz.prog 78 = nth tab 78 := by kernel_rfl
theorem tab79 : tiOf Tryz.prog 79 = nth tab 79 := by kernel_rfl
theorem tab80 : tiOf Tryz.prog 80 = nth tab 80 := by kernel_rfl
theorem tab81 : tiOf Tryz.prog 81 = nth tab 81 := by kernel_rfl
theorem tab82 : tiOf Tryz.prog 82 = nth tab 82 := by kernel_rfl
theorem tab83 : tiOf Tryz.prog 83 = nth tab 83 := by kernel_rfl
theorem tab84 : tiOf Tryz.prog 84 = nth tab 84 := by kernel_rfl
theorem tab85 : tiOf Tryz.prog 85 = nth tab 85 := by kernel_rfl
theorem tab86 : tiOf Tryz.prog 86 = nth tab 86 := by kernel_rfl
theorem tab87 : tiOf Tryz.prog 87 = nth tab 87 := by kernel_rfl
theorem tab88 : tiOf Tryz.prog 88 = nth tab 88 := by kernel_rfl
theorem tab89 : tiOf Tryz.prog 89 = nth tab 89 := by kernel_rfl
theorem tab90 : tiOf Tryz.prog 90 = nth tab 90 := by kernel_rfl
theorem tab91 : tiOf Tryz.prog 91 = nth tab 91 := by kernel_rfl
theorem tab92 : tiOf Tryz.prog 92 = nth tab 92 := by kernel_rfl
theorem tab93 : tiOf Tryz.prog 93 = nth tab 93 := by kernel_rfl
theorem tab94 : tiOf Tryz.prog 94 = nth tab 94 := by kernel_rfl
theorem tab95 : tiOf Tryz.prog 95 = nth tab 95 := by kernel_rfl
theorem tab96 : tiOf Tryz.prog 96 = nth tab 96 := by kernel_rfl
theorem tab97 : tiOf Tryz.prog 97 = nth tab 97 := by kernel_rfl
theorem tab98 : tiOf Tryz.prog 98 = nth tab 98 := by kernel_rfl
theorem tab99 : tiOf Tryz.prog 99 = nth tab 99 := by kernel_rfl
theorem tab100 : tiOf Tryz.prog 100 = nth tab 100 := by kernel_rfl
theorem tab101 : tiOf Tryz.prog 101 = nth tab 101 := by kernel_rfl
theorem tab102 : tiOf Tryz.prog 102 = nth tab 102 := by kernel_rfl
theorem tab103 : tiOf Tryz.prog 103 = nth tab 103 := by kernel_rfl
theorem tab104 : tiOf Tryz.prog 104 = nth tab 104 := by kernel_rfl
theorem tab105 : tiOf Tryz.prog 105 = nth tab 105 := by kernel_rfl
theorem tab106 : tiOf Tryz.prog 106 = nth tab 106 := by kernel_rfl
theorem tab107 : tiOf Tryz.prog 107 = nth tab 107 := by kernel_rfl
theorem tab108 : tiOf Tryz.prog 108 = nth tab 108 := by kernel_rfl
theorem tab109 : tiOf Tryz.prog 109 = nth tab 109 := by kernel_rfl
theorem tab110 : tiOf Tryz.prog 110 = nth tab 110 := by kernel_rfl
theorem tab111 : tiOf Tryz.prog 111 = nth tab 111 := by kernel_rfl
theorem tab112 : tiOf Tryz.prog 112 = nth tab 112 := by kernel_rfl
theorem tab113 : tiOf Tryz.prog 113 = nth tab 113 := by kernel_rfl
theorem tab114 : tiOf Tryz.prog 114 = nth tab 114 := by kernel_rfl
theorem tab115 : tiOf Tryz.prog 115 = nth tab 115 := by kernel_rfl
theorem tab116 : tiOf Tryz.prog 116 = nth tab 116 := by kernel_rfl
theorem tab117 : tiOf Tryz.prog 117 = nth tab 117 := by kernel_rfl
theorem tab118 : tiOf Tryz.prog 118 = nth tab 118 := by kernel_rfl
theorem tab119 : tiOf Tryz.prog 119 = nth tab 119 := by kernel_rfl
theorem tab120 : tiOf Tryz.prog 120 = nth tab 120 := by kernel_rfl
theorem tab121 : tiOf Tryz.prog 121 = nth tab 121 := by kernel_rfl
theorem tab122 : tiOf Tryz.prog 122 = nth tab 122 := by kernel_rfl
theorem tab123 : tiOf Tryz.prog 123 = nth tab 123 := by kernel_rfl
theorem tab124 : tiOf Tryz.prog 124 = nth tab 124 := by kernel_rfl
theorem tab125 : tiOf Tryz.prog 125 = nth tab 125 := by kernel_rfl
theorem tab126 : tiOf Tryz.prog 126 = nth tab 126 := by kernel_rfl
theorem tab127 : tiOf Tryz.prog 127 = nth tab 127 := by kernel_rfl
theorem tab128 : tiOf Tryz.prog 128 = nth tab 128 := by kernel_rfl
theorem tab129 : tiOf Tryz.prog 129 = nth tab 129 := by kernel_rfl
theorem tab130 : tiOf Tryz.prog 130 = nth tab 130 := by kernel_rfl
theorem tab131 : tiOf Tryz.prog 131 = nth tab 131 := by kernel_rfl
theorem tab132 : tiOf Tryz.prog 132 = nth tab 132 := by kernel_rfl
theorem tab133 : tiOf Tryz.prog 133 = nth tab 133 := by kernel_rfl
theorem tab134 : tiOf Tryz.prog 134 = nth tab 134 := by kernel_rfl
theorem tab135 : tiOf Tryz.prog 135 = nth tab 135 := by kernel_rfl
theorem tab136 : tiOf Tryz.prog 136 = nth tab 136 := by kernel_rfl
theorem tab137 : tiOf Tryz.prog 137 = nth tab 137 := by kernel_rfl
theorem tab138 : tiOf Tryz.prog 138 = nth tab 138 := by kernel_rfl
theorem tab139 : tiOf Tryz.prog 139 = nth tab 139 := by kernel_rfl
theorem tab140 : tiOf Tryz.prog 140 = nth tab 140 := by kernel_rfl
theorem tab141 : tiOf Tryz.prog 141 = nth tab 141 := by kernel_rfl
theorem tab142 : tiOf Tryz.prog 142 = nth tab 142 := by kernel_rfl
theorem tab143 : tiOf Tryz.prog 143 = nth tab 143 := by kernel_rfl
theorem tab144 : tiOf Tryz.prog 144 = nth tab 144 := by kernel_rfl
theorem tab145 : tiOf Tryz.prog 145 = nth tab 145 := by kernel_rfl
theorem tab146 : tiOf Tryz.prog 146 = nth tab 146 := by kernel_rfl
theorem tab147 : tiOf Tryz.prog 147 = nth tab 147 := by kernel_rfl
theorem tab148 : tiOf Tryz.prog 148 = nth tab 148 := by kernel_rfl
theorem tab149 : tiOf Tryz.prog 149 = nth tab 149 := by kernel_rfl
theorem tab150 : tiOf Tryz.prog 150 = nth tab 150 := by kernel_rfl
theorem tab151 : tiOf Tryz.prog 151 = nth tab 151 := by kernel_rfl
theorem tab152 : tiOf Tryz.prog 152 = nth tab 152 := by kernel_rfl
theorem tab153 : tiOf Tryz.prog 153 = nth tab 153 := by kernel_rfl
theorem tab154 : tiOf Tryz.prog 154 = nth tab 154 := by kernel_rfl
theorem tab155 : tiOf Tryz.prog 155 = nth tab 155 := by kernel_rfl
theorem tab156 : tiOf Tryz.prog 156 = nth tab 156 := by kernel_rfl
theorem tab157 : tiOf Tryz.prog 157 = nth tab 157 := by kernel_rfl
theorem tab158 : tiOf Tryz.prog 158 = nth tab 158 := by kernel_rfl
theorem tab159 : tiOf Tryz.prog 159 = nth tab 159 := by kernel_rfl
theorem tab160 : tiOf Tryz.prog 160 = nth tab 160 := by kernel_rfl
theorem tab161 : tiOf Tryz.prog 161 = nth tab 161 := by kernel_rfl
theorem tab162 : tiOf Tryz.prog 162 = nth tab 162 := by kernel_rfl
theorem tab163 : tiOf Tryz.prog 163 = nth tab 163 := by kernel_rfl
theorem tab164 : tiOf Tryz.prog 164 = nth tab 164 := by kernel_rfl
theorem tab165 : tiOf Tryz.prog 165 = nth tab 165 := by kernel_rfl
theorem tab166 : tiOf Tryz.prog 166 = nth tab 166 := by kernel_rfl
theorem tab167 : tiOf Tryz.prog 167 = nth tab 167 := by kernel_rfl
theorem tab168 : tiOf Tryz.prog 168 = nth tab 168 := by kernel_rfl
theorem tab169 : tiOf Tryz.prog 169 = nth tab 169 := by kernel_rfl
theorem tab170 : tiOf Tryz.prog 170 = nth tab 170 := by kernel_rfl
theorem tab171 : tiOf Tryz.prog 171 = nth tab 171 := by kernel_rfl
theorem tab172 : tiOf Tryz.prog 172 = nth tab 172 := by kernel_rfl
theorem tab173 : tiOf Tryz.prog 173 = nth tab 173 := by kernel_rfl
theorem tab174 : tiOf Tryz.prog 174 = nth tab 174 := by kernel_rfl
theorem tab175 : tiOf Tryz.prog 175 = nth tab 175 := by kernel_rfl
theorem tab176 : tiOf Tryz.prog 176 = nth tab 176 := by kernel_rfl
theorem tab177 : tiOf Tryz.prog 177 = nth tab 177 := by kernel_rfl
theorem tab178 : tiOf Tryz.prog 178 = nth tab 178 := by kernel_rfl
theorem tab179 : tiOf Tryz.prog 179 = nth tab 179 := by kernel_rfl
theorem tab180 : tiOf Tryz.prog 180 = nth tab 180 := by kernel_rfl
theorem tab181 : tiOf Tryz.prog 181 = nth tab 181 := by kernel_rfl
theorem tab182 : tiOf Tryz.prog 182 = nth tab 182 := by kernel_rfl
theorem tab183 : tiOf Tryz.prog 183 = nth tab 183 := by kernel_rfl
theorem tab184 : tiOf Tryz.prog 184 = nth tab 184 := by kernel_rfl
theorem tab185 : tiOf Tryz.prog 185 = nth tab 185 := by kernel_rfl
theorem tab186 : tiOf Tryz.prog 186 = nth tab 186 := by kernel_rfl
theorem tab187 : tiOf Tryz.prog 187 = nth tab 187 := by kernel_rfl
theorem tab188 : tiOf Tryz.prog 188 = nth tab 188 := by kernel_rfl
theorem tab189 : tiOf Tryz.prog 189 = nth tab 189 := by kernel_rfl
theorem tab190 : tiOf Tryz.prog 190 = nth tab 190 := by kernel_rfl
theorem tab191 : tiOf Tryz.prog 191 = nth tab 191 := by kernel_rfl
theorem tab192 : tiOf Tryz.prog 192 = nth tab 192 := by kernel_rfl
theorem tab_all : TabOk Tryz.prog tab := tab_ok (⟨tab0, ⟨tab1, ⟨tab2, ⟨tab3, ⟨tab4, ⟨tab5, ⟨tab6, ⟨tab7, ⟨tab8, ⟨tab9, ⟨tab10, ⟨tab11, ⟨tab12, ⟨tab13, ⟨tab14, ⟨tab15, ⟨tab16, ⟨tab17, ⟨tab18, ⟨tab19, ⟨tab20, ⟨tab21, ⟨tab22, ⟨tab23, ⟨tab24, ⟨tab25, ⟨tab26, ⟨tab27, ⟨tab28, ⟨tab29, ⟨tab30, ⟨tab31, ⟨tab32, ⟨tab33, ⟨tab34, ⟨tab35, ⟨tab36, ⟨tab37, ⟨tab38, ⟨tab39, ⟨tab40, ⟨tab41, ⟨tab42, ⟨tab43, ⟨tab44, ⟨tab45, ⟨tab46, ⟨tab47, ⟨tab48, ⟨tab49, ⟨tab50, ⟨tab51, ⟨tab52, ⟨tab53, ⟨tab54, ⟨tab55, ⟨tab56, ⟨tab57, ⟨tab58, ⟨tab59, ⟨tab60, ⟨tab61, ⟨tab62, ⟨tab63, ⟨tab64, ⟨tab65, ⟨tab66, ⟨tab67, ⟨tab68, ⟨tab69, ⟨tab70, ⟨tab71, ⟨tab72, ⟨tab73, ⟨tab74, ⟨tab75, ⟨tab76, ⟨tab77, ⟨tab78, ⟨tab79, ⟨tab80, ⟨tab81, ⟨tab82, ⟨tab83, ⟨tab84, ⟨tab85, ⟨tab86, ⟨tab87, ⟨tab88, ⟨tab89, ⟨tab90, ⟨tab91, ⟨tab92, ⟨tab93, ⟨tab94, ⟨tab95, ⟨tab96, ⟨tab97, ⟨tab98, ⟨tab99, ⟨tab100, ⟨tab101, ⟨tab102, ⟨tab103, ⟨tab104, ⟨tab105, ⟨tab106, ⟨tab107, ⟨tab108, ⟨tab109, ⟨tab110, ⟨tab111, ⟨tab112, ⟨tab113, ⟨tab114, ⟨tab115, ⟨tab116, ⟨tab117, ⟨tab118, ⟨tab119, ⟨tab120, ⟨tab121, ⟨tab122, ⟨tab123, ⟨tab124, ⟨tab125, ⟨tab126, ⟨tab127, ⟨tab128, ⟨tab129, ⟨tab130, ⟨tab131, ⟨tab132, ⟨tab133, ⟨tab134, ⟨tab135, ⟨tab136, ⟨tab137, ⟨tab138, ⟨tab139, ⟨tab140, ⟨tab141, ⟨tab142, ⟨tab143, ⟨tab144, ⟨tab145, ⟨tab146, ⟨tab147, ⟨tab148, ⟨tab149, ⟨tab150, ⟨tab151, ⟨tab152, ⟨tab153, ⟨tab154, ⟨tab155, ⟨tab156, ⟨tab157, ⟨tab158, ⟨tab159, ⟨tab160, ⟨tab161, ⟨tab162, ⟨tab163, ⟨tab164, ⟨tab165, ⟨tab166, ⟨tab167, ⟨tab168, ⟨tab169, ⟨tab170, ⟨tab171, ⟨tab172, ⟨tab173, ⟨tab174, ⟨tab175, ⟨tab176, ⟨tab177, ⟨tab178, ⟨tab179, ⟨tab180, ⟨tab181, ⟨tab182, ⟨tab183, ⟨tab184, ⟨tab185, ⟨tab186, ⟨tab187, ⟨tab188, ⟨tab189, ⟨tab190, ⟨tab191, ⟨tab192, trivial⟩⟩⟩⟩⟩⟩⟩⟩⟩⟩⟩⟩⟩⟩⟩⟩⟩⟩⟩⟩⟩⟩⟩⟩⟩⟩⟩⟩⟩⟩⟩⟩⟩⟩⟩⟩⟩⟩⟩⟩⟩⟩⟩⟩⟩⟩⟩⟩⟩⟩⟩⟩⟩⟩⟩⟩⟩⟩⟩⟩⟩⟩⟩⟩⟩⟩⟩⟩⟩⟩⟩⟩⟩⟩⟩⟩⟩⟩⟩⟩⟩⟩⟩⟩⟩⟩⟩⟩⟩⟩⟩⟩⟩⟩⟩⟩⟩⟩⟩⟩⟩⟩⟩⟩⟩⟩⟩⟩⟩⟩⟩⟩⟩⟩⟩⟩⟩⟩⟩⟩⟩⟩⟩⟩⟩⟩⟩⟩⟩⟩⟩⟩⟩⟩⟩⟩⟩⟩⟩⟩⟩⟩⟩⟩⟩⟩⟩⟩⟩⟩⟩⟩⟩⟩⟩⟩⟩⟩⟩⟩⟩⟩⟩⟩⟩⟩⟩⟩⟩⟩⟩⟩⟩⟩⟩⟩⟩⟩⟩⟩⟩⟩⟩⟩⟩⟩⟩⟩⟩⟩⟩⟩⟩)
end Go.Proofs.YtlioojekjnigiaeGreat.AM
