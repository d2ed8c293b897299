/- What is leaned on: part 6. -/
import Derived.Test.YtlioojekjnigiafGreatQ5
/- Sites: Receive. -/
namespace Go.Proofs.YtlioojekjnigiafGreat.AM
set_option linter.unusedVariables false
set_option linter.unusedSimpArgs false

def thereS (s : Site') (e : Entry') : Bool := s.log.any (isThe e.id) || s.waits.any (isThe e.id)
def recvErr (s : Site') (e : Entry') : Int :=
  if siteErr s ≠ 0 then siteErr s else if e.err ≠ 0 then e.err else if thereS s e = true then 0 else if e.id.r = s.region then 4 else roomErr (settle s.log (putW s.waits e))
def recvAns (s : Site') (e : Entry') : Site' :=
  if recvErr s e ≠ 0 then ⟨0, [], []⟩ else if thereS s e = true then s else ⟨s.region, (settle s.log (putW s.waits e)).1, (settle s.log (putW s.waits e)).2⟩
theorem site_facts {s : Site'} (h : siteErr s = 0) : (s.region = 0 ∨ s.region = 1) ∧ Right s.log ∧ s.waits.length ≤ 20 ∧ waitsFrom s 0 s.waits = 0 := by
  unfold siteErr at h
  split at h
  · cases h
  · rename_i h1
    split at h
    · rename_i h2; exact absurd h h2
    · rename_i h2
      split at h
      · cases h
      · rename_i h3
        exact ⟨by omega, right_iff.1 (by simpa using h2), by omega, h⟩
theorem waits_facts {s : Site'} : ∀ {t : List Entry'} {i : Nat}, waitsFrom s i t = 0 → ∀ x ∈ t, x.err = 0
  | [], i, _, x, hx => by cases hx
  | y :: t, i, h, x, hx => by
    unfold waitsFrom at h
    split at h
    · rename_i h1; exact absurd h h1
    · rename_i h1
      rcases List.mem_cons.1 hx with rfl | hx
      · have h1 : waitErr s i x = 0 := by simpa using h1
        unfold waitErr at h1
        split at h1
        · rename_i h2; exact absurd h1 h2
        · rename_i h2; simpa using h2
      · exact waits_facts h x hx
set_option maxHeartbeats 0 in
theorem Receive_ok (s : Site') (hs : SiteOk s) (e : Entry') (he : e.links.length ≤ 140737488355328) : PCall Tryz.prog 12 [s.arg, e.arg] (.tup [(recvAns s e).arg, dInt (recvErr s e)]) := by
  refine pcall_intro tab_all tab_mixed Tryz.func12 (by kernel_rfl) Tryz.ntmps12 rfl ?_
  conv => whnf
  refine .data _ _ (siteCheck_ok s hs) rfl ?_
  conv => whnf
  repeat (first | (refine Conf.mk (by kernel_rfl) ?_; conv => whnf) | (refine SeqOk.go ?_; conv => whnf))
  refine ⟨fun h1 => ?_, fun h1 => ?_⟩
  · have h1 : siteErr s ≠ 0 := by simpa using h1
    have hE : recvErr s e = siteErr s := by unfold recvErr; rw [if_pos h1]
    have hA : recvAns s e = ⟨0, [], []⟩ := by unfold recvAns; rw [hE, if_pos h1]
    conv => whnf
    repeat (first | (refine Conf.mk (by kernel_rfl) ?_; conv => whnf) | (refine SeqOk.go ?_; conv => whnf))
    exact Ret.to (by rw [hE, hA]; rfl)
  · have h1 : siteErr s = 0 := by simpa using h1
    obtain ⟨hreg, hr, hwl, hwf⟩ := site_facts h1
    have hll := hr.len
    conv => whnf
    repeat (first | (refine Conf.mk (by kernel_rfl) ?_; conv => whnf) | (refine SeqOk.go ?_; conv => whnf))
    refine .data _ _ (check_ok e he) rfl ?_
    conv => whnf
    repeat (first | (refine Conf.mk (by kernel_rfl) ?_; conv => whnf) | (refine SeqOk.go ?_; conv => whnf))
    refine ⟨fun h2 => ?_, fun h2 => ?_⟩
    · have h2 : e.err ≠ 0 := by simpa using h2
      have hE : recvErr s e = e.err := by unfold recvErr; rw [if_neg (by simp [h1]), if_pos h2]
      have hA : recvAns s e = ⟨0, [], []⟩ := by unfold recvAns; rw [hE, if_pos h2]
      conv => whnf
      repeat (first | (refine Conf.mk (by kernel_rfl) ?_; conv => whnf) | (refine SeqOk.go ?_; conv => whnf))
      exact Ret.to (by rw [hE, hA]; rfl)
    · have h2 : e.err = 0 := by simpa using h2
      have hE : recvErr s e = if thereS s e = true then 0 else if e.id.r = s.region then 4 else roomErr (settle s.log (putW s.waits e)) := by unfold recvErr; rw [if_neg (by simp [h1]), if_neg (by simp [h2])]
      have h6 := (six_of h2).2
      have hk1 : ∀ x ∈ s.log, x.links.length ≤ 1000 := fun x hx => by have := hr.six hx; omega
      have hk2 : ∀ x ∈ s.waits, x.links.length ≤ 1000 := fun x hx => by have := (six_of (waits_facts hwf x hx)).2; omega
      conv => whnf
      repeat (first | (refine Conf.mk (by kernel_rfl) ?_; conv => whnf) | (refine SeqOk.go ?_; conv => whnf))
      refine .eff [] _ _ _ _ 2 (copyOf_ok s hk1 (by omega) hk2 (by omega)) rfl rfl rfl rfl rfl ?_
      conv => whnf
      repeat (first | (refine Conf.mk (by kernel_rfl) ?_; conv => whnf) | (refine SeqOk.go ?_; conv => whnf))
      refine .some [5, 3, 4] _ _ _ rfl (receive_ok s.region s.log s.waits e (by omega) hk2 (by omega)) rfl rfl rfl rfl rfl ?_
      rintro x Hc' m' (⟨ht, rfl, rfl, hm'⟩ | ⟨ht, hg, rfl, rfl, hm'⟩ | ⟨ht, hg, rfl, (⟨hst, rfl, hm'⟩ | ⟨rfl, hm'⟩)⟩)
      · obtain rfl : m' = 0 := by simp at hm'; omega
        have ht : thereS s e = true := ht
        have hE2 : recvErr s e = 0 := by rw [hE, if_pos ht]
        have hA : recvAns s e = s := by unfold recvAns; rw [hE2, if_neg (by simp), if_pos ht]
        conv => whnf
        repeat (first | (refine Conf.mk (by kernel_rfl) ?_; conv => whnf) | (refine SeqOk.go ?_; conv => whnf))
        refine BoolCase.no rfl ?_
        conv => whnf
        repeat (first | (refine Conf.mk (by kernel_rfl) ?_; conv => whnf) | (refine SeqOk.go ?_; conv => whnf))
        exact Ret.to (by rw [hE2, hA]; rfl)
      · obtain rfl : m' = 0 := by simp at hm'; omega
        have hE2 : recvErr s e = 4 := by rw [hE, if_neg (by show ¬ thereS s e = true; rw [show thereS s e = false from ht]; decide), if_pos hg]
        have hA : recvAns s e = ⟨0, [], []⟩ := by unfold recvAns; rw [hE2, if_pos (by decide)]
        conv => whnf
        repeat (first | (refine Conf.mk (by kernel_rfl) ?_; conv => whnf) | (refine SeqOk.go ?_; conv => whnf))
        refine BoolCase.yes rfl ?_
        conv => whnf
        repeat (first | (refine Conf.mk (by kernel_rfl) ?_; conv => whnf) | (refine SeqOk.go ?_; conv => whnf))
        exact Ret.to (by rw [hE2, hA]; rfl)
      · obtain rfl : m' = 1 := by simp at hm'; omega
        have hE2 : recvErr s e = roomErr (settle s.log (putW s.waits e)) := by rw [hE, if_neg (by show ¬ thereS s e = true; rw [show thereS s e = false from ht]; decide), if_neg hg]
        conv => whnf
        repeat (first | (refine Conf.mk (by kernel_rfl) ?_; conv => whnf) | (refine SeqOk.go ?_; conv => whnf))
        refine ⟨fun h5 => ?_, fun h5 => ?_⟩
        · have h5 : roomErr (settle s.log (putW s.waits e)) ≠ 0 := by simpa using h5
          have hA : recvAns s e = ⟨0, [], []⟩ := by unfold recvAns; rw [hE2, if_pos h5]
          conv => whnf
          repeat (first | (refine Conf.mk (by kernel_rfl) ?_; conv => whnf) | (refine SeqOk.go ?_; conv => whnf))
          exact Ret.to (by rw [hE2, hA]; rfl)
        · have h5 : roomErr (settle s.log (putW s.waits e)) = 0 := by simpa using h5
          have hA : recvAns s e = ⟨s.region, s.log, putW s.waits e⟩ := by unfold recvAns; rw [hE2, if_neg (by simp [h5]), if_neg (by rw [show thereS s e = false from ht]; decide), hst]
          conv => whnf
          repeat (first | (refine Conf.mk (by kernel_rfl) ?_; conv => whnf) | (refine SeqOk.go ?_; conv => whnf))
          exact Ret.to (by rw [hE2, h5, hA]; rfl)
      · obtain rfl : m' = 3 := by simp at hm'; omega
        have hE2 : recvErr s e = roomErr (settle s.log (putW s.waits e)) := by rw [hE, if_neg (by show ¬ thereS s e = true; rw [show thereS s e = false from ht]; decide), if_neg hg]
        conv => whnf
        repeat (first | (refine Conf.mk (by kernel_rfl) ?_; conv => whnf) | (refine SeqOk.go ?_; conv => whnf))
        refine ⟨fun h5 => ?_, fun h5 => ?_⟩
        · have h5 : roomErr (settle s.log (putW s.waits e)) ≠ 0 := by simpa using h5
          have hA : recvAns s e = ⟨0, [], []⟩ := by unfold recvAns; rw [hE2, if_pos h5]
          conv => whnf
          repeat (first | (refine Conf.mk (by kernel_rfl) ?_; conv => whnf) | (refine SeqOk.go ?_; conv => whnf))
          exact Ret.to (by rw [hE2, hA]; rfl)
        · have h5 : roomErr (settle s.log (putW s.waits e)) = 0 := by simpa using h5
          have hA : recvAns s e = ⟨s.region, (settle s.log (putW s.waits e)).1, (settle s.log (putW s.waits e)).2⟩ := by unfold recvAns; rw [hE2, if_neg (by simp [h5]), if_neg (by rw [show thereS s e = false from ht]; decide)]
          conv => whnf
          repeat (first | (refine Conf.mk (by kernel_rfl) ?_; conv => whnf) | (refine SeqOk.go ?_; conv => whnf))
          exact Ret.to (by rw [hE2, h5, hA]; rfl)
end Go.Proofs.YtlioojekjnigiafGreat.AM
/- Plain: what settles, and what can. -/
namespace Go.Proofs.YtlioojekjnigiafGreat.AM
set_option linter.unusedVariables false
set_option linter.unusedSimpArgs false

theorem settleN_ind {P : List Entry' → List Entry' → Prop} (hs : ∀ l w i (hi : i < w.length), P l w → isIdx (readyP l) w 0 = some i → P (l ++ [w[i]]) (w.eraseIdx i)) : ∀ (n : Nat) (l w : List Entry'), w.length ≤ n → P l w → P (settleN n l w).1 (settleN n l w).2 ∧ isIdx (readyP (settleN n l w).1) (settleN n l w).2 0 = none
  | 0, l, w, hn, h => by
    have : w = [] := List.length_eq_zero_iff.1 (by omega)
    subst this
    exact ⟨h, rfl⟩
  | n + 1, l, w, hn, h => by
    unfold settleN
    cases hx : isIdx (readyP l) w 0 with
    | none => exact ⟨h, hx⟩
    | some i =>
      obtain ⟨k, hik, hk, _⟩ := isIdx_some hx
      obtain rfl : i = k := by omega
      simp only [List.getElem?_eq_getElem hk]
      exact settleN_ind hs n _ _ (by rw [List.length_eraseIdx_of_lt hk]; omega) (hs l w i hk h hx)
theorem settle_ind {P : List Entry' → List Entry' → Prop} (hs : ∀ l w i (hi : i < w.length), P l w → isIdx (readyP l) w 0 = some i → P (l ++ [w[i]]) (w.eraseIdx i)) {l w : List Entry'} (h : P l w) : P (settle l w).1 (settle l w).2 ∧ isIdx (readyP (settle l w).1) (settle l w).2 0 = none :=
  settleN_ind hs _ l w (Nat.le_refl _) h
theorem idx_ready {l w : List Entry'} {i : Nat} (hi : i < w.length) (h : isIdx (readyP l) w 0 = some i) : readyP l w[i] = true := by
  obtain ⟨k, hik, hk, hp⟩ := isIdx_some h
  obtain rfl : i = k := by omega
  exact hp
/-- A right log, and what waits beside it. -/
structure Beside (l w : List Entry') : Prop where
  log : Right l
  err : ∀ x ∈ w, x.err = 0
  new : ∀ x ∈ w, ∀ e ∈ l, e.id ≠ x.id
  once : w.Pairwise fun a b => a.id ≠ b.id
theorem mem_erase {w : List Entry'} {i : Nat} (hi : i < w.length) (ho : w.Pairwise fun a b => a.id ≠ b.id) {x : Entry'} (hx : x ∈ w.eraseIdx i) : w[i].id ≠ x.id := by
  obtain ⟨j, hj, hne, rfl⟩ := List.mem_eraseIdx_iff_getElem.1 hx
  rcases Nat.lt_or_gt_of_ne hne with h | h
  · exact fun e => List.pairwise_iff_getElem.1 ho j i hj hi h e.symm
  · exact List.pairwise_iff_getElem.1 ho i j hi hj h
theorem mem_erase_or {w : List Entry'} {i : Nat} (hi : i < w.length) {x : Entry'} : x ∈ w ↔ x = w[i] ∨ x ∈ w.eraseIdx i := by
  refine ⟨fun h => ?_, fun h => ?_⟩
  · obtain ⟨j, hj, rfl⟩ := List.getElem_of_mem h
    by_cases e : j = i
    · subst e; exact .inl rfl
    · exact .inr (List.mem_eraseIdx_iff_getElem.2 ⟨j, hj, e, rfl⟩)
  · rcases h with rfl | h
    · exact List.getElem_mem hi
    · exact List.mem_of_mem_eraseIdx h
theorem Beside.step {l w : List Entry'} (h : Beside l w) {i : Nat} (hi : i < w.length) (hx : isIdx (readyP l) w 0 = some i) : Beside (l ++ [w[i]]) (w.eraseIdx i) := by
  have hm := List.getElem_mem hi
  refine ⟨h.log.snoc (readyP_behind (h.err _ hm) (h.new _ hm) (idx_ready hi hx)), fun x hx => h.err x (List.mem_of_mem_eraseIdx hx), fun x hx e he => ?_, h.once.sublist (List.eraseIdx_sublist _ _)⟩
  rcases List.mem_append.1 he with he | he
  · exact h.new x (List.mem_of_mem_eraseIdx hx) e he
  · have : e = w[i] := by simpa using he
    rw [this]
    exact mem_erase hi h.once hx
/-- All numbers of a region are there, up to how many there are. -/
theorem Right.num_of {l : List Entry'} (hr : Right l) (r : Int) {k : Nat} (h1 : 1 ≤ k) (h2 : k ≤ cnt r l) : ∃ e ∈ l, e.id = ⟨r, k⟩ := by
  have key : ∀ m, m ≤ l.length → k ≤ cnt r (l.take m) → ∃ e ∈ l, e.id = ⟨r, k⟩ := by
    intro m
    induction m with
    | zero => intro _ h; simp [cnt] at h; omega
    | succ m ih =>
      intro hm hc
      have hs := cnt_succ r (l := l) (i := m) hm
      by_cases hx : l[m].id.r = r
      · rw [if_pos (by simp [hx])] at hs
        by_cases hk : k ≤ cnt r (l.take m)
        · exact ih (by omega) hk
        · refine ⟨l[m], List.getElem_mem hm, ?_⟩
          have := (hr.get hm).num
          rw [hx] at this
          have h3 : l[m].id = ⟨l[m].id.r, l[m].id.n⟩ := rfl
          rw [h3, hx, this]
          congr 1
          omega
      · rw [if_neg (by simp [hx])] at hs
        exact ih (by omega) (by omega)
  exact key l.length (Nat.le_refl _) (by rw [List.take_of_length_le (Nat.le_refl _)]; exact h2)
/-- What can be there in the end. -/
inductive Can (l w : List Entry') : Id → Prop
  | there {e : Entry'} : e ∈ l → Can l w e.id
  | goes {e : Entry'} : e ∈ w → (∀ y ∈ e.links, Can l w y) → (1 < e.id.n → Can l w ⟨e.id.r, e.id.n - 1⟩) → Can l w e.id
structure After (l w l' w' : List Entry') : Prop where
  inv : Beside l' w'
  ext : ∃ t, l' = l ++ t
  sub : w'.Sublist w
  both : ∀ e, (e ∈ l' ∨ e ∈ w') ↔ (e ∈ l ∨ e ∈ w)
  can : ∀ e ∈ l', Can l w e.id
theorem After.start {l w : List Entry'} (h : Beside l w) : After l w l w := ⟨h, ⟨[], by simp⟩, List.Sublist.refl _, fun _ => Iff.rfl, fun e he => .there he⟩
theorem After.step {l w l' w' : List Entry'} (h : After l w l' w') {i : Nat} (hi : i < w'.length) (hx : isIdx (readyP l') w' 0 = some i) : After l w (l' ++ [w'[i]]) (w'.eraseIdx i) := by
  have hm := List.getElem_mem hi
  refine ⟨h.inv.step hi hx, ?_, (List.eraseIdx_sublist _ _).trans h.sub, fun e => ?_, fun e he => ?_⟩
  · obtain ⟨t, ht⟩ := h.ext
    exact ⟨t ++ [w'[i]], by rw [ht, List.append_assoc]⟩
  · rw [← h.both e, List.mem_append, List.mem_singleton, mem_erase_or hi (x := e)]
    constructor
    · rintro ((h | h) | h)
      · exact .inl h
      · exact .inr (.inl h)
      · exact .inr (.inr h)
    · rintro (h | h | h)
      · exact .inl (.inl h)
      · exact .inl (.inr h)
      · exact .inr h
  · rcases List.mem_append.1 he with he | he
    · exact h.can e he
    · have : e = w'[i] := by simpa using he
      subst this
      have hrd := idx_ready hi hx
      unfold readyP at hrd
      rw [Bool.and_eq_true, decide_eq_true_eq, List.all_eq_true] at hrd
      refine .goes (h.sub.subset hm) (fun y hy => ?_) fun h1 => ?_
      · obtain ⟨x, hx, rfl⟩ := any_isThe.1 (hrd.2 y hy)
        exact h.can x hx
      · obtain ⟨x, hx, hxe⟩ := h.inv.log.num_of w'[i].id.r (k := cnt w'[i].id.r l') (by omega) (Nat.le_refl _)
        have := h.can x hx
        rw [hxe] at this
        rw [hrd.1, Int.add_sub_cancel]
        exact this
theorem settle_after {l w : List Entry'} (h : Beside l w) : After l w (settle l w).1 (settle l w).2 ∧ ∀ x ∈ (settle l w).2, readyP (settle l w).1 x = false := by
  have := settle_ind (P := After l w) (fun l' w' i hi h hx => h.step hi hx) (After.start h)
  exact ⟨this.1, isIdx_none.1 this.2⟩
theorem num_pos {e : Entry'} (h : e.err = 0) : 1 ≤ e.id.n ∧ e.id.n ≤ 20 := by
  have := ok_of_err h
  simp [Id.ok] at this
  omega
/-- All that can be there is. -/
theorem settle_full {l w : List Entry'} (h : Beside l w) {x : Id} (hx : Can l w x) : ∃ e ∈ (settle l w).1, e.id = x := by
  obtain ⟨ha, hn⟩ := settle_after h
  induction hx with
  | there he =>
    obtain ⟨t, ht⟩ := ha.ext
    exact ⟨_, by rw [ht]; exact List.mem_append_left _ he, rfl⟩
  | @goes e he _ _ ih1 ih2 =>
    rcases (ha.both e).2 (.inr he) with h1 | h1
    · exact ⟨e, h1, rfl⟩
    · have hp := num_pos (h.err e he)
      have hrd : readyP (settle l w).1 e = true := by
        unfold readyP
        rw [Bool.and_eq_true, decide_eq_true_eq, List.all_eq_true]
        refine ⟨?_, fun y hy => any_isThe.2 (ih1 y hy)⟩
        by_cases hle : e.id.n ≤ (cnt e.id.r (settle l w).1 : Int)
        · obtain ⟨x, hx, hxe⟩ := ha.inv.log.num_of e.id.r (k := e.id.n.toNat) (by omega) (by omega)
          refine absurd ?_ (ha.inv.new e h1 x hx)
          rw [hxe]
          have h3 : e.id = ⟨e.id.r, e.id.n⟩ := rfl
          have h4 : ((e.id.n.toNat : Nat) : Int) = e.id.n := by omega
          rw [h4]
        · by_cases h2 : 1 < e.id.n
          · obtain ⟨x, hx, hxe⟩ := ih2 h2
            have := ha.inv.log.num_le hx
            rw [hxe] at this
            simp at this
            omega
          · omega
      rw [hn e h1] at hrd
      cases hrd
theorem settle_can {l w : List Entry'} (h : Beside l w) {x : Id} : (∃ e ∈ (settle l w).1, e.id = x) ↔ Can l w x :=
  ⟨fun ⟨e, he, hx⟩ => hx ▸ (settle_after h).1.can e he, settle_full h⟩
end Go.Proofs.YtlioojekjnigiafGreat.AM
/- Plain: sites of which Check has nothing to say stay so; whatever the order. -/
namespace Go.Proofs.YtlioojekjnigiafGreat.AM
set_option linter.unusedVariables false
set_option linter.unusedSimpArgs false

theorem less_ne {x y : Id} (h : x.less y = true) : x ≠ y := fun e => by rw [e, less_irrefl] at h; cases h
theorem adj_pairwise {w : List Entry'} (h : ∀ i (hi : i + 1 < w.length), w[i].id.less w[i + 1].id = true) : w.Pairwise fun a b => a.id.less b.id = true :=
  List.pairwise_iff_getElem.2 fun i j hi hj hij => by
    induction j with
    | zero => omega
    | succ j ih =>
      by_cases e : i = j
      · subst e; exact h i hj
      · exact less_trans (ih (by omega) (by omega)) (h j hj)
structure SiteR (s : Site') : Prop where
  reg : s.region = 0 ∨ s.region = 1
  log : Right s.log
  len : s.waits.length ≤ 20
  err : ∀ x ∈ s.waits, x.err = 0
  far : ∀ x ∈ s.waits, x.id.r ≠ s.region
  new : ∀ x ∈ s.waits, ∀ e ∈ s.log, e.id ≠ x.id
  wait : ∀ x ∈ s.waits, readyP s.log x = false
  sort : s.waits.Pairwise fun a b => a.id.less b.id = true
theorem waitErr_iff {s : Site'} {i : Nat} {x : Entry'} : waitErr s i x = 0 ↔ x.err = 0 ∧ badAhead s i x = false ∧ x.id.r ≠ s.region ∧ s.log.any (isThe x.id) = false ∧ readyP s.log x = false := by
  unfold waitErr
  by_cases h1 : x.err = 0
  · rw [if_neg (by simp [h1])]
    cases h2 : badAhead s i x <;> cases h3 : decide (x.id.r = s.region) <;> cases h4 : s.log.any (isThe x.id) <;> cases h5 : readyP s.log x <;> simp at h3 <;> simp [h1, h3]
  · rw [if_pos h1]
    exact ⟨fun h => absurd h h1, fun h => absurd h.1 h1⟩
theorem waitsFrom_iff (s : Site') : ∀ (t : List Entry') (i : Nat), waitsFrom s i t = 0 ↔ ∀ k (hk : k < t.length), waitErr s (i + k) t[k] = 0
  | [], i => ⟨fun _ k hk => by simp at hk, fun _ => rfl⟩
  | x :: t, i => by
    unfold waitsFrom
    by_cases h : waitErr s i x = 0
    · rw [if_neg (by simp [h]), waitsFrom_iff s t (i + 1)]
      refine ⟨fun k j hj => ?_, fun k j hj => ?_⟩
      · match j with
        | 0 => exact h
        | j + 1 =>
          have := k j (by simpa using hj)
          rw [show i + 1 + j = i + (j + 1) by omega] at this
          exact this
      · have := k (j + 1) (by simpa using hj)
        rw [show i + (j + 1) = i + 1 + j by omega] at this
        exact this
    · rw [if_pos h]
      exact ⟨fun k => absurd k h, fun k => absurd (k 0 (by simp)) h⟩
theorem siteErr_iff {s : Site'} : siteErr s = 0 ↔ SiteR s := by
  constructor
  · intro h
    obtain ⟨h1, h2, h3, h4⟩ := site_facts h
    have hw := fun i (hi : i < s.waits.length) => waitErr_iff.1 ((waitsFrom_iff s s.waits 0).1 h4 i hi)
    have hm : ∀ x ∈ s.waits, ∃ i, ∃ hi : i < s.waits.length, s.waits[i] = x := fun x hx => List.getElem_of_mem hx
    refine ⟨h1, h2, h3, fun x hx => ?_, fun x hx => ?_, fun x hx e he => ?_, fun x hx => ?_, adj_pairwise fun i hi => ?_⟩
    · obtain ⟨i, hi, rfl⟩ := hm x hx
      exact (hw i hi).1
    · obtain ⟨i, hi, rfl⟩ := hm x hx
      exact (hw i hi).2.2.1
    · obtain ⟨i, hi, rfl⟩ := hm x hx
      intro k
      have := (hw i hi).2.2.2.1
      rw [any_isThe.2 ⟨e, he, k⟩] at this
      cases this
    · obtain ⟨i, hi, rfl⟩ := hm x hx
      exact (hw i hi).2.2.2.2
    · have := (hw (i + 1) hi).2.1
      unfold badAhead at this
      rw [Nat.zero_add, Nat.add_sub_cancel, List.getElem?_eq_getElem (by omega)] at this
      simpa using this
  · intro h
    have hll := h.log
    unfold siteErr
    rw [if_neg (by have := h.reg; omega), if_neg (by simp [right_iff.2 h.log]), if_neg (by have := h.len; omega), waitsFrom_iff]
    intro k hk
    have hm := List.getElem_mem hk
    refine waitErr_iff.2 ⟨h.err _ hm, ?_, h.far _ hm, ?_, h.wait _ hm⟩
    · rw [Nat.zero_add]
      unfold badAhead
      match k with
      | 0 => rfl
      | k + 1 =>
        have := List.pairwise_iff_getElem.1 h.sort k (k + 1) (by omega) hk (by omega)
        rw [Nat.add_sub_cancel, List.getElem?_eq_getElem (by omega)]
        simp [this]
    · rw [Bool.eq_false_iff]
      intro k'
      obtain ⟨e, he, hid⟩ := any_isThe.1 k'
      exact h.new _ hm e he hid
theorem SiteR.beside {s : Site'} (h : SiteR s) : Beside s.log s.waits := ⟨h.log, h.err, h.new, h.sort.imp less_ne⟩
theorem thereS_iff {s : Site'} {e : Entry'} : thereS s e = true ↔ ∃ x, (x ∈ s.log ∨ x ∈ s.waits) ∧ x.id = e.id := by
  unfold thereS
  rw [Bool.or_eq_true, any_isThe, any_isThe]
  constructor
  · rintro (⟨x, h1, h2⟩ | ⟨x, h1, h2⟩)
    · exact ⟨x, .inl h1, h2⟩
    · exact ⟨x, .inr h1, h2⟩
  · rintro ⟨x, h1 | h1, h2⟩
    · exact .inl ⟨x, h1, h2⟩
    · exact .inr ⟨x, h1, h2⟩
theorem thereS_not {s : Site'} {e : Entry'} (h : thereS s e = false) {x : Entry'} (hx : x ∈ s.log ∨ x ∈ s.waits) : x.id ≠ e.id := fun k => by
  rw [thereS_iff.2 ⟨x, hx, k⟩] at h; cases h
theorem putW_cons (t : Entry') (u : List Entry') (x : Entry') : putW (t :: u) x = if t.id.less x.id = true then t :: putW u x else x :: t :: u := by
  unfold putW
  rw [waitAt_cons]
  split
  · rfl
  · rfl
theorem mem_putW {w : List Entry'} {e x : Entry'} : x ∈ putW w e ↔ x = e ∨ x ∈ w := mem_putAt
theorem putW_sorted (x : Entry') : ∀ {ts : List Entry'}, ts.Pairwise (fun a b => a.id.less b.id = true) → (∀ t ∈ ts, t.id ≠ x.id) → (putW ts x).Pairwise (fun a b => a.id.less b.id = true)
  | [], _, _ => by simp [putW, waitAt, putAt]
  | t :: u, h, hn => by
    rw [List.pairwise_cons] at h
    rw [putW_cons]
    split
    · rename_i hl
      rw [List.pairwise_cons]
      refine ⟨fun y hy => ?_, putW_sorted x h.2 fun t ht => hn t (by simp [ht])⟩
      rcases mem_putW.1 hy with rfl | hy
      · exact hl
      · exact h.1 y hy
    · rename_i hl
      have hxt : x.id.less t.id = true := by
        cases hh : x.id.less t.id
        · exact absurd (less_total (by simpa using hl) hh) (hn t (by simp))
        · rfl
      rw [List.pairwise_cons]
      refine ⟨fun y hy => ?_, List.pairwise_cons.2 h⟩
      rcases List.mem_cons.1 hy with rfl | hy
      · exact hxt
      · exact less_trans hxt (h.1 y hy)
theorem SiteR.put {s : Site'} (h : SiteR s) {e : Entry'} (he : e.err = 0) (ht : thereS s e = false) : Beside s.log (putW s.waits e) ∧ (putW s.waits e).Pairwise fun a b => a.id.less b.id = true := by
  have hs := putW_sorted e h.sort fun t hx => thereS_not ht (.inr hx)
  refine ⟨⟨h.log, fun x hx => ?_, fun x hx y hy => ?_, hs.imp less_ne⟩, hs⟩
  · rcases mem_putW.1 hx with rfl | hx
    · exact he
    · exact h.err x hx
  · rcases mem_putW.1 hx with rfl | hx
    · exact thereS_not ht (.inl hy)
    · exact h.new x hx y hy
/-- There are no more than twenty of the other region. -/
theorem far_len {r : Int} (hr : r = 0 ∨ r = 1) {w : List Entry'} (he : ∀ x ∈ w, x.err = 0) (hf : ∀ x ∈ w, x.id.r ≠ r) (hs : w.Pairwise fun a b => a.id ≠ b.id) : w.length ≤ 20 := by
  have hnd : (w.map (·.id)).Nodup := List.pairwise_map.2 hs
  have := nodup_len (b := (List.range 20).map fun (i : Nat) => (⟨1 - r, (i : Int) + 1⟩ : Id)) hnd fun x hx => by
    obtain ⟨e, hw, rfl⟩ := List.mem_map.1 hx
    have h1 := ok_of_err (he e hw)
    have h2 := hf e hw
    have h3 := r_of_ok h1
    have h4 := num_pos (he e hw)
    refine List.mem_map.2 ⟨(e.id.n - 1).toNat, List.mem_range.2 (by omega), ?_⟩
    have h5 : e.id = ⟨e.id.r, e.id.n⟩ := rfl
    have h6 : (((e.id.n - 1).toNat : Nat) : Int) + 1 = e.id.n := by omega
    have h7 : 1 - r = e.id.r := by omega
    simp only [h6, h7]
  simpa using this
theorem settle_right {r : Int} (hr : r = 0 ∨ r = 1) {l w : List Entry'} (h : Beside l w) (hf : ∀ x ∈ w, x.id.r ≠ r) (hs : w.Pairwise fun a b => a.id.less b.id = true) : SiteR ⟨r, (settle l w).1, (settle l w).2⟩ := by
  obtain ⟨ha, hn⟩ := settle_after h
  have hf' : ∀ x ∈ (settle l w).2, x.id.r ≠ r := fun x hx => hf x (ha.sub.subset hx)
  exact ⟨hr, ha.inv.log, far_len hr ha.inv.err hf' ha.inv.once, ha.inv.err, hf', ha.inv.new, hn, hs.sublist ha.sub⟩
theorem room_zero {s : Site'} (h : SiteR s) : roomErr (s.log, s.waits) = 0 := by
  unfold roomErr
  rw [if_neg]
  have := h.len
  have := h.log.len
  simp only [not_or]
  omega
/-- What comes in, where nothing is wrong. -/
theorem recv_there {s : Site'} {e : Entry'} (h : SiteR s) (he : e.err = 0) (ht : thereS s e = true) : recvErr s e = 0 ∧ recvAns s e = s := by
  have hE : recvErr s e = 0 := by unfold recvErr; rw [if_neg (by simp [siteErr_iff.2 h]), if_neg (by simp [he]), if_pos ht]
  exact ⟨hE, by unfold recvAns; rw [hE, if_neg (by decide), if_pos ht]⟩
theorem recv_comes {s : Site'} {e : Entry'} (h : SiteR s) (he : e.err = 0) (ht : thereS s e = false) (hf : e.id.r ≠ s.region) : recvErr s e = 0 ∧ recvAns s e = ⟨s.region, (settle s.log (putW s.waits e)).1, (settle s.log (putW s.waits e)).2⟩ ∧ SiteR (recvAns s e) := by
  obtain ⟨h1, h2⟩ := h.put he ht
  have hR := settle_right h.reg h1 (fun x hx => by
    rcases mem_putW.1 hx with rfl | hx
    · exact hf
    · exact h.far x hx) h2
  have hz : roomErr (settle s.log (putW s.waits e)) = 0 := room_zero hR
  have hE : recvErr s e = 0 := by unfold recvErr; rw [if_neg (by simp [siteErr_iff.2 h]), if_neg (by simp [he]), if_neg (by simp [ht]), if_neg hf, hz]
  have hA : recvAns s e = ⟨s.region, (settle s.log (putW s.waits e)).1, (settle s.log (putW s.waits e)).2⟩ := by unfold recvAns; rw [hE, if_neg (by decide), if_neg (by simp [ht])]
  exact ⟨hE, hA, by rw [hA]; exact hR⟩
theorem recvErr_zero {s : Site'} {e : Entry'} (h : recvErr s e = 0) : SiteR s ∧ e.err = 0 ∧ (thereS s e = true ∨ thereS s e = false ∧ e.id.r ≠ s.region) := by
  unfold recvErr at h
  split at h
  · rename_i h1; exact absurd h h1
  · rename_i h1
    split at h
    · rename_i h2; exact absurd h h2
    · rename_i h2
      refine ⟨siteErr_iff.1 (by simpa using h1), by simpa using h2, ?_⟩
      split at h
      · rename_i h3; exact .inl h3
      · rename_i h3
        split at h
        · cases h
        · rename_i h4; exact .inr ⟨by simpa using h3, h4⟩
theorem recv_right {s : Site'} {e : Entry'} (h : recvErr s e = 0) : SiteR (recvAns s e) := by
  obtain ⟨h1, h2, h3 | ⟨h3, h4⟩⟩ := recvErr_zero h
  · rw [(recv_there h1 h2 h3).2]; exact h1
  · exact (recv_comes h1 h2 h3 h4).2.2
theorem recv_ext {s : Site'} {e : Entry'} (h : recvErr s e = 0) : (∃ t, (recvAns s e).log = s.log ++ t) ∧ (recvAns s e).region = s.region := by
  obtain ⟨h1, h2, h3 | ⟨h3, h4⟩⟩ := recvErr_zero h
  · rw [(recv_there h1 h2 h3).2]; exact ⟨⟨[], by simp⟩, rfl⟩
  · rw [(recv_comes h1 h2 h3 h4).2.1]; exact ⟨(settle_after (h1.put h2 h3).1).1.ext, rfl⟩
theorem recv_in {s : Site'} {a : Entry'} (h : recvErr s a = 0) (e : Entry') : thereS (recvAns s a) e = true ↔ thereS s e = true ∨ a.id = e.id := by
  obtain ⟨h1, h2, h3 | ⟨h3, h4⟩⟩ := recvErr_zero h
  · rw [(recv_there h1 h2 h3).2]
    refine ⟨fun k => .inl k, fun k => k.elim id fun k => ?_⟩
    obtain ⟨x, hx, hxe⟩ := thereS_iff.1 h3
    exact thereS_iff.2 ⟨x, hx, hxe.trans k⟩
  · rw [(recv_comes h1 h2 h3 h4).2.1, thereS_iff, thereS_iff]
    have hb := (settle_after (h1.put h2 h3).1).1.both
    constructor
    · rintro ⟨x, hx, hxe⟩
      rcases (hb x).1 hx with hx | hx
      · exact .inl ⟨x, .inl hx, hxe⟩
      · rcases mem_putW.1 hx with rfl | hx
        · exact .inr hxe
        · exact .inl ⟨x, .inr hx, hxe⟩
    · rintro (⟨x, hx, hxe⟩ | hxe)
      · exact ⟨x, (hb x).2 (hx.imp id fun hx => mem_putW.2 (.inr hx)), hxe⟩
      · exact ⟨a, (hb a).2 (.inr (mem_putW.2 (.inl rfl))), hxe⟩
theorem Can.mono {l l' w w' : List Entry'} (hl : ∀ e ∈ l, e ∈ l') (hw : ∀ e ∈ w, e ∈ w') {x : Id} (h : Can l w x) : Can l' w' x := by
  induction h with
  | there he => exact .there (hl _ he)
  | goes he _ _ ih1 ih2 => exact .goes (hw _ he) ih1 ih2
theorem Can.two {l w W : List Entry'} {b : Entry'} (h : Beside l w) (hW : ∀ e, e ∈ W ↔ e = b ∨ e ∈ (settle l w).2) {x : Id} : Can (settle l w).1 W x ↔ Can l (b :: w) x := by
  obtain ⟨ha, _⟩ := settle_after h
  constructor
  · intro k
    induction k with
    | there he => exact (ha.can _ he).mono (fun _ h => h) fun e he => List.mem_cons_of_mem _ he
    | goes he _ _ ih1 ih2 =>
      refine .goes ?_ ih1 ih2
      rcases (hW _).1 he with rfl | he
      · exact List.mem_cons_self
      · exact List.mem_cons_of_mem _ (ha.sub.subset he)
  · intro k
    induction k with
    | there he =>
      obtain ⟨t, ht⟩ := ha.ext
      exact .there (by rw [ht]; exact List.mem_append_left _ he)
    | goes he _ _ ih1 ih2 =>
      rcases List.mem_cons.1 he with rfl | he
      · exact .goes ((hW _).2 (.inl rfl)) ih1 ih2
      · rcases (ha.both _).2 (.inr he) with he | he
        · exact .there he
        · exact .goes ((hW _).2 (.inr he)) ih1 ih2
theorem sortedE_ext : ∀ {a b : List Entry'}, a.Pairwise (fun x y => x.id.less y.id = true) → b.Pairwise (fun x y => x.id.less y.id = true) → (∀ x, x ∈ a ↔ x ∈ b) → a = b
  | [], [], _, _, _ => rfl
  | [], y :: b, _, _, h => by have := (h y).2 (by simp); simp at this
  | x :: a, [], _, _, h => by have := (h x).1 (by simp); simp at this
  | x :: a, y :: b, ha, hb, h => by
    rw [List.pairwise_cons] at ha hb
    have hxy : x = y := by
      rcases List.mem_cons.1 ((h x).1 (by simp)) with e | e
      · exact e
      · rcases List.mem_cons.1 ((h y).2 (by simp)) with e' | e'
        · exact e'.symm
        · have h1 := hb.1 x e
          have h2 := ha.1 y e'
          rw [less_asymm h1] at h2
          cases h2
    subst hxy
    congr 1
    refine sortedE_ext ha.2 hb.2 fun z => ⟨fun hz => ?_, fun hz => ?_⟩
    · rcases List.mem_cons.1 ((h z).1 (by simp [hz])) with e | e
      · subst e
        have := ha.1 z hz
        rw [less_irrefl] at this
        cases this
      · exact e
    · rcases List.mem_cons.1 ((h z).2 (by simp [hz])) with e | e
      · subst e
        have := hb.1 z hz
        rw [less_irrefl] at this
        cases this
      · exact e
theorem cnt_sub {p q : List Entry'} (hp : Right p) (hq : Right q) (h : ∀ e ∈ p, e ∈ q) (r : Int) : cnt r p ≤ cnt r q := by
  rcases Nat.eq_zero_or_pos (cnt r p) with h0 | h0
  · omega
  · obtain ⟨e, he, hid⟩ := hp.num_of r (k := cnt r p) h0 (Nat.le_refl _)
    have := hq.num_le (h e he)
    rw [hid] at this
    simp at this
    omega
/-- Two that come, one way or the other. -/
theorem recv_any {s : Site'} {a b : Entry'} (ha : recvErr s a = 0) (hb : recvErr s b = 0) (hab : a.id ≠ b.id) :
    recvErr (recvAns s a) b = 0 ∧ recvErr (recvAns s b) a = 0 ∧ (∀ r, cnt r (recvAns (recvAns s a) b).log = cnt r (recvAns (recvAns s b) a).log) ∧ (recvAns (recvAns s a) b).waits = (recvAns (recvAns s b) a).waits := by
  obtain ⟨h1, a1, ta⟩ := recvErr_zero ha
  obtain ⟨_, b1, tb⟩ := recvErr_zero hb
  have hx := recv_right ha
  have hy := recv_right hb
  rcases ta with ta | ⟨ta, fa⟩
  · have ea := (recv_there h1 a1 ta).2
    rw [ea]
    have := recv_there hy a1 ((recv_in hb a).2 (.inl ta))
    rw [this.2]
    exact ⟨hb, this.1, fun _ => rfl, rfl⟩
  · rcases tb with tb | ⟨tb, fb⟩
    · have eb := (recv_there h1 b1 tb).2
      rw [eb]
      have := recv_there hx b1 ((recv_in ha b).2 (.inl tb))
      rw [this.2]
      exact ⟨this.1, ha, fun _ => rfl, rfl⟩
    · have tb2 : thereS (recvAns s a) b = false := by
        rw [Bool.eq_false_iff]
        intro k
        rcases (recv_in ha b).1 k with k | k
        · rw [tb] at k; cases k
        · exact hab k
      have ta2 : thereS (recvAns s b) a = false := by
        rw [Bool.eq_false_iff]
        intro k
        rcases (recv_in hb a).1 k with k | k
        · rw [ta] at k; cases k
        · exact hab k.symm
      have fb2 : b.id.r ≠ (recvAns s a).region := by rw [(recv_ext ha).2]; exact fb
      have fa2 : a.id.r ≠ (recvAns s b).region := by rw [(recv_ext hb).2]; exact fa
      obtain ⟨p1, p2, p3⟩ := recv_comes hx b1 tb2 fb2
      obtain ⟨q1, q2, q3⟩ := recv_comes hy a1 ta2 fa2
      obtain ⟨_, x2, _⟩ := recv_comes h1 a1 ta fa
      obtain ⟨_, y2, _⟩ := recv_comes h1 b1 tb fb
      have Bp := (hx.put b1 tb2).1
      have Bq := (hy.put a1 ta2).1
      have Ba := (h1.put a1 ta).1
      have Bb := (h1.put b1 tb).1
      have memp : ∀ e, (e ∈ (recvAns (recvAns s a) b).log ∨ e ∈ (recvAns (recvAns s a) b).waits) ↔ (e ∈ s.log ∨ e ∈ s.waits ∨ e = a ∨ e = b) := fun e => by
        have k1 := (settle_after Bp).1.both e
        have k2 := (settle_after Ba).1.both e
        rw [p2]
        refine k1.trans ?_
        rw [mem_putW]
        rw [x2]
        constructor
        · rintro (h | h | h)
          · rcases k2.1 (.inl h) with h | h
            · exact .inl h
            · rcases mem_putW.1 h with h | h
              · exact .inr (.inr (.inl h))
              · exact .inr (.inl h)
          · exact .inr (.inr (.inr h))
          · rcases k2.1 (.inr h) with h | h
            · exact .inl h
            · rcases mem_putW.1 h with h | h
              · exact .inr (.inr (.inl h))
              · exact .inr (.inl h)
        · rintro (h | h | h | h)
          · exact (k2.2 (.inl h)).imp id .inr
          · exact (k2.2 (.inr (mem_putW.2 (.inr h)))).imp id .inr
          · exact (k2.2 (.inr (mem_putW.2 (.inl h)))).imp id .inr
          · exact .inr (.inl h)
      have memq : ∀ e, (e ∈ (recvAns (recvAns s b) a).log ∨ e ∈ (recvAns (recvAns s b) a).waits) ↔ (e ∈ s.log ∨ e ∈ s.waits ∨ e = a ∨ e = b) := fun e => by
        have k1 := (settle_after Bq).1.both e
        have k2 := (settle_after Bb).1.both e
        rw [q2]
        refine k1.trans ?_
        rw [mem_putW]
        rw [y2]
        constructor
        · rintro (h | h | h)
          · rcases k2.1 (.inl h) with h | h
            · exact .inl h
            · rcases mem_putW.1 h with h | h
              · exact .inr (.inr (.inr h))
              · exact .inr (.inl h)
          · exact .inr (.inr (.inl h))
          · rcases k2.1 (.inr h) with h | h
            · exact .inl h
            · rcases mem_putW.1 h with h | h
              · exact .inr (.inr (.inr h))
              · exact .inr (.inl h)
        · rintro (h | h | h | h)
          · exact (k2.2 (.inl h)).imp id .inr
          · exact (k2.2 (.inr (mem_putW.2 (.inr h)))).imp id .inr
          · exact .inr (.inl h)
          · exact (k2.2 (.inr (mem_putW.2 (.inl h)))).imp id .inr
      have canp : ∀ i, (∃ e ∈ (recvAns (recvAns s a) b).log, e.id = i) ↔ Can s.log (b :: a :: s.waits) i := fun i => by
        have k : (∃ e ∈ (recvAns (recvAns s a) b).log, e.id = i) ↔ Can (recvAns s a).log (putW (recvAns s a).waits b) i := by
          rw [p2]
          exact settle_can Bp
        rw [k, x2]
        refine (Can.two (b := b) Ba fun e => mem_putW).trans ⟨fun k => k.mono (fun _ h => h) fun e he => ?_, fun k => k.mono (fun _ h => h) fun e he => ?_⟩
        · simp only [List.mem_cons, mem_putW] at he ⊢; exact he
        · simp only [List.mem_cons, mem_putW] at he ⊢; exact he
      have canq : ∀ i, (∃ e ∈ (recvAns (recvAns s b) a).log, e.id = i) ↔ Can s.log (b :: a :: s.waits) i := fun i => by
        have k : (∃ e ∈ (recvAns (recvAns s b) a).log, e.id = i) ↔ Can (recvAns s b).log (putW (recvAns s b).waits a) i := by
          rw [q2]
          exact settle_can Bq
        rw [k, y2]
        refine (Can.two (b := a) Bb fun e => mem_putW).trans ⟨fun k => k.mono (fun _ h => h) fun e he => ?_, fun k => k.mono (fun _ h => h) fun e he => ?_⟩
        · simp only [List.mem_cons, mem_putW] at he ⊢
          rcases he with h | h | h
          · exact .inr (.inl h)
          · exact .inl h
          · exact .inr (.inr h)
        · simp only [List.mem_cons, mem_putW] at he ⊢
          rcases he with h | h | h
          · exact .inr (.inl h)
          · exact .inl h
          · exact .inr (.inr h)
      have pq : ∀ e ∈ (recvAns (recvAns s a) b).log, e ∈ (recvAns (recvAns s b) a).log := fun e he => by
        rcases (memq e).2 ((memp e).1 (.inl he)) with h | h
        · exact h
        · obtain ⟨f, hf, hfe⟩ := (canq e.id).2 ((canp e.id).1 ⟨e, he, rfl⟩)
          exact absurd hfe (q3.new e h f hf)
      have qp : ∀ e ∈ (recvAns (recvAns s b) a).log, e ∈ (recvAns (recvAns s a) b).log := fun e he => by
        rcases (memp e).2 ((memq e).1 (.inl he)) with h | h
        · exact h
        · obtain ⟨f, hf, hfe⟩ := (canp e.id).2 ((canq e.id).1 ⟨e, he, rfl⟩)
          exact absurd hfe (p3.new e h f hf)
      refine ⟨p1, q1, fun r => Nat.le_antisymm (cnt_sub p3.log q3.log pq r) (cnt_sub q3.log p3.log qp r), sortedE_ext p3.sort q3.sort fun e => ⟨fun he => ?_, fun he => ?_⟩⟩
      · rcases (memq e).2 ((memp e).1 (.inr he)) with h | h
        · exact absurd rfl (p3.new e he e (qp e h))
        · exact h
      · rcases (memp e).2 ((memq e).1 (.inr he)) with h | h
        · exact absurd rfl (q3.new e he e (pq e h))
        · exact h
/-- .. and the first one once more. -/
theorem recv_again {s : Site'} {a b : Entry'} (ha : recvErr s a = 0) (hb : recvErr (recvAns s a) b = 0) : recvErr (recvAns (recvAns s a) b) a = 0 ∧ recvAns (recvAns (recvAns s a) b) a = recvAns (recvAns s a) b :=
  recv_there (recv_right hb) (recvErr_zero ha).2.1 ((recv_in hb a).2 (.inl ((recv_in ha a).2 (.inr rfl))))
end Go.Proofs.YtlioojekjnigiafGreat.AM
/- Sites: a site's own entry; Append. -/
namespace Go.Proofs.YtlioojekjnigiafGreat.AM
set_option linter.unusedVariables false
set_option linter.unusedSimpArgs false
set_option maxHeartbeats 0 in
theorem write_ok (r : Int) (log ws : List Entry') (hr : Right log) (hwl : ws.length ≤ 500) (hk : ∀ e ∈ ws, e.links.length ≤ 1000) (c : Int) (t : ByteArray) : ACall Tryz.prog 138 [.ptr 0 0, dInt c, .dat (.str t)] [(0, .vars 121 3 [dInt r, .row 1, .row 2] true), (1, .rows 28 5 (log.map Entry'.enc) true), (2, .rows 28 5 (ws.map Entry'.enc) true)] 3 fun x H' n' =>
    (nextErr r log c t ≠ 0 ∧ x = .tup [zeroE.arg, dInt (nextErr r log c t)] ∧ H' = [(0, .vars 121 3 [dInt r, .row 1, .row 2] true), (1, .rows 28 5 (log.map Entry'.enc) true), (2, .rows 28 5 (ws.map Entry'.enc) true)] ∧ n' = 3)
    ∨ (nextErr r log c t = 0 ∧ x = .tup [(newE r log c t).arg, dInt (roomErr (settle (log ++ [newE r log c t]) ws))] ∧
        ((settle (log ++ [newE r log c t]) ws = (log ++ [newE r log c t], ws) ∧ H' = [(0, .vars 121 3 [dInt r, .row 3, .row 2] true), (1, .dead), (2, .rows 28 5 (ws.map Entry'.enc) true), (3, .rows 28 5 ((log ++ [newE r log c t]).map Entry'.enc) true)] ∧ n' = 4) ∨ (H' = [(0, .vars 121 3 [dInt r, .row 4, .row 5] true), (1, .dead), (2, .dead), (3, .dead), (4, .rows 28 5 ((settle (log ++ [newE r log c t]) ws).1.map Entry'.enc) true), (5, .rows 28 5 ((settle (log ++ [newE r log c t]) ws).2.map Entry'.enc) true)] ∧ n' = 6))) := by
  have hll := hr.len
  have hn := next_ok r log ws hr c t
  refine acall_intro tab_all tab_mixed Tryz.func138 (by kernel_rfl) Tryz.ntmps138 rfl ?_
  conv => whnf
  refine .eff [0, 1, 2] _ _ _ _ 0 hn rfl rfl rfl rfl rfl ?_
  conv => whnf
  repeat (first | (refine Conf.mk (by kernel_rfl) ?_; conv => whnf) | (refine SeqOk.go ?_; conv => whnf))
  refine ⟨fun h1 => ?_, fun h1 => ?_⟩
  · have h1 : nextErr r log c t ≠ 0 := by simpa using h1
    have hA : nextE r log c t = zeroE := by unfold nextE; rw [if_neg h1]
    conv => whnf
    repeat (first | (refine Conf.mk (by kernel_rfl) ?_; conv => whnf) | (refine SeqOk.go ?_; conv => whnf))
    exact .mk [] [0, 1, 2] (.tup [zeroE.arg, dInt (nextErr r log c t)]) [(0, .vars 121 3 [dInt r, .row 1, .row 2] true), (1, .rows 28 5 (log.map Entry'.enc) true), (2, .rows 28 5 (ws.map Entry'.enc) true)] rfl (.tups ⟨.aggs ⟨.same rfl, .same rfl, .same rfl, .same rfl, .data rfl, trivial⟩, .same rfl, trivial⟩) ⟨⟨rfl, rfl, rfl, .same rfl, rfl, .same rfl, rfl, .same rfl, rfl, trivial⟩, ⟨rfl, rfl, rfl, rfl⟩, ⟨rfl, rfl, rfl, rfl⟩, trivial⟩ rfl rfl (.inl ⟨h1, rfl, rfl, rfl⟩)
  · have h1 : nextErr r log c t = 0 := by simpa using h1
    have hA : nextE r log c t = newE r log c t := by unfold nextE; rw [if_pos h1]
    have hlk : (newE r log c t).links.length ≤ 1000 := by
      unfold nextErr at h1
      split at h1
      · cases h1
      · split at h1
        · cases h1
        · rename_i h2; simp only [not_or] at h2; show (headsOf c log).length ≤ 1000; omega
    rw [hA]
    conv => whnf
    repeat (first | (refine Conf.mk (by kernel_rfl) ?_; conv => whnf) | (refine SeqOk.go ?_; conv => whnf))
    refine ⟨by simp [Entry'.enc], by simp; omega, ?_⟩
    conv => whnf
    repeat (first | (refine Conf.mk (by kernel_rfl) ?_; conv => whnf) | (refine SeqOk.go ?_; conv => whnf))
    have hrow : (log ++ [newE r log c t]).map Entry'.enc = log.map Entry'.enc ++ [(newE r log c t).enc] := by rw [List.map_append]; rfl
    have hse := settle_ok r (log ++ [newE r log c t]) ws (by rw [List.length_append]; simp; omega) hk
    rw [hrow] at hse
    refine .some [0, 6, 2] _ _ _ rfl hse rfl rfl rfl rfl rfl ?_
    rintro x Hc' m' (⟨rfl, hst, rfl, hm'⟩ | ⟨rfl, rfl, hm'⟩)
    · obtain rfl : m' = 0 := by simp at hm'; omega
      have hro := checkRoom_ok r (log ++ [newE r log c t]) ws
      rw [hrow] at hro
      conv => whnf
      repeat (first | (refine Conf.mk (by kernel_rfl) ?_; conv => whnf) | (refine SeqOk.go ?_; conv => whnf))
      refine .data _ _ (copyEntry_ok (newE r log c t) hlk) rfl ?_
      conv => whnf
      repeat (first | (refine Conf.mk (by kernel_rfl) ?_; conv => whnf) | (refine SeqOk.go ?_; conv => whnf))
      refine .look _ _ hro rfl rfl ?_
      conv => whnf
      repeat (first | (refine Conf.mk (by kernel_rfl) ?_; conv => whnf) | (refine SeqOk.go ?_; conv => whnf))
      exact .mk [] [0, 1, 2, 6] (.tup [(newE r log c t).arg, dInt (roomErr (log ++ [newE r log c t], ws))]) [(0, .vars 121 3 [dInt r, .row 3, .row 2] true), (1, .dead), (2, .rows 28 5 (ws.map Entry'.enc) true), (3, .rows 28 5 ((log ++ [newE r log c t]).map Entry'.enc) true)] rfl (.same rfl) ⟨⟨rfl, rfl, rfl, .same rfl, rfl, .same rfl, rfl, .same rfl, rfl, trivial⟩, trivial, ⟨rfl, rfl, rfl, rfl⟩, ⟨rfl, rfl, rfl, hrow⟩, trivial⟩ rfl rfl (.inr ⟨h1, by rw [hst], .inl ⟨hst, rfl, rfl⟩⟩)
    · obtain rfl : m' = 2 := by simp at hm'; omega
      have hro := checkRoom_ok r (settle (log ++ [newE r log c t]) ws).1 (settle (log ++ [newE r log c t]) ws).2
      conv => whnf
      repeat (first | (refine Conf.mk (by kernel_rfl) ?_; conv => whnf) | (refine SeqOk.go ?_; conv => whnf))
      refine .data _ _ (copyEntry_ok (newE r log c t) hlk) rfl ?_
      conv => whnf
      repeat (first | (refine Conf.mk (by kernel_rfl) ?_; conv => whnf) | (refine SeqOk.go ?_; conv => whnf))
      refine .look _ _ hro rfl rfl ?_
      conv => whnf
      repeat (first | (refine Conf.mk (by kernel_rfl) ?_; conv => whnf) | (refine SeqOk.go ?_; conv => whnf))
      exact .mk [] [0, 1, 2, 6, 7, 8] (.tup [(newE r log c t).arg, dInt (roomErr (settle (log ++ [newE r log c t]) ws))]) [(0, .vars 121 3 [dInt r, .row 4, .row 5] true), (1, .dead), (2, .dead), (3, .dead), (4, .rows 28 5 ((settle (log ++ [newE r log c t]) ws).1.map Entry'.enc) true), (5, .rows 28 5 ((settle (log ++ [newE r log c t]) ws).2.map Entry'.enc) true)] rfl (.same rfl) ⟨⟨rfl, rfl, rfl, .same rfl, rfl, .same rfl, rfl, .same rfl, rfl, trivial⟩, trivial, trivial, trivial, ⟨rfl, rfl, rfl, rfl⟩, ⟨rfl, rfl, rfl, rfl⟩, trivial⟩ rfl rfl (.inr ⟨h1, rfl, .inr ⟨rfl, rfl⟩⟩)
/-- The site of a region with one more of its own. -/
def madeS (s : Site') (c : Int) (t : ByteArray) : List Entry' × List Entry' := settle (s.log ++ [newE s.region s.log c t]) s.waits
def appErr (s : Site') (c : Int) (t : ByteArray) : Int :=
  if siteErr s ≠ 0 then siteErr s else if nextErr s.region s.log c t ≠ 0 then nextErr s.region s.log c t else roomErr (madeS s c t)
def appAns (s : Site') (c : Int) (t : ByteArray) : Site' := if appErr s c t ≠ 0 then ⟨0, [], []⟩ else ⟨s.region, (madeS s c t).1, (madeS s c t).2⟩
def appE (s : Site') (c : Int) (t : ByteArray) : Entry' := if appErr s c t ≠ 0 then zeroE else newE s.region s.log c t
set_option maxHeartbeats 0 in
theorem Append_ok (s : Site') (hs : SiteOk s) (c : Int) (t : ByteArray) : PCall Tryz.prog 55 [s.arg, dInt c, .dat (.str t)] (.tup [(appAns s c t).arg, (appE s c t).arg, dInt (appErr s c t)]) := by
  refine pcall_intro tab_all tab_mixed Tryz.func55 (by kernel_rfl) Tryz.ntmps55 rfl ?_
  conv => whnf
  refine .data _ _ (siteCheck_ok s hs) rfl ?_
  conv => whnf
  repeat (first | (refine Conf.mk (by kernel_rfl) ?_; conv => whnf) | (refine SeqOk.go ?_; conv => whnf))
  refine ⟨fun h1 => ?_, fun h1 => ?_⟩
  · have h1 : siteErr s ≠ 0 := by simpa using h1
    have hE : appErr s c t = siteErr s := by unfold appErr; rw [if_pos h1]
    have hA : appAns s c t = ⟨0, [], []⟩ := by unfold appAns; rw [hE, if_pos h1]
    have hN : appE s c t = zeroE := by unfold appE; rw [hE, if_pos h1]
    conv => whnf
    repeat (first | (refine Conf.mk (by kernel_rfl) ?_; conv => whnf) | (refine SeqOk.go ?_; conv => whnf))
    exact Ret.to (by rw [hE, hA, hN]; rfl)
  · have h1 : siteErr s = 0 := by simpa using h1
    have hR := siteErr_iff.1 h1
    have hll := hR.log.len
    have hwl := hR.len
    have hk1 : ∀ x ∈ s.log, x.links.length ≤ 1000 := fun x hx => by have := hR.log.six hx; omega
    have hk2 : ∀ x ∈ s.waits, x.links.length ≤ 1000 := fun x hx => by have := (six_of (hR.err x hx)).2; omega
    conv => whnf
    repeat (first | (refine Conf.mk (by kernel_rfl) ?_; conv => whnf) | (refine SeqOk.go ?_; conv => whnf))
    refine .eff [] _ _ _ _ 2 (copyOf_ok s hk1 (by omega) hk2 (by omega)) rfl rfl rfl rfl rfl ?_
    conv => whnf
    repeat (first | (refine Conf.mk (by kernel_rfl) ?_; conv => whnf) | (refine SeqOk.go ?_; conv => whnf))
    refine .some [5, 3, 4] _ _ _ rfl (write_ok s.region s.log s.waits hR.log (by omega) hk2 c t) rfl rfl rfl rfl rfl ?_
    rintro x Hc' m' (⟨hn, rfl, rfl, hm'⟩ | ⟨hn, rfl, (⟨hst, rfl, hm'⟩ | ⟨rfl, hm'⟩)⟩)
    · obtain rfl : m' = 0 := by simp at hm'; omega
      have hE : appErr s c t = nextErr s.region s.log c t := by unfold appErr; rw [if_neg (by simp [h1]), if_pos hn]
      have hA : appAns s c t = ⟨0, [], []⟩ := by unfold appAns; rw [hE, if_pos hn]
      have hN : appE s c t = zeroE := by unfold appE; rw [hE, if_pos hn]
      conv => whnf
      repeat (first | (refine Conf.mk (by kernel_rfl) ?_; conv => whnf) | (refine SeqOk.go ?_; conv => whnf))
      refine BoolCase.yes (by simpa using hn) ?_
      conv => whnf
      repeat (first | (refine Conf.mk (by kernel_rfl) ?_; conv => whnf) | (refine SeqOk.go ?_; conv => whnf))
      exact Ret.to (by rw [hE, hA, hN]; rfl)
    · obtain rfl : m' = 1 := by simp at hm'; omega
      have hE : appErr s c t = roomErr (madeS s c t) := by unfold appErr; rw [if_neg (by simp [h1]), if_neg (by simp [hn])]
      conv => whnf
      repeat (first | (refine Conf.mk (by kernel_rfl) ?_; conv => whnf) | (refine SeqOk.go ?_; conv => whnf))
      refine ⟨fun h5 => ?_, fun h5 => ?_⟩
      · have h5 : (roomErr (madeS s c t) != 0) = true := h5
        have h5 : roomErr (madeS s c t) ≠ 0 := by simpa using h5
        have hA : appAns s c t = ⟨0, [], []⟩ := by unfold appAns; rw [hE, if_pos h5]
        have hN : appE s c t = zeroE := by unfold appE; rw [hE, if_pos h5]
        conv => whnf
        repeat (first | (refine Conf.mk (by kernel_rfl) ?_; conv => whnf) | (refine SeqOk.go ?_; conv => whnf))
        exact Ret.to (by rw [hE, hA, hN]; rfl)
      · have h5 : (roomErr (madeS s c t) != 0) = false := h5
        have h5 : roomErr (madeS s c t) = 0 := by simpa using h5
        have hN : appE s c t = newE s.region s.log c t := by unfold appE; rw [hE, if_neg (by simp [h5])]
        have hA : appAns s c t = ⟨s.region, (madeS s c t).1, (madeS s c t).2⟩ := by unfold appAns; rw [hE, if_neg (by simp [h5])]
        conv => whnf
        repeat (first | (refine Conf.mk (by kernel_rfl) ?_; conv => whnf) | (refine SeqOk.go ?_; conv => whnf))
        exact Ret.to (by rw [hE, hA, hN, h5]; first | rfl | (unfold madeS at *; rw [hst]; rfl))
    · obtain rfl : m' = 3 := by simp at hm'; omega
      have hE : appErr s c t = roomErr (madeS s c t) := by unfold appErr; rw [if_neg (by simp [h1]), if_neg (by simp [hn])]
      conv => whnf
      repeat (first | (refine Conf.mk (by kernel_rfl) ?_; conv => whnf) | (refine SeqOk.go ?_; conv => whnf))
      refine ⟨fun h5 => ?_, fun h5 => ?_⟩
      · have h5 : (roomErr (madeS s c t) != 0) = true := h5
        have h5 : roomErr (madeS s c t) ≠ 0 := by simpa using h5
        have hA : appAns s c t = ⟨0, [], []⟩ := by unfold appAns; rw [hE, if_pos h5]
        have hN : appE s c t = zeroE := by unfold appE; rw [hE, if_pos h5]
        conv => whnf
        repeat (first | (refine Conf.mk (by kernel_rfl) ?_; conv => whnf) | (refine SeqOk.go ?_; conv => whnf))
        exact Ret.to (by rw [hE, hA, hN]; rfl)
      · have h5 : (roomErr (madeS s c t) != 0) = false := h5
        have h5 : roomErr (madeS s c t) = 0 := by simpa using h5
        have hN : appE s c t = newE s.region s.log c t := by unfold appE; rw [hE, if_neg (by simp [h5])]
        have hA : appAns s c t = ⟨s.region, (madeS s c t).1, (madeS s c t).2⟩ := by unfold appAns; rw [hE, if_neg (by simp [h5])]
        conv => whnf
        repeat (first | (refine Conf.mk (by kernel_rfl) ?_; conv => whnf) | (refine SeqOk.go ?_; conv => whnf))
        exact Ret.to (by rw [hE, hA, hN, h5]; first | rfl | (unfold madeS at *; rw [hst]; rfl))
end Go.Proofs.YtlioojekjnigiafGreat.AM
/- Sites: what settles, as the document says. -/
namespace Go.Proofs.YtlioojekjnigiafGreat.AM
set_option linter.unusedVariables false
set_option linter.unusedSimpArgs false

theorem isIdx_eq {α : Type} {p : α → Bool} : ∀ {l : List α} {i : Nat} (j : Nat) (hi : i < l.length), (∀ k (hk : k < l.length), k < i → p l[k] = false) → p l[i] = true → isIdx p l j = some (j + i)
  | [], i, j, hi, _, _ => by simp at hi
  | a :: t, 0, j, hi, _, h => by
    unfold isIdx
    rw [if_pos (by simpa using h)]
    rfl
  | a :: t, i + 1, j, hi, hk, h => by
    have h0 := hk 0 (by simp) (by omega)
    simp only [List.getElem_cons_zero] at h0
    unfold isIdx
    rw [if_neg (by simp [h0]), isIdx_eq (j + 1) (by simpa using hi) (fun k hk' hlt => hk (k + 1) (by simpa using hk') (by omega)) (by simpa using h)]
    congr 1
    omega
theorem enc5 {l : List Entry'} : ∀ x ∈ l.map Entry'.enc, x.length = 5 := fun x hx => by
  obtain ⟨e, _, rfl⟩ := List.mem_map.1 hx
  rfl
def settleS (s : Site') : Site' := ⟨s.region, (settle s.log s.waits).1, (settle s.log s.waits).2⟩
set_option maxHeartbeats 0 in
theorem settled_step (n : Nat) (ih : ∀ s : Site', s.waits.length < n → s.waits.length ≤ 1000 → Beside s.log s.waits → PCall Tryz.prog 213 [s.arg] (settleS s).arg) (s : Site') (hn : s.waits.length = n) (hwl : s.waits.length ≤ 1000) (hb : Beside s.log s.waits) : PCall Tryz.prog 213 [s.arg] (settleS s).arg := by
  have hll := hb.log.len
  refine pcall_cut tab_all tab_mixed Tryz.func213 (by kernel_rfl) Tryz.ntmps213 rfl ?_
  conv => whnf
  conv => whnf
  repeat (first | (refine Conf.mk (by kernel_rfl) ?_; conv => whnf) | (refine SeqOk.go ?_; conv => whnf))
  refine LoopOk.hide fun Q1 hQ1 => ?_
  refine LoopOk.mk (fun m t => ∃ i, i + m = s.waits.length ∧ (∀ k (hk : k < s.waits.length), k < i → readyP s.log s.waits[k] = false) ∧ t = ⟨[(3, dInt i), (1, .ptr 0 0), (2, .ptr 1 0)], 2, [(0, .vars 32 3 [dInt s.region, .dat (.list (s.log.map Entry'.enc)), .dat (.list (s.waits.map Entry'.enc))] true), (1, .vars 32 3 [dInt 0, .nil, .nil] true)]⟩) s.waits.length (Into.mono (Into.to [0, 1] [(3, dInt (0 : Nat)), (1, .ptr 0 0), (2, .ptr 1 0)] [(0, .vars 32 3 [dInt s.region, .dat (.list (s.log.map Entry'.enc)), .dat (.list (s.waits.map Entry'.enc))] true), (1, .vars 32 3 [dInt 0, .nil, .nil] true)] (by repeat (first | exact trivial | refine ⟨.same (congrArg dInt (wrap_up (by omega))), ?_⟩ | refine ⟨.same rfl, ?_⟩ | refine ⟨.any _, ?_⟩)) ⟨⟨rfl, rfl, rfl, .same rfl, rfl, .same rfl, rfl, .same rfl, rfl, trivial⟩, ⟨rfl, rfl, rfl, .same rfl, rfl, .same rfl, rfl, .same rfl, rfl, trivial⟩, trivial⟩ rfl rfl) fun s' h => ⟨0, by omega, fun k _ h => by omega, h⟩) ?_
  rintro m t ⟨i, him, hp, rfl⟩
  conv => whnf
  repeat (first | (refine Conf.mk (by kernel_rfl) ?_; conv => whnf) | (refine SeqOk.go ?_; conv => whnf))
  refine ⟨fun h3 => ?_, fun h3 => ?_⟩
  · have hi := lt_of_len h3
    have he := hb.err _ (List.getElem_mem hi)
    have hlk := (six_of he).2
    conv => whnf
    repeat (first | (refine Conf.mk (by kernel_rfl) ?_; conv => whnf) | (refine SeqOk.go ?_; conv => whnf))
    refine AtIdx.ofMap hi rfl ?_
    conv => whnf
    repeat (first | (refine Conf.mk (by kernel_rfl) ?_; conv => whnf) | (refine SeqOk.go ?_; conv => whnf))
    refine .data _ _ (refReady_ok s.log hll hb.log.regs s.waits[i] (by omega) (r_of_ok (ok_of_err he))) rfl ?_
    conv => whnf
    repeat (first | (refine Conf.mk (by kernel_rfl) ?_; conv => whnf) | (refine SeqOk.go ?_; conv => whnf))
    refine ⟨fun h4 => ?_, fun h4 => ?_⟩
    · have h4 : readyP s.log s.waits[i] = true := h4
      have hii : isIdx (readyP s.log) s.waits 0 = some i := by rw [isIdx_eq 0 hi hp h4, Nat.zero_add]
      have hst := settle_some hii hi
      have hlw : (s.waits.eraseIdx i).length = s.waits.length - 1 := List.length_eraseIdx_of_lt hi
      have hS : settleS s = settleS ⟨s.region, s.log ++ [s.waits[i]], s.waits.eraseIdx i⟩ := by unfold settleS; rw [hst]
      have hrec := ih ⟨s.region, s.log ++ [s.waits[i]], s.waits.eraseIdx i⟩ (by show (s.waits.eraseIdx i).length < n; omega) (by show (s.waits.eraseIdx i).length ≤ 1000; omega) (hb.step hi hii)
      have hr1 : (s.log ++ [s.waits[i]]).map Entry'.enc = s.log.map Entry'.enc ++ [s.waits[i].enc] := by rw [List.map_append]; rfl
      have hr2 : (s.waits.eraseIdx i).map Entry'.enc = (s.waits.take i).map Entry'.enc ++ (s.waits.map Entry'.enc).drop (i + 1) := by rw [List.eraseIdx_eq_take_drop_succ, List.map_append, map_drop']
      rw [show (⟨s.region, s.log ++ [s.waits[i]], s.waits.eraseIdx i⟩ : Site').arg = .agg [dInt s.region, .dat (.list (s.log.map Entry'.enc ++ [s.waits[i].enc])), .dat (.list ((s.waits.take i).map Entry'.enc ++ (s.waits.map Entry'.enc).drop (i + 1)))] by unfold Site'.arg; rw [hr1, hr2]] at hrec
      conv => whnf
      repeat (first | (refine Conf.mk (by kernel_rfl) ?_; conv => whnf) | (refine SeqOk.go ?_; conv => whnf))
      refine ⟨by simp [Entry'.enc], by simp; omega, ?_⟩
      conv => whnf
      repeat (first | (refine Conf.mk (by kernel_rfl) ?_; conv => whnf) | (refine SeqOk.go ?_; conv => whnf))
      refine AtIdx.ofMap hi rfl ?_
      conv => whnf
      repeat (first | (refine Conf.mk (by kernel_rfl) ?_; conv => whnf) | (refine SeqOk.go ?_; conv => whnf))
      refine ⟨by simp [Entry'.enc], by simp; omega, ?_⟩
      conv => whnf
      repeat (first | (refine Conf.mk (by kernel_rfl) ?_; conv => whnf) | (refine SeqOk.go ?_; conv => whnf))
      refine .mk 0 i rfl rfl (Nat.zero_le _) (by simp; omega) ?_
      rw [fits_take]
      conv => whnf
      repeat (first | (refine Conf.mk (by kernel_rfl) ?_; conv => whnf) | (refine SeqOk.go ?_; conv => whnf))
      refine ⟨enc5, by simp; omega, ?_⟩
      conv => whnf
      repeat (first | (refine Conf.mk (by kernel_rfl) ?_; conv => whnf) | (refine SeqOk.go ?_; conv => whnf))
      refine .mk (i + 1) s.waits.length (wrap_up (i := i) (by omega)).symm (by simp) (by omega) (by simp) ?_
      conv => whnf
      repeat (first | (refine Conf.mk (by kernel_rfl) ?_; conv => whnf) | (refine SeqOk.go ?_; conv => whnf))
      refine ⟨enc5, ?_⟩
      conv => whnf
      repeat (first | (refine Conf.mk (by kernel_rfl) ?_; conv => whnf) | (refine SeqOk.go ?_; conv => whnf))
      refine ⟨fun x h => enc5 x (List.mem_of_mem_drop h), by simp; omega, ?_⟩
      conv => whnf
      repeat (first | (refine Conf.mk (by kernel_rfl) ?_; conv => whnf) | (refine SeqOk.go ?_; conv => whnf))
      refine .keep [5, 7] _ _ hrec rfl rfl rfl rfl ?_
      conv => whnf
      repeat (first | (refine Conf.mk (by kernel_rfl) ?_; conv => whnf) | (refine SeqOk.go ?_; conv => whnf))
      subst hQ1
      conv => whnf
      exact Ret.to (by rw [hS]; rfl)
    · have h4 : readyP s.log s.waits[i] = false := h4
      conv => whnf
      repeat (first | (refine Conf.mk (by kernel_rfl) ?_; conv => whnf) | (refine SeqOk.go ?_; conv => whnf))
      exact Into.mono (Into.to [0, 1] [(3, dInt (i + 1 : Nat)), (1, .ptr 0 0), (2, .ptr 1 0)] [(0, .vars 32 3 [dInt s.region, .dat (.list (s.log.map Entry'.enc)), .dat (.list (s.waits.map Entry'.enc))] true), (1, .vars 32 3 [dInt 0, .nil, .nil] true)] (by repeat (first | exact trivial | refine ⟨.same (congrArg dInt (wrap_up (by omega))), ?_⟩ | refine ⟨.same rfl, ?_⟩ | refine ⟨.any _, ?_⟩)) ⟨⟨rfl, rfl, rfl, .same rfl, rfl, .same rfl, rfl, .same rfl, rfl, trivial⟩, ⟨rfl, rfl, rfl, .same rfl, rfl, .same rfl, rfl, .same rfl, rfl, trivial⟩, trivial⟩ rfl rfl) fun s' h => ⟨m - 1, by omega, i + 1, by omega, fun k hk hlt => by
        by_cases e : k = i
        · subst e; exact h4
        · exact hp k hk (by omega), h⟩
  · have hi := ge_of_len h3
    have hnone : isIdx (readyP s.log) s.waits 0 = none := isIdx_none.2 fun a ha => by
      obtain ⟨k, hk, rfl⟩ := List.getElem_of_mem ha
      exact hp k hk (by omega)
    have hS : settleS s = s := by unfold settleS; rw [settle_none hnone]
    conv => whnf
    repeat (first | (refine Conf.mk (by kernel_rfl) ?_; conv => whnf) | (refine SeqOk.go ?_; conv => whnf))
    subst hQ1
    conv => whnf
    exact Ret.to (by rw [hS]; rfl)
theorem settled_ok (s : Site') (hwl : s.waits.length ≤ 1000) (hb : Beside s.log s.waits) : PCall Tryz.prog 213 [s.arg] (settleS s).arg := by
  have key : ∀ (n : Nat) (s : Site'), s.waits.length = n → s.waits.length ≤ 1000 → Beside s.log s.waits → PCall Tryz.prog 213 [s.arg] (settleS s).arg := by
    intro n
    induction n using Nat.strongRecOn with
    | _ n ih => exact fun s hn hw hb => settled_step n (fun s hs hw hb => ih _ hs s rfl hw hb) s hn hw hb
  exact key _ s rfl hwl hb
end Go.Proofs.YtlioojekjnigiafGreat.AM
/- Sites: what comes in, as the document says. -/
namespace Go.Proofs.YtlioojekjnigiafGreat.AM
set_option linter.unusedVariables false
set_option linter.unusedSimpArgs false

/-- What stands ahead of what comes in, and is it put already? -/
def putStep (e : Entry') (p : List Entry' × Bool) (w : Entry') : List Entry' × Bool :=
  if (!p.2 && e.id.less w.id) = true then (p.1 ++ [e] ++ [w], true) else (p.1 ++ [w], p.2)
def putEnd (e : Entry') (p : List Entry' × Bool) : List Entry' := if p.2 = true then p.1 else p.1 ++ [e]
theorem putStep_on (e : Entry') : ∀ (t acc : List Entry'), putEnd e (t.foldl (putStep e) (acc, true)) = acc ++ t
  | [], acc => by simp [putEnd]
  | w :: t, acc => by
    rw [List.foldl_cons]
    have : putStep e (acc, true) w = (acc ++ [w], true) := by simp [putStep]
    rw [this, putStep_on e t, List.append_assoc]
    rfl
theorem putStep_all (e : Entry') : ∀ (t acc : List Entry'), (∀ w ∈ t, w.id ≠ e.id) → putEnd e (t.foldl (putStep e) (acc, false)) = acc ++ putW t e
  | [], acc, _ => by simp [putEnd, putW, waitAt, putAt]
  | w :: t, acc, h => by
    rw [List.foldl_cons, putW_cons]
    cases hl : e.id.less w.id with
    | true =>
      have : putStep e (acc, false) w = (acc ++ [e] ++ [w], true) := by simp [putStep, hl]
      rw [this, putStep_on e t, if_neg (by rw [less_asymm hl]; simp), List.append_assoc, List.append_assoc]
      rfl
    | false =>
      have hw : w.id.less e.id = true := by
        cases hh : w.id.less e.id
        · exact absurd (less_total hh hl) (h w (by simp))
        · rfl
      have : putStep e (acc, false) w = (acc ++ [w], false) := by simp [putStep, hl]
      rw [this, putStep_all e t _ fun x hx => h x (by simp [hx]), if_pos hw, List.append_assoc]
      rfl
theorem entryAt_yes {l : List Entry'} {x : Id} (h : decide (0 ≤ entryAt l x) = true) : l.any (isThe x) = true := entryAt_iff.1 (by simpa using h)
theorem entryAt_no {l : List Entry'} {x : Id} (h : decide (0 ≤ entryAt l x) = false) : l.any (isThe x) = false := by
  rw [Bool.eq_false_iff]
  intro k
  have := entryAt_iff.2 k
  simp at h
  omega
set_option maxHeartbeats 0 in
theorem receiveOf_ok (s : Site') (hR : SiteR s) (e : Entry') (he : e.err = 0) : PCall Tryz.prog 125 [s.arg, e.arg] (.tup [(recvAns s e).arg, dInt (recvErr s e)]) := by
  have hll := hR.log.len
  have hwl := hR.len
  have hlk := (six_of he).2
  have hE : recvErr s e = if thereS s e = true then 0 else if e.id.r = s.region then 4 else roomErr (settle s.log (putW s.waits e)) := by unfold recvErr; rw [if_neg (by simp [siteErr_iff.2 hR]), if_neg (by simp [he])]
  refine pcall_cut tab_all tab_mixed Tryz.func125 (by kernel_rfl) Tryz.ntmps125 rfl ?_
  conv => whnf
  conv => whnf
  repeat (first | (refine Conf.mk (by kernel_rfl) ?_; conv => whnf) | (refine SeqOk.go ?_; conv => whnf))
  refine .data _ _ (entryAt_ok e.id s.log (by omega)) rfl ?_
  conv => whnf
  repeat (first | (refine Conf.mk (by kernel_rfl) ?_; conv => whnf) | (refine SeqOk.go ?_; conv => whnf))
  refine ⟨fun h1 => ?_, fun h1 => ?_⟩
  · have ht : thereS s e = true := by unfold thereS; rw [entryAt_yes h1]; rfl
    have ha := (recv_there hR he ht).2
    have hz := (recv_there hR he ht).1
    conv => whnf
    repeat (first | (refine Conf.mk (by kernel_rfl) ?_; conv => whnf) | (refine SeqOk.go ?_; conv => whnf))
    exact Ret.to (by rw [ha, hz]; rfl)
  · have h1 := entryAt_no h1
    conv => whnf
    repeat (first | (refine Conf.mk (by kernel_rfl) ?_; conv => whnf) | (refine SeqOk.go ?_; conv => whnf))
    refine .data _ _ (entryAt_ok e.id s.waits (by omega)) rfl ?_
    conv => whnf
    repeat (first | (refine Conf.mk (by kernel_rfl) ?_; conv => whnf) | (refine SeqOk.go ?_; conv => whnf))
    refine ⟨fun h2 => ?_, fun h2 => ?_⟩
    · have ht : thereS s e = true := by unfold thereS; rw [entryAt_yes h2, h1]; rfl
      have ha := (recv_there hR he ht).2
      have hz := (recv_there hR he ht).1
      conv => whnf
      repeat (first | (refine Conf.mk (by kernel_rfl) ?_; conv => whnf) | (refine SeqOk.go ?_; conv => whnf))
      exact Ret.to (by rw [ha, hz]; rfl)
    · have ht : thereS s e = false := by unfold thereS; rw [entryAt_no h2, h1]; rfl
      have hnw : ∀ w ∈ s.waits, w.id ≠ e.id := fun w hw => thereS_not ht (.inr hw)
      rw [if_neg (by simp [ht])] at hE
      conv => whnf
      repeat (first | (refine Conf.mk (by kernel_rfl) ?_; conv => whnf) | (refine SeqOk.go ?_; conv => whnf))
      refine ⟨fun h3 => ?_, fun h3 => ?_⟩
      · have h3 : e.id.r = s.region := by simpa using h3
        rw [if_pos h3] at hE
        have ha : recvAns s e = ⟨0, [], []⟩ := by unfold recvAns; rw [hE, if_pos (by decide)]
        conv => whnf
        repeat (first | (refine Conf.mk (by kernel_rfl) ?_; conv => whnf) | (refine SeqOk.go ?_; conv => whnf))
        exact Ret.to (by rw [ha, hE]; rfl)
      · have h3 : e.id.r ≠ s.region := by simpa using h3
        rw [if_neg h3] at hE
        conv => whnf
        repeat (first | (refine Conf.mk (by kernel_rfl) ?_; conv => whnf) | (refine SeqOk.go ?_; conv => whnf))
        refine LoopOk.hide fun Q1 hQ1 => ?_
        refine LoopOk.mk (fun m t => ∃ k acc put, k + m = s.waits.length ∧ acc.length ≤ 2 * k ∧ putEnd e ((s.waits.drop k).foldl (putStep e) (acc, put)) = putW s.waits e ∧ t = ⟨[(8, dInt k), (7, dBool put), (2, .ptr 0 0), (3, .ptr 1 0), (4, .ptr 2 0), (5, dInt 0), (6, .ptr 3 0)], 5, [(0, .vars 32 3 [dInt s.region, .dat (.list (s.log.map Entry'.enc)), .dat (.list (s.waits.map Entry'.enc))] true), (1, .vars 28 5 [dInt e.id.r, dInt e.id.n, dInt e.colors, .dat (.str e.text), .dat (.list (e.links.map Id.enc))] true), (2, .vars 32 3 [dInt 0, .nil, .nil] true), (3, .vars 32 3 [dInt s.region, .dat (.list (s.log.map Entry'.enc)), .row 4] true), (4, .rows 28 5 (acc.map Entry'.enc) true)]⟩) s.waits.length ((Into.rowAt 3 32 3 [dInt s.region, .dat (.list (s.log.map Entry'.enc)), .nil] 2 28 5 rfl (Nat.lt_succ_self 3) rfl).trans fun s' hs' => by
          subst hs'
          exact Into.mono (Into.to [0, 1, 2, 3, 4] [(8, dInt (0 : Nat)), (7, dBool false), (2, .ptr 0 0), (3, .ptr 1 0), (4, .ptr 2 0), (5, dInt 0), (6, .ptr 3 0)] [(0, .vars 32 3 [dInt s.region, .dat (.list (s.log.map Entry'.enc)), .dat (.list (s.waits.map Entry'.enc))] true), (1, .vars 28 5 [dInt e.id.r, dInt e.id.n, dInt e.colors, .dat (.str e.text), .dat (.list (e.links.map Id.enc))] true), (2, .vars 32 3 [dInt 0, .nil, .nil] true), (3, .vars 32 3 [dInt s.region, .dat (.list (s.log.map Entry'.enc)), .row 4] true), (4, .rows 28 5 (([] : List Entry').map Entry'.enc) true)] ⟨.same rfl, .kb false, .same rfl, .same rfl, .same rfl, .same rfl, .same rfl, trivial⟩ ⟨⟨rfl, rfl, rfl, .same rfl, rfl, .same rfl, rfl, .same rfl, rfl, trivial⟩, ⟨rfl, rfl, rfl, .same rfl, rfl, .same rfl, rfl, .same rfl, rfl, .same rfl, rfl, .same rfl, rfl, trivial⟩, ⟨rfl, rfl, rfl, .same rfl, rfl, .same rfl, rfl, .same rfl, rfl, trivial⟩, ⟨rfl, rfl, rfl, .same rfl, rfl, .same rfl, rfl, .same rfl, rfl, trivial⟩, ⟨rfl, rfl, rfl, rfl⟩, trivial⟩ rfl rfl) fun s' h => ⟨0, [], false, by omega, by simp, by rw [List.drop_zero, putStep_all e _ _ hnw]; rfl, h⟩) ?_
        rintro m t ⟨k, acc, put, hkm, hac, hpe, rfl⟩
        conv => whnf
        repeat (first | (refine Conf.mk (by kernel_rfl) ?_; conv => whnf) | (refine SeqOk.go ?_; conv => whnf))
        refine ⟨fun h4 => ?_, fun h4 => ?_⟩
        · have hk := lt_of_len h4
          rw [List.drop_eq_getElem_cons hk, List.foldl_cons] at hpe
          conv => whnf
          repeat (first | (refine Conf.mk (by kernel_rfl) ?_; conv => whnf) | (refine SeqOk.go ?_; conv => whnf))
          cases put with
          | true =>
            have hps : putStep e (acc, true) s.waits[k] = (acc ++ [s.waits[k]], true) := by simp [putStep]
            refine BoolCase.no rfl ?_
            conv => whnf
            repeat (first | (refine Conf.mk (by kernel_rfl) ?_; conv => whnf) | (refine SeqOk.go ?_; conv => whnf))
            refine AtIdx.ofMap hk rfl ?_
            conv => whnf
            repeat (first | (refine Conf.mk (by kernel_rfl) ?_; conv => whnf) | (refine SeqOk.go ?_; conv => whnf))
            refine ⟨by simp [Entry'.enc], by simp; omega, ?_⟩
            conv => whnf
            repeat (first | (refine Conf.mk (by kernel_rfl) ?_; conv => whnf) | (refine SeqOk.go ?_; conv => whnf))
            have hrow : (acc ++ [s.waits[k]]).map Entry'.enc = acc.map Entry'.enc ++ [s.waits[k].enc] := by rw [List.map_append]; rfl
            exact Into.mono (Into.to [0, 1, 2, 3, 6] [(8, dInt (k + 1 : Nat)), (7, dBool true), (2, .ptr 0 0), (3, .ptr 1 0), (4, .ptr 2 0), (5, dInt 0), (6, .ptr 3 0)] [(0, .vars 32 3 [dInt s.region, .dat (.list (s.log.map Entry'.enc)), .dat (.list (s.waits.map Entry'.enc))] true), (1, .vars 28 5 [dInt e.id.r, dInt e.id.n, dInt e.colors, .dat (.str e.text), .dat (.list (e.links.map Id.enc))] true), (2, .vars 32 3 [dInt 0, .nil, .nil] true), (3, .vars 32 3 [dInt s.region, .dat (.list (s.log.map Entry'.enc)), .row 4] true), (4, .rows 28 5 ((acc ++ [s.waits[k]]).map Entry'.enc) true)] ⟨.same (congrArg dInt (wrap_up (by omega))), .same rfl, .same rfl, .same rfl, .same rfl, .same rfl, .same rfl, trivial⟩ ⟨⟨rfl, rfl, rfl, .same rfl, rfl, .same rfl, rfl, .same rfl, rfl, trivial⟩, ⟨rfl, rfl, rfl, .same rfl, rfl, .same rfl, rfl, .same rfl, rfl, .same rfl, rfl, .same rfl, rfl, trivial⟩, ⟨rfl, rfl, rfl, .same rfl, rfl, .same rfl, rfl, .same rfl, rfl, trivial⟩, ⟨rfl, rfl, rfl, .same rfl, rfl, .same rfl, rfl, .same rfl, rfl, trivial⟩, ⟨rfl, rfl, rfl, hrow⟩, trivial⟩ rfl rfl) fun s' h => ⟨m - 1, by omega, k + 1, acc ++ [s.waits[k]], true, by omega, by simp; omega, by rw [← hpe, hps], h⟩
          | false =>
            refine BoolCase.yes rfl ?_
            conv => whnf
            repeat (first | (refine Conf.mk (by kernel_rfl) ?_; conv => whnf) | (refine SeqOk.go ?_; conv => whnf))
            refine AtIdx.ofMap hk rfl ?_
            conv => whnf
            repeat (first | (refine Conf.mk (by kernel_rfl) ?_; conv => whnf) | (refine SeqOk.go ?_; conv => whnf))
            refine .data _ _ (isAhead_ok e.id s.waits[k].id) rfl ?_
            conv => whnf
            repeat (first | (refine Conf.mk (by kernel_rfl) ?_; conv => whnf) | (refine SeqOk.go ?_; conv => whnf))
            refine ⟨fun h5 => ?_, fun h5 => ?_⟩
            · have h5 : e.id.less s.waits[k].id = true := h5
              have hps : putStep e (acc, false) s.waits[k] = (acc ++ [e] ++ [s.waits[k]], true) := by simp [putStep, h5]
              conv => whnf
              repeat (first | (refine Conf.mk (by kernel_rfl) ?_; conv => whnf) | (refine SeqOk.go ?_; conv => whnf))
              refine ⟨by simp [Entry'.enc], by simp; omega, ?_⟩
              conv => whnf
              repeat (first | (refine Conf.mk (by kernel_rfl) ?_; conv => whnf) | (refine SeqOk.go ?_; conv => whnf))
              refine AtIdx.ofMap hk rfl ?_
              conv => whnf
              repeat (first | (refine Conf.mk (by kernel_rfl) ?_; conv => whnf) | (refine SeqOk.go ?_; conv => whnf))
              refine ⟨by simp [Entry'.enc], by simp; omega, ?_⟩
              conv => whnf
              repeat (first | (refine Conf.mk (by kernel_rfl) ?_; conv => whnf) | (refine SeqOk.go ?_; conv => whnf))
              have hrow : (acc ++ [e] ++ [s.waits[k]]).map Entry'.enc = acc.map Entry'.enc ++ [e.enc] ++ [s.waits[k].enc] := by rw [List.map_append, List.map_append]; rfl
              exact Into.mono (Into.to [0, 1, 2, 3, 8] [(8, dInt (k + 1 : Nat)), (7, dBool true), (2, .ptr 0 0), (3, .ptr 1 0), (4, .ptr 2 0), (5, dInt 0), (6, .ptr 3 0)] [(0, .vars 32 3 [dInt s.region, .dat (.list (s.log.map Entry'.enc)), .dat (.list (s.waits.map Entry'.enc))] true), (1, .vars 28 5 [dInt e.id.r, dInt e.id.n, dInt e.colors, .dat (.str e.text), .dat (.list (e.links.map Id.enc))] true), (2, .vars 32 3 [dInt 0, .nil, .nil] true), (3, .vars 32 3 [dInt s.region, .dat (.list (s.log.map Entry'.enc)), .row 4] true), (4, .rows 28 5 ((acc ++ [e] ++ [s.waits[k]]).map Entry'.enc) true)] ⟨.same (congrArg dInt (wrap_up (by omega))), .kb true, .same rfl, .same rfl, .same rfl, .same rfl, .same rfl, trivial⟩ ⟨⟨rfl, rfl, rfl, .same rfl, rfl, .same rfl, rfl, .same rfl, rfl, trivial⟩, ⟨rfl, rfl, rfl, .same rfl, rfl, .same rfl, rfl, .same rfl, rfl, .same rfl, rfl, .same rfl, rfl, trivial⟩, ⟨rfl, rfl, rfl, .same rfl, rfl, .same rfl, rfl, .same rfl, rfl, trivial⟩, ⟨rfl, rfl, rfl, .same rfl, rfl, .same rfl, rfl, .same rfl, rfl, trivial⟩, ⟨rfl, rfl, rfl, hrow⟩, trivial⟩ rfl rfl) fun s' h => ⟨m - 1, by omega, k + 1, acc ++ [e] ++ [s.waits[k]], true, by omega, by simp; omega, by rw [← hpe, hps], h⟩
            · have h5 : e.id.less s.waits[k].id = false := h5
              have hps : putStep e (acc, false) s.waits[k] = (acc ++ [s.waits[k]], false) := by simp [putStep, h5]
              conv => whnf
              repeat (first | (refine Conf.mk (by kernel_rfl) ?_; conv => whnf) | (refine SeqOk.go ?_; conv => whnf))
              refine AtIdx.ofMap hk rfl ?_
              conv => whnf
              repeat (first | (refine Conf.mk (by kernel_rfl) ?_; conv => whnf) | (refine SeqOk.go ?_; conv => whnf))
              refine ⟨by simp [Entry'.enc], by simp; omega, ?_⟩
              conv => whnf
              repeat (first | (refine Conf.mk (by kernel_rfl) ?_; conv => whnf) | (refine SeqOk.go ?_; conv => whnf))
              have hrow : (acc ++ [s.waits[k]]).map Entry'.enc = acc.map Entry'.enc ++ [s.waits[k].enc] := by rw [List.map_append]; rfl
              exact Into.mono (Into.to [0, 1, 2, 3, 6] [(8, dInt (k + 1 : Nat)), (7, dBool false), (2, .ptr 0 0), (3, .ptr 1 0), (4, .ptr 2 0), (5, dInt 0), (6, .ptr 3 0)] [(0, .vars 32 3 [dInt s.region, .dat (.list (s.log.map Entry'.enc)), .dat (.list (s.waits.map Entry'.enc))] true), (1, .vars 28 5 [dInt e.id.r, dInt e.id.n, dInt e.colors, .dat (.str e.text), .dat (.list (e.links.map Id.enc))] true), (2, .vars 32 3 [dInt 0, .nil, .nil] true), (3, .vars 32 3 [dInt s.region, .dat (.list (s.log.map Entry'.enc)), .row 4] true), (4, .rows 28 5 ((acc ++ [s.waits[k]]).map Entry'.enc) true)] ⟨.same (congrArg dInt (wrap_up (by omega))), .same rfl, .same rfl, .same rfl, .same rfl, .same rfl, .same rfl, trivial⟩ ⟨⟨rfl, rfl, rfl, .same rfl, rfl, .same rfl, rfl, .same rfl, rfl, trivial⟩, ⟨rfl, rfl, rfl, .same rfl, rfl, .same rfl, rfl, .same rfl, rfl, .same rfl, rfl, .same rfl, rfl, trivial⟩, ⟨rfl, rfl, rfl, .same rfl, rfl, .same rfl, rfl, .same rfl, rfl, trivial⟩, ⟨rfl, rfl, rfl, .same rfl, rfl, .same rfl, rfl, .same rfl, rfl, trivial⟩, ⟨rfl, rfl, rfl, hrow⟩, trivial⟩ rfl rfl) fun s' h => ⟨m - 1, by omega, k + 1, acc ++ [s.waits[k]], false, by omega, by simp; omega, by rw [← hpe, hps], h⟩
        · have hk : s.waits.length ≤ k := ge_of_len h4
          rw [List.drop_eq_nil_of_le hk] at hpe
          conv => whnf
          repeat (first | (refine Conf.mk (by kernel_rfl) ?_; conv => whnf) | (refine SeqOk.go ?_; conv => whnf))
          subst hQ1
          conv => whnf
          conv => whnf
          repeat (first | (refine Conf.mk (by kernel_rfl) ?_; conv => whnf) | (refine SeqOk.go ?_; conv => whnf))
          obtain ⟨hz, hA, hS⟩ := recv_comes hR he ht h3
          rw [hA] at hS
          have hW : (settleS ⟨s.region, s.log, putW s.waits e⟩).waits.length ≤ 20 := hS.len
          have hL : (settleS ⟨s.region, s.log, putW s.waits e⟩).log.length ≤ 40 := hS.log.len
          have hB := (hR.put he ht).1
          have hpl : (putW s.waits e).length = s.waits.length + 1 := putAt_len (waitAt_le e.id s.waits) e
          have hcon := settled_ok ⟨s.region, s.log, putW s.waits e⟩ (by show (putW s.waits e).length ≤ 1000; omega) hB
          cases put with
          | true =>
            have hacc : putW s.waits e = acc := hpe.symm
            rw [show (⟨s.region, s.log, putW s.waits e⟩ : Site').arg = .agg [dInt s.region, .dat (.list (s.log.map Entry'.enc)), .dat (.list (acc.map Entry'.enc))] by unfold Site'.arg; rw [hacc]] at hcon
            refine BoolCase.no rfl ?_
            conv => whnf
            repeat (first | (refine Conf.mk (by kernel_rfl) ?_; conv => whnf) | (refine SeqOk.go ?_; conv => whnf))
            refine .keep [4] _ _ hcon rfl rfl rfl rfl ?_
            conv => whnf
            repeat (first | (refine Conf.mk (by kernel_rfl) ?_; conv => whnf) | (refine SeqOk.go ?_; conv => whnf))
            refine BoolCase.no (by simp; omega) ?_
            conv => whnf
            repeat (first | (refine Conf.mk (by kernel_rfl) ?_; conv => whnf) | (refine SeqOk.go ?_; conv => whnf))
            refine BoolCase.no (by simp; omega) ?_
            conv => whnf
            repeat (first | (refine Conf.mk (by kernel_rfl) ?_; conv => whnf) | (refine SeqOk.go ?_; conv => whnf))
            exact Ret.to (by rw [hA, hz]; rfl)
          | false =>
            have hacc : putW s.waits e = acc ++ [e] := hpe.symm
            rw [show (⟨s.region, s.log, putW s.waits e⟩ : Site').arg = .agg [dInt s.region, .dat (.list (s.log.map Entry'.enc)), .dat (.list (acc.map Entry'.enc ++ [e.enc]))] by unfold Site'.arg; rw [hacc, List.map_append]; rfl] at hcon
            refine BoolCase.yes rfl ?_
            conv => whnf
            repeat (first | (refine Conf.mk (by kernel_rfl) ?_; conv => whnf) | (refine SeqOk.go ?_; conv => whnf))
            refine ⟨by simp [Entry'.enc], by simp; omega, ?_⟩
            conv => whnf
            repeat (first | (refine Conf.mk (by kernel_rfl) ?_; conv => whnf) | (refine SeqOk.go ?_; conv => whnf))
            refine .keep [6] _ _ hcon rfl rfl rfl rfl ?_
            conv => whnf
            repeat (first | (refine Conf.mk (by kernel_rfl) ?_; conv => whnf) | (refine SeqOk.go ?_; conv => whnf))
            refine BoolCase.no (by simp; omega) ?_
            conv => whnf
            repeat (first | (refine Conf.mk (by kernel_rfl) ?_; conv => whnf) | (refine SeqOk.go ?_; conv => whnf))
            refine BoolCase.no (by simp; omega) ?_
            conv => whnf
            repeat (first | (refine Conf.mk (by kernel_rfl) ?_; conv => whnf) | (refine SeqOk.go ?_; conv => whnf))
            exact Ret.to (by rw [hA, hz]; rfl)
end Go.Proofs.YtlioojekjnigiafGreat.AM
/- Logs: heads, and what is in the past of them. -/
namespace Go.Proofs.YtlioojekjnigiafGreat.AM
set_option linter.unusedVariables false
set_option linter.unusedSimpArgs false

theorem mem_headsOf {l : List Entry'} (hr : Right l) {c : Int} (hc : 1 ≤ c ∧ c ≤ 7) {x : Id} : x ∈ headsOf c l ↔ ∃ e ∈ l, e.id = x ∧ meets e.colors c = true ∧ ∀ f ∈ l, meets f.colors c = true → ¬ Anc l f.id x := by
  unfold headsOf
  rw [mem_sortIds, mem_headIds _ hr]
  constructor
  · rintro ⟨e, he, h1, h2, h3⟩
    exact ⟨e, he, h1, by rw [← meets_bothOf (hr.colors he) hc]; exact h2, fun f hf hm => h3 f hf (by rw [meets_bothOf (hr.colors hf) hc]; exact hm)⟩
  · rintro ⟨e, he, h1, h2, h3⟩
    exact ⟨e, he, h1, by rw [meets_bothOf (hr.colors he) hc]; exact h2, fun f hf hm => h3 f hf (by rw [← meets_bothOf (hr.colors hf) hc]; exact hm)⟩
/-- All of some colors is a head, or in the past of one. -/
theorem heads_cover {l : List Entry'} (hr : Right l) {c : Int} (hc : 1 ≤ c ∧ c ≤ 7) {e : Entry'} (he : e ∈ l) (hm : meets e.colors c = true) : e.id ∈ headsOf c l ∨ ∃ x ∈ headsOf c l, Anc l x e.id := by
  obtain ⟨i, hi, rfl⟩ := List.getElem_of_mem he
  have key : ∀ n i (hi : i < l.length), l.length - i = n → meets l[i].colors c = true → l[i].id ∈ headsOf c l ∨ ∃ x ∈ headsOf c l, Anc l x l[i].id := by
    intro n
    induction n using Nat.strongRecOn with
    | _ n ih =>
      intro i hi hn hm
      by_cases h : l[i].id ∈ headsOf c l
      · exact .inl h
      · refine .inr ?_
        have : ∃ f ∈ l, meets f.colors c = true ∧ Anc l f.id l[i].id := by
          refine Classical.byContradiction fun hh => h ((mem_headsOf hr hc).2 ⟨l[i], List.getElem_mem hi, rfl, hm, fun f hf hfm ha => hh ⟨f, hf, hfm, ha⟩⟩)
        obtain ⟨f, hf, hfm, ha⟩ := this
        obtain ⟨j, hj, rfl⟩ := List.getElem_of_mem hf
        obtain ⟨k, hk, hkj, hke, _⟩ := ha.ahead hr j hj rfl
        have hki := hr.inj hk hi hke
        subst hki
        rcases ih (l.length - j) (by omega) j hj rfl hfm with h2 | ⟨x, hx, hxa⟩
        · exact ⟨_, h2, ha⟩
        · exact ⟨x, hx, hxa.trans ha⟩
  exact key _ i hi rfl hm
/-- Places in the past of some. -/
def underB (l : List Entry') (h : List Id) : List Bool := l.map fun e => h.any fun x => hasId (pastOfId l x) e.id
/-- .. of one more, the first places already. -/
def underTo (l : List Entry') (h : List Id) (x : Id) (k : Nat) : List Bool := (l.take k).map (fun e => (h ++ [x]).any fun x => hasId (pastOfId l x) e.id) ++ (l.drop k).map fun e => h.any fun x => hasId (pastOfId l x) e.id
theorem underB_nil (l : List Entry') : underB l [] = List.replicate l.length false := by
  unfold underB
  rw [show (fun e : Entry' => ([] : List Id).any fun x => hasId (pastOfId l x) e.id) = fun _ => false from rfl, List.map_const']
theorem underTo_zero (l : List Entry') (h : List Id) (x : Id) : underTo l h x 0 = underB l h := by simp [underTo, underB]
theorem underTo_all (l : List Entry') (h : List Id) (x : Id) : underTo l h x l.length = underB l (h ++ [x]) := by simp [underTo, underB]
theorem underTo_length (l : List Entry') (h : List Id) (x : Id) (k : Nat) (hk : k ≤ l.length) : (underTo l h x k).length = l.length := by simp [underTo]; omega
theorem underTo_snoc {l : List Entry'} {h : List Id} {x : Id} {k : Nat} (hk : k < l.length) : underTo l h x (k + 1) = (underTo l h x k).set k ((h.any fun x => hasId (pastOfId l x) l[k].id) || hasId (pastOfId l x) l[k].id) := by
  unfold underTo
  rw [List.drop_eq_getElem_cons hk, List.map_cons, set_mid (by simp; omega), take_snoc hk, List.map_append, List.append_assoc]
  congr 1
  simp
theorem underTo_get {l : List Entry'} {h : List Id} {x : Id} {k : Nat} (hk : k < l.length) : (underTo l h x k)[k]? = some (h.any fun x => hasId (pastOfId l x) l[k].id) := by
  unfold underTo
  rw [List.getElem?_append_right (by simp; omega)]
  simp only [List.length_map, List.length_take]
  rw [show k - min k l.length = 0 by omega, List.drop_eq_getElem_cons hk]
  rfl
end Go.Proofs.YtlioojekjnigiafGreat.AM
/- Plain: what a site writes of its own stands right. -/
namespace Go.Proofs.YtlioojekjnigiafGreat.AM
set_option linter.unusedVariables false
set_option linter.unusedSimpArgs false

theorem linksErr_zero (own : Id) : ∀ (l : List Id) (p : Option Id), (∀ x ∈ l, x.ok = true) → (∀ x ∈ l, ¬ (x.r = own.r ∧ own.n ≤ x.n)) → l.Pairwise (fun a b => a.less b = true) → (∀ y, p = some y → ∀ x ∈ l, y.less x = true) → linksErr own p l = 0
  | [], _, _, _, _, _ => rfl
  | x :: t, p, h1, h2, h3, h4 => by
    rw [List.pairwise_cons] at h3
    unfold linksErr
    rw [if_neg (by simp [h1 x (by simp)]), if_neg ?_, if_neg (h2 x (by simp))]
    · exact linksErr_zero own t (some x) (fun y hy => h1 y (by simp [hy])) (fun y hy => h2 y (by simp [hy])) h3.2 fun y e z hz => by cases e; exact h3.1 z hz
    · cases p with
      | none => simp
      | some y => simp [h4 y rfl x (by simp)]
theorem nextErr_zero {r : Int} {l : List Entry'} {c : Int} {t : ByteArray} (h : nextErr r l c t = 0) : (1 ≤ c ∧ c ≤ 7) ∧ t.size ≤ 12 ∧ cnt r l + 1 ≤ 20 ∧ (headsOf c l).length ≤ 6 := by
  unfold nextErr at h
  split at h
  · cases h
  · rename_i h1
    split at h
    · cases h
    · rename_i h2
      simp only [not_or] at h1 h2
      omega
theorem heads_sorted {l : List Entry'} (hr : Right l) (c : Int) : (headsOf c l).Pairwise fun a b => a.less b = true := sortIds_sorted (nodup_headIds _ hr)
theorem newE_behind {r : Int} {l : List Entry'} (hr : Right l) (hreg : r = 0 ∨ r = 1) {c : Int} {t : ByteArray} (h : nextErr r l c t = 0) : Behind l (newE r l c t) := by
  obtain ⟨hc, ht, hn, hk⟩ := nextErr_zero h
  have hlast : ∀ e ∈ l, e.id.r = r → e.id.n ≤ (cnt r l : Int) := fun e he hx => by
    have := (hr.num_le he).2
    rw [hx] at this
    exact this
  refine ⟨?_, fun e he hx => ?_, rfl, fun y hy => ?_⟩
  · unfold Entry'.err newE
    have hok : (⟨r, (cnt r l : Int) + 1⟩ : Id).ok = true := by
      simp [Id.ok]
      omega
    simp only
    rw [if_neg (by rw [hok]; simp; omega), if_neg (by simp only [not_or]; omega)]
    refine linksErr_zero _ _ _ (fun x hx => ?_) (fun x hx hh => ?_) (heads_sorted hr c) fun y e => by cases e
    · obtain ⟨e, he, rfl, _⟩ := (mem_headsOf hr hc).1 hx
      exact hr.ok he
    · obtain ⟨e, he, rfl, _⟩ := (mem_headsOf hr hc).1 hx
      have := hlast e he hh.1
      have := hh.2
      simp only at this
      omega
  · have h1 : e.id.r = r := by rw [hx]; rfl
    have h2 : e.id.n = (cnt r l : Int) + 1 := by rw [hx]; rfl
    have := hlast e he h1
    omega
  · obtain ⟨e, he, hx, _⟩ := (mem_headsOf hr hc).1 hy
    exact ⟨e, he, hx⟩
theorem app_beside {s : Site'} (h : SiteR s) {c : Int} {t : ByteArray} (hn : nextErr s.region s.log c t = 0) : Beside (s.log ++ [newE s.region s.log c t]) s.waits := by
  refine ⟨h.log.snoc (newE_behind h.log h.reg hn), h.err, fun x hx e he => ?_, h.sort.imp less_ne⟩
  rcases List.mem_append.1 he with he | he
  · exact h.new x hx e he
  · have : e = newE s.region s.log c t := by simpa using he
    intro k
    rw [this] at k
    exact h.far x hx (by rw [← k]; rfl)
theorem app_comes {s : Site'} (h : SiteR s) {c : Int} {t : ByteArray} (hn : nextErr s.region s.log c t = 0) : appErr s c t = 0 ∧ appAns s c t = ⟨s.region, (madeS s c t).1, (madeS s c t).2⟩ ∧ SiteR (appAns s c t) ∧ appE s c t = newE s.region s.log c t := by
  have hR : SiteR ⟨s.region, (madeS s c t).1, (madeS s c t).2⟩ := settle_right h.reg (app_beside h hn) h.far h.sort
  have hz : roomErr (madeS s c t) = 0 := room_zero hR
  have hE : appErr s c t = 0 := by unfold appErr; rw [if_neg (by simp [siteErr_iff.2 h]), if_neg (by simp [hn]), hz]
  have hA : appAns s c t = ⟨s.region, (madeS s c t).1, (madeS s c t).2⟩ := by unfold appAns; rw [hE, if_neg (by decide)]
  exact ⟨hE, hA, by rw [hA]; exact hR, by unfold appE; rw [hE, if_neg (by decide)]⟩
theorem appErr_zero {s : Site'} {c : Int} {t : ByteArray} (h : appErr s c t = 0) : SiteR s ∧ nextErr s.region s.log c t = 0 := by
  unfold appErr at h
  split at h
  · rename_i h1; exact absurd h h1
  · rename_i h1
    split at h
    · rename_i h2; exact absurd h h2
    · rename_i h2; exact ⟨siteErr_iff.1 (by simpa using h1), by simpa using h2⟩
/-- Of a site of which Check has nothing to say. -/
theorem appErr_next {s : Site'} (h : SiteR s) (c : Int) (t : ByteArray) : appErr s c t = nextErr s.region s.log c t := by
  by_cases hn : nextErr s.region s.log c t = 0
  · rw [(app_comes h hn).1, hn]
  · unfold appErr; rw [if_neg (by simp [siteErr_iff.2 h]), if_pos hn]
theorem app_right {s : Site'} {c : Int} {t : ByteArray} (h : appErr s c t = 0) : SiteR (appAns s c t) := by
  obtain ⟨h1, h2⟩ := appErr_zero h
  exact (app_comes h1 h2).2.2.1
theorem app_ext {s : Site'} {c : Int} {t : ByteArray} (h : appErr s c t = 0) : (∃ u, (appAns s c t).log = s.log ++ newE s.region s.log c t :: u) ∧ (appAns s c t).region = s.region ∧ (s.waits = [] → (appAns s c t).log = s.log ++ [newE s.region s.log c t]) := by
  obtain ⟨h1, h2⟩ := appErr_zero h
  rw [(app_comes h1 h2).2.1]
  obtain ⟨u, hu⟩ := (settle_after (app_beside h1 h2)).1.ext
  refine ⟨⟨u, by show (madeS s c t).1 = _; unfold madeS; rw [hu, List.append_assoc]; rfl⟩, rfl, fun hw => ?_⟩
  show (madeS s c t).1 = _
  unfold madeS
  rw [settle_none (by rw [hw]; rfl)]
/-- It links to all that has its colors, or to what links to that. -/
theorem app_links {s : Site'} {c : Int} {t : ByteArray} (h : appErr s c t = 0) {e : Entry'} (he : e ∈ s.log) (hm : meets e.colors c = true) : Anc (appAns s c t).log (newE s.region s.log c t).id e.id := by
  obtain ⟨h1, h2⟩ := appErr_zero h
  obtain ⟨hc, _⟩ := nextErr_zero h2
  obtain ⟨⟨u, hu⟩, _⟩ := app_ext h
  have hin : newE s.region s.log c t ∈ (appAns s c t).log := by rw [hu]; simp
  have hsub : ∀ e ∈ s.log, e ∈ (appAns s c t).log := fun e he => by rw [hu]; simp [he]
  rcases heads_cover h1.log hc he hm with k | ⟨x, hx, k⟩
  · exact .link hin k
  · exact .step hin hx (k.mono hsub)
/-- What is in the past of one of a beginning is so in that beginning. -/
theorem Anc.back {l u : List Entry'} (hr : Right (l ++ u)) {x y : Id} (hx : ∃ e ∈ l, e.id = x) (h : Anc (l ++ u) x y) : Anc l x y := by
  obtain ⟨e, he, rfl⟩ := hx
  obtain ⟨i, hi, rfl⟩ := List.getElem_of_mem he
  obtain ⟨j, hj, _, _, h5⟩ := h.ahead hr i (by rw [List.length_append]; omega) (by rw [List.getElem_append_left hi])
  refine h5.mono fun e he => ?_
  rw [List.take_append_of_le_length (by omega)] at he
  exact List.mem_of_mem_take he
end Go.Proofs.YtlioojekjnigiafGreat.AM
/- Sites: what a site writes of its own, as the document says. -/
namespace Go.Proofs.YtlioojekjnigiafGreat.AM
set_option linter.unusedVariables false
set_option linter.unusedSimpArgs false

theorem full_next {s : Site'} (h : SiteR s) (hl : s.log.length = 40) : 20 < cnt s.region s.log + 1 := by
  have h0 := cnt_all h.log.regs
  have h1 := h.log.cnt_twenty 0
  have h2 := h.log.cnt_twenty 1
  rcases h.reg with e | e <;> rw [e] <;> omega
set_option maxHeartbeats 0 in
theorem appendOf_ok (s : Site') (hR : SiteR s) (c : Int) (t : ByteArray) : PCall Tryz.prog 124 [s.arg, dInt c, .dat (.str t)] (.tup [(appAns s c t).arg, (appE s c t).arg, dInt (appErr s c t)]) := by
  have hll := hR.log.len
  have hwl := hR.len
  have hn := appErr_next hR c t
  have hbt := between_ok c 1 7
  have hcn := cnt_le s.region s.log
  have c0 := cnt_le 0 s.log
  have c1 := cnt_le 1 s.log
  refine pcall_cut tab_all tab_mixed Tryz.func124 (by kernel_rfl) Tryz.ntmps124 rfl ?_
  conv => whnf
  conv => whnf
  repeat (first | (refine Conf.mk (by kernel_rfl) ?_; conv => whnf) | (refine SeqOk.go ?_; conv => whnf))
  by_cases hc : 1 ≤ c ∧ c ≤ 7
  · rw [show (decide (1 ≤ c) && decide (c ≤ 7)) = true by simp; omega] at hbt
    refine .data _ _ hbt.kb rfl ?_
    conv => whnf
    repeat (first | (refine Conf.mk (by kernel_rfl) ?_; conv => whnf) | (refine SeqOk.go ?_; conv => whnf))
    refine .data _ _ (countOf_ok s.log (by omega) hR.log.regs) rfl ?_
    conv => whnf
    repeat (first | (refine Conf.mk (by kernel_rfl) ?_; conv => whnf) | (refine SeqOk.go ?_; conv => whnf))
    rcases hR.reg with h1 | h1
    · refine .mk 0 h1 (by decide) ?_
      have hw : IntKind.i64.wrap ((cnt 0 s.log : Int) + 1) = (cnt s.region s.log : Int) + 1 := by rw [wrap_id (by omega) (by omega), h1]
      conv => whnf
      repeat (first | (refine Conf.mk (by kernel_rfl) ?_; conv => whnf) | (refine SeqOk.go ?_; conv => whnf))
      refine .data _ _ (headsOf_ok s.log hR.log c hc) rfl ?_
      rw [hw]
      conv => whnf
      repeat (first | (refine Conf.mk (by kernel_rfl) ?_; conv => whnf) | (refine SeqOk.go ?_; conv => whnf))
      refine ⟨fun h2 => ?_, fun h2 => ?_⟩
      · have hm : 12 < t.size ∨ 20 < cnt s.region s.log + 1 ∨ 6 < (headsOf c s.log).length := .inl (by simp at h2; omega)
        have hE : nextErr s.region s.log c t = 2 := by unfold nextErr; rw [if_neg (by omega), if_pos hm]
        rw [hE] at hn
        have hA : appAns s c t = ⟨0, [], []⟩ := by unfold appAns; rw [hn, if_pos (by decide)]
        have hN : appE s c t = zeroE := by unfold appE; rw [hn, if_pos (by decide)]
        conv => whnf
        repeat (first | (refine Conf.mk (by kernel_rfl) ?_; conv => whnf) | (refine SeqOk.go ?_; conv => whnf))
        exact Ret.to (by rw [hA, hN, hn]; rfl)
      · have h2 : ¬ 12 < t.size := by simp at h2; omega
        conv => whnf
        repeat (first | (refine Conf.mk (by kernel_rfl) ?_; conv => whnf) | (refine SeqOk.go ?_; conv => whnf))
        refine ⟨fun h3 => ?_, fun h3 => ?_⟩
        · have hm : 12 < t.size ∨ 20 < cnt s.region s.log + 1 ∨ 6 < (headsOf c s.log).length := .inr (.inl (by simp at h3; omega))
          have hE : nextErr s.region s.log c t = 2 := by unfold nextErr; rw [if_neg (by omega), if_pos hm]
          rw [hE] at hn
          have hA : appAns s c t = ⟨0, [], []⟩ := by unfold appAns; rw [hn, if_pos (by decide)]
          have hN : appE s c t = zeroE := by unfold appE; rw [hn, if_pos (by decide)]
          conv => whnf
          repeat (first | (refine Conf.mk (by kernel_rfl) ?_; conv => whnf) | (refine SeqOk.go ?_; conv => whnf))
          exact Ret.to (by rw [hA, hN, hn]; rfl)
        · have h3 : ¬ 20 < cnt s.region s.log + 1 := by simp at h3; omega
          conv => whnf
          repeat (first | (refine Conf.mk (by kernel_rfl) ?_; conv => whnf) | (refine SeqOk.go ?_; conv => whnf))
          refine ⟨fun h4 => ?_, fun h4 => ?_⟩
          · have h4 : s.log.length = 40 := by simp at h4; omega
            exact absurd (full_next hR h4) h3
          · conv => whnf
            repeat (first | (refine Conf.mk (by kernel_rfl) ?_; conv => whnf) | (refine SeqOk.go ?_; conv => whnf))
            refine ⟨fun h5 => ?_, fun h5 => ?_⟩
            · have hm : 12 < t.size ∨ 20 < cnt s.region s.log + 1 ∨ 6 < (headsOf c s.log).length := .inr (.inr (by simp at h5; omega))
              have hE : nextErr s.region s.log c t = 2 := by unfold nextErr; rw [if_neg (by omega), if_pos hm]
              rw [hE] at hn
              have hA : appAns s c t = ⟨0, [], []⟩ := by unfold appAns; rw [hn, if_pos (by decide)]
              have hN : appE s c t = zeroE := by unfold appE; rw [hn, if_pos (by decide)]
              conv => whnf
              repeat (first | (refine Conf.mk (by kernel_rfl) ?_; conv => whnf) | (refine SeqOk.go ?_; conv => whnf))
              exact Ret.to (by rw [hA, hN, hn]; rfl)
            · have h5 : ¬ 6 < (headsOf c s.log).length := by simp at h5; omega
              have hE : nextErr s.region s.log c t = 0 := by unfold nextErr; rw [if_neg (by omega), if_neg (by simp only [not_or]; exact ⟨h2, h3, h5⟩)]
              obtain ⟨hz, hA, hS, hN⟩ := app_comes hR hE
              have hcon := settled_ok ⟨s.region, s.log ++ [newE s.region s.log c t], s.waits⟩ (by show s.waits.length ≤ 1000; omega) (app_beside hR hE)
              rw [show (⟨s.region, s.log ++ [newE s.region s.log c t], s.waits⟩ : Site').arg = .agg [dInt s.region, .dat (.list (s.log.map Entry'.enc ++ [(newE s.region s.log c t).enc])), .dat (.list (s.waits.map Entry'.enc))] by unfold Site'.arg; rw [List.map_append]; rfl] at hcon
              conv => whnf
              repeat (first | (refine Conf.mk (by kernel_rfl) ?_; conv => whnf) | (refine SeqOk.go ?_; conv => whnf))
              refine ⟨by simp [Entry'.enc], by simp; omega, ?_⟩
              conv => whnf
              repeat (first | (refine Conf.mk (by kernel_rfl) ?_; conv => whnf) | (refine SeqOk.go ?_; conv => whnf))
              refine ⟨by simp [Entry'.enc], by simp; omega, ?_⟩
              conv => whnf
              repeat (first | (refine Conf.mk (by kernel_rfl) ?_; conv => whnf) | (refine SeqOk.go ?_; conv => whnf))
              refine .keep [6] _ _ hcon rfl rfl rfl rfl ?_
              conv => whnf
              repeat (first | (refine Conf.mk (by kernel_rfl) ?_; conv => whnf) | (refine SeqOk.go ?_; conv => whnf))
              exact Ret.to (by rw [hA, hN, hz]; rfl)
    · refine .mk 1 h1 (by decide) ?_
      have hw : IntKind.i64.wrap ((cnt 1 s.log : Int) + 1) = (cnt s.region s.log : Int) + 1 := by rw [wrap_id (by omega) (by omega), h1]
      conv => whnf
      repeat (first | (refine Conf.mk (by kernel_rfl) ?_; conv => whnf) | (refine SeqOk.go ?_; conv => whnf))
      refine .data _ _ (headsOf_ok s.log hR.log c hc) rfl ?_
      rw [hw]
      conv => whnf
      repeat (first | (refine Conf.mk (by kernel_rfl) ?_; conv => whnf) | (refine SeqOk.go ?_; conv => whnf))
      refine ⟨fun h2 => ?_, fun h2 => ?_⟩
      · have hm : 12 < t.size ∨ 20 < cnt s.region s.log + 1 ∨ 6 < (headsOf c s.log).length := .inl (by simp at h2; omega)
        have hE : nextErr s.region s.log c t = 2 := by unfold nextErr; rw [if_neg (by omega), if_pos hm]
        rw [hE] at hn
        have hA : appAns s c t = ⟨0, [], []⟩ := by unfold appAns; rw [hn, if_pos (by decide)]
        have hN : appE s c t = zeroE := by unfold appE; rw [hn, if_pos (by decide)]
        conv => whnf
        repeat (first | (refine Conf.mk (by kernel_rfl) ?_; conv => whnf) | (refine SeqOk.go ?_; conv => whnf))
        exact Ret.to (by rw [hA, hN, hn]; rfl)
      · have h2 : ¬ 12 < t.size := by simp at h2; omega
        conv => whnf
        repeat (first | (refine Conf.mk (by kernel_rfl) ?_; conv => whnf) | (refine SeqOk.go ?_; conv => whnf))
        refine ⟨fun h3 => ?_, fun h3 => ?_⟩
        · have hm : 12 < t.size ∨ 20 < cnt s.region s.log + 1 ∨ 6 < (headsOf c s.log).length := .inr (.inl (by simp at h3; omega))
          have hE : nextErr s.region s.log c t = 2 := by unfold nextErr; rw [if_neg (by omega), if_pos hm]
          rw [hE] at hn
          have hA : appAns s c t = ⟨0, [], []⟩ := by unfold appAns; rw [hn, if_pos (by decide)]
          have hN : appE s c t = zeroE := by unfold appE; rw [hn, if_pos (by decide)]
          conv => whnf
          repeat (first | (refine Conf.mk (by kernel_rfl) ?_; conv => whnf) | (refine SeqOk.go ?_; conv => whnf))
          exact Ret.to (by rw [hA, hN, hn]; rfl)
        · have h3 : ¬ 20 < cnt s.region s.log + 1 := by simp at h3; omega
          conv => whnf
          repeat (first | (refine Conf.mk (by kernel_rfl) ?_; conv => whnf) | (refine SeqOk.go ?_; conv => whnf))
          refine ⟨fun h4 => ?_, fun h4 => ?_⟩
          · have h4 : s.log.length = 40 := by simp at h4; omega
            exact absurd (full_next hR h4) h3
          · conv => whnf
            repeat (first | (refine Conf.mk (by kernel_rfl) ?_; conv => whnf) | (refine SeqOk.go ?_; conv => whnf))
            refine ⟨fun h5 => ?_, fun h5 => ?_⟩
            · have hm : 12 < t.size ∨ 20 < cnt s.region s.log + 1 ∨ 6 < (headsOf c s.log).length := .inr (.inr (by simp at h5; omega))
              have hE : nextErr s.region s.log c t = 2 := by unfold nextErr; rw [if_neg (by omega), if_pos hm]
              rw [hE] at hn
              have hA : appAns s c t = ⟨0, [], []⟩ := by unfold appAns; rw [hn, if_pos (by decide)]
              have hN : appE s c t = zeroE := by unfold appE; rw [hn, if_pos (by decide)]
              conv => whnf
              repeat (first | (refine Conf.mk (by kernel_rfl) ?_; conv => whnf) | (refine SeqOk.go ?_; conv => whnf))
              exact Ret.to (by rw [hA, hN, hn]; rfl)
            · have h5 : ¬ 6 < (headsOf c s.log).length := by simp at h5; omega
              have hE : nextErr s.region s.log c t = 0 := by unfold nextErr; rw [if_neg (by omega), if_neg (by simp only [not_or]; exact ⟨h2, h3, h5⟩)]
              obtain ⟨hz, hA, hS, hN⟩ := app_comes hR hE
              have hcon := settled_ok ⟨s.region, s.log ++ [newE s.region s.log c t], s.waits⟩ (by show s.waits.length ≤ 1000; omega) (app_beside hR hE)
              rw [show (⟨s.region, s.log ++ [newE s.region s.log c t], s.waits⟩ : Site').arg = .agg [dInt s.region, .dat (.list (s.log.map Entry'.enc ++ [(newE s.region s.log c t).enc])), .dat (.list (s.waits.map Entry'.enc))] by unfold Site'.arg; rw [List.map_append]; rfl] at hcon
              conv => whnf
              repeat (first | (refine Conf.mk (by kernel_rfl) ?_; conv => whnf) | (refine SeqOk.go ?_; conv => whnf))
              refine ⟨by simp [Entry'.enc], by simp; omega, ?_⟩
              conv => whnf
              repeat (first | (refine Conf.mk (by kernel_rfl) ?_; conv => whnf) | (refine SeqOk.go ?_; conv => whnf))
              refine ⟨by simp [Entry'.enc], by simp; omega, ?_⟩
              conv => whnf
              repeat (first | (refine Conf.mk (by kernel_rfl) ?_; conv => whnf) | (refine SeqOk.go ?_; conv => whnf))
              refine .keep [6] _ _ hcon rfl rfl rfl rfl ?_
              conv => whnf
              repeat (first | (refine Conf.mk (by kernel_rfl) ?_; conv => whnf) | (refine SeqOk.go ?_; conv => whnf))
              exact Ret.to (by rw [hA, hN, hz]; rfl)
  · rw [show (decide (1 ≤ c) && decide (c ≤ 7)) = false by simp; omega] at hbt
    have hE : nextErr s.region s.log c t = 3 := by unfold nextErr; rw [if_pos (by omega)]
    rw [hE] at hn
    have hA : appAns s c t = ⟨0, [], []⟩ := by unfold appAns; rw [hn, if_pos (by decide)]
    have hN : appE s c t = zeroE := by unfold appE; rw [hn, if_pos (by decide)]
    refine .data _ _ hbt.kb rfl ?_
    conv => whnf
    repeat (first | (refine Conf.mk (by kernel_rfl) ?_; conv => whnf) | (refine SeqOk.go ?_; conv => whnf))
    exact Ret.to (by rw [hA, hN, hn]; rfl)
end Go.Proofs.YtlioojekjnigiafGreat.AM
/- Sites: what must be in any case. -/
namespace Go.Proofs.YtlioojekjnigiafGreat.AM
set_option linter.unusedVariables false
set_option linter.unusedSimpArgs false

def sA : Site' := ⟨1, [], []⟩
def sB : Site' := ⟨1, [], [someLog[2]]⟩
def sC : Site' := ⟨1, [someLog[0], someLog[2]], []⟩
def eX : Entry' := ⟨⟨1, 1⟩, 4, ⟨#[116]⟩, []⟩
def eY : Entry' := ⟨⟨1, 2⟩, 1, ⟨#[117]⟩, [⟨0, 2⟩]⟩
def sD : Site' := ⟨1, [someLog[0], someLog[2], eX], []⟩
def sE : Site' := ⟨1, [someLog[0], someLog[2], eX, eY], []⟩
set_option maxHeartbeats 0 in
theorem siteBegun_ok : PCall Tryz.prog 7 [] (dBool true) := by
  have kA : SiteOk sA := ⟨⟨by decide, by decide⟩, ⟨by decide, by decide⟩⟩
  have kB : SiteOk sB := ⟨⟨by decide, by decide⟩, ⟨by decide, by decide⟩⟩
  have kC : SiteOk sC := ⟨⟨by decide, by decide⟩, ⟨by decide, by decide⟩⟩
  have kD : SiteOk sD := ⟨⟨by decide, by decide⟩, ⟨by decide, by decide⟩⟩
  have kE : SiteOk sE := ⟨⟨by decide, by decide⟩, ⟨by decide, by decide⟩⟩
  have h1 := siteNew_ok 1
  rw [show newSite 1 = sA from by kernel_rfl, show newErr 1 = 0 from by kernel_rfl] at h1
  have h2 := Receive_ok sA kA someLog[2] (by decide)
  rw [show recvAns sA someLog[2] = sB from by kernel_rfl, show recvErr sA someLog[2] = 0 from by kernel_rfl] at h2
  have h3 := Receive_ok sB kB someLog[0] (by decide)
  rw [show recvAns sB someLog[0] = sC from by kernel_rfl, show recvErr sB someLog[0] = 0 from by kernel_rfl] at h3
  have h4 := Append_ok sC kC 4 ⟨#[116]⟩
  rw [show appAns sC 4 ⟨#[116]⟩ = sD from by kernel_rfl, show appErr sC 4 ⟨#[116]⟩ = 0 from by kernel_rfl, show appE sC 4 ⟨#[116]⟩ = eX from by kernel_rfl] at h4
  have h5 := Append_ok sD kD 1 ⟨#[117]⟩
  rw [show appAns sD 1 ⟨#[117]⟩ = sE from by kernel_rfl, show appErr sD 1 ⟨#[117]⟩ = 0 from by kernel_rfl, show appE sD 1 ⟨#[117]⟩ = eY from by kernel_rfl] at h5
  have h6 := siteCheck_ok sE kE
  rw [show siteErr sE = 0 from by kernel_rfl] at h6
  refine pcall_intro tab_all tab_mixed Tryz.func7 (by kernel_rfl) Tryz.ntmps7 rfl ?_
  conv => whnf
  refine .data _ _ h1 rfl ?_
  conv => whnf
  repeat (first | (refine Conf.mk (by kernel_rfl) ?_; conv => whnf) | (refine SeqOk.go ?_; conv => whnf))
  refine .data _ _ entries_ok rfl ?_
  conv => whnf
  repeat (first | (refine Conf.mk (by kernel_rfl) ?_; conv => whnf) | (refine SeqOk.go ?_; conv => whnf))
  refine AtIdx.ofMap (l := someLog) (i := 2) (by decide) rfl ?_
  conv => whnf
  repeat (first | (refine Conf.mk (by kernel_rfl) ?_; conv => whnf) | (refine SeqOk.go ?_; conv => whnf))
  refine .data _ _ h2 rfl ?_
  conv => whnf
  repeat (first | (refine Conf.mk (by kernel_rfl) ?_; conv => whnf) | (refine SeqOk.go ?_; conv => whnf))
  refine .data _ _ entries_ok rfl ?_
  conv => whnf
  repeat (first | (refine Conf.mk (by kernel_rfl) ?_; conv => whnf) | (refine SeqOk.go ?_; conv => whnf))
  refine AtIdx.ofMap (l := someLog) (i := 0) (by decide) rfl ?_
  conv => whnf
  repeat (first | (refine Conf.mk (by kernel_rfl) ?_; conv => whnf) | (refine SeqOk.go ?_; conv => whnf))
  refine .data _ _ h3 rfl ?_
  conv => whnf
  repeat (first | (refine Conf.mk (by kernel_rfl) ?_; conv => whnf) | (refine SeqOk.go ?_; conv => whnf))
  refine .data _ _ h4 rfl ?_
  conv => whnf
  repeat (first | (refine Conf.mk (by kernel_rfl) ?_; conv => whnf) | (refine SeqOk.go ?_; conv => whnf))
  refine .data _ _ h5 rfl ?_
  conv => whnf
  repeat (first | (refine Conf.mk (by kernel_rfl) ?_; conv => whnf) | (refine SeqOk.go ?_; conv => whnf))
  refine BoolCase.yes rfl ?_
  conv => whnf
  repeat (first | (refine Conf.mk (by kernel_rfl) ?_; conv => whnf) | (refine SeqOk.go ?_; conv => whnf))
  refine BoolCase.yes rfl ?_
  conv => whnf
  repeat (first | (refine Conf.mk (by kernel_rfl) ?_; conv => whnf) | (refine SeqOk.go ?_; conv => whnf))
  refine BoolCase.yes rfl ?_
  conv => whnf
  repeat (first | (refine Conf.mk (by kernel_rfl) ?_; conv => whnf) | (refine SeqOk.go ?_; conv => whnf))
  refine BoolCase.yes rfl ?_
  conv => whnf
  repeat (first | (refine Conf.mk (by kernel_rfl) ?_; conv => whnf) | (refine SeqOk.go ?_; conv => whnf))
  refine BoolCase.yes rfl ?_
  conv => whnf
  repeat (first | (refine Conf.mk (by kernel_rfl) ?_; conv => whnf) | (refine SeqOk.go ?_; conv => whnf))
  refine .data _ _ h6 rfl ?_
  conv => whnf
  repeat (first | (refine Conf.mk (by kernel_rfl) ?_; conv => whnf) | (refine SeqOk.go ?_; conv => whnf))
  refine BoolCase.yes rfl ?_
  conv => whnf
  repeat (first | (refine Conf.mk (by kernel_rfl) ?_; conv => whnf) | (refine SeqOk.go ?_; conv => whnf))
  refine BoolCase.yes rfl ?_
  conv => whnf
  repeat (first | (refine Conf.mk (by kernel_rfl) ?_; conv => whnf) | (refine SeqOk.go ?_; conv => whnf))
  refine BoolCase.yes rfl ?_
  conv => whnf
  repeat (first | (refine Conf.mk (by kernel_rfl) ?_; conv => whnf) | (refine SeqOk.go ?_; conv => whnf))
  refine BoolCase.yes rfl ?_
  conv => whnf
  repeat (first | (refine Conf.mk (by kernel_rfl) ?_; conv => whnf) | (refine SeqOk.go ?_; conv => whnf))
  refine BoolCase.yes rfl ?_
  conv => whnf
  repeat (first | (refine Conf.mk (by kernel_rfl) ?_; conv => whnf) | (refine SeqOk.go ?_; conv => whnf))
  refine BoolCase.yes rfl ?_
  conv => whnf
  repeat (first | (refine Conf.mk (by kernel_rfl) ?_; conv => whnf) | (refine SeqOk.go ?_; conv => whnf))
  refine .data _ _ (id_ok _ _) rfl ?_
  conv => whnf
  repeat (first | (refine Conf.mk (by kernel_rfl) ?_; conv => whnf) | (refine SeqOk.go ?_; conv => whnf))
  refine .look _ _ (same_ok [⟨0, 2⟩] (by decide)) rfl rfl ?_
  conv => whnf
  repeat (first | (refine Conf.mk (by kernel_rfl) ?_; conv => whnf) | (refine SeqOk.go ?_; conv => whnf))
  refine .data _ _ (id_ok _ _) rfl ?_
  conv => whnf
  repeat (first | (refine Conf.mk (by kernel_rfl) ?_; conv => whnf) | (refine SeqOk.go ?_; conv => whnf))
  exact Ret.bool rfl
end Go.Proofs.YtlioojekjnigiafGreat.AM
/- Sites: all calls of them answer as the document says. -/
namespace Go.Proofs.YtlioojekjnigiafGreat.AM
set_option linter.unusedVariables false
set_option linter.unusedSimpArgs false

theorem zero_siteOk : SiteOk ⟨0, [], []⟩ := ⟨⟨by decide, by simp⟩, ⟨by decide, by simp⟩⟩
theorem SiteR.ok {s : Site'} (h : SiteR s) : SiteOk s := ⟨h.log.logOk, ⟨by have := h.len; omega, fun e he => by have := (six_of (h.err e he)).2; omega⟩⟩
theorem recv_zero {s : Site'} {e : Entry'} (h : recvErr s e ≠ 0) : recvAns s e = ⟨0, [], []⟩ := by unfold recvAns; rw [if_pos h]
theorem app_zero {s : Site'} {c : Int} {t : ByteArray} (h : appErr s c t ≠ 0) : appAns s c t = ⟨0, [], []⟩ ∧ appE s c t = zeroE := by unfold appAns appE; rw [if_pos h, if_pos h]; exact ⟨rfl, rfl⟩
theorem recv_siteOk (s : Site') (e : Entry') : SiteOk (recvAns s e) := by
  by_cases h : recvErr s e = 0
  · exact (recv_right h).ok
  · rw [recv_zero h]; exact zero_siteOk
theorem app_siteOk (s : Site') (c : Int) (t : ByteArray) : SiteOk (appAns s c t) := by
  by_cases h : appErr s c t = 0
  · exact (app_right h).ok
  · rw [(app_zero h).1]; exact zero_siteOk
theorem appE_len (s : Site') (c : Int) (t : ByteArray) : (appE s c t).links.length ≤ 6 := by
  by_cases h : appErr s c t = 0
  · obtain ⟨h1, h2⟩ := appErr_zero h
    rw [(app_comes h1 h2).2.2.2]
    exact (nextErr_zero h2).2.2.2
  · rw [(app_zero h).2]; exact Nat.zero_le _
theorem sameEntry_kb (a : Entry') (ha : a.links.length ≤ 140737488355328) : PCall Tryz.prog 66 [a.arg, a.arg] (.kb true) := by
  have h := sameEntry_ok a a ha
  rw [sameE_iff.2 rfl] at h
  exact h.kb
end Go.Proofs.YtlioojekjnigiafGreat.AM
/- Worlds: entries just so; what is wrong with sites, and with a way. -/
namespace Go.Proofs.YtlioojekjnigiafGreat.AM
set_option linter.unusedVariables false
set_option linter.unusedSimpArgs false

structure World' where
  sites : List Site'
  ways : List (List Entry')
def wayEnc (l : List Entry') : List D := [.list (l.map Entry'.enc)]
def World'.enc (w : World') : List D := [.list (w.sites.map Site'.enc), .list (w.ways.map wayEnc)]
def World'.arg (w : World') : AVal := .agg [.dat (.list (w.sites.map Site'.enc)), .dat (.list (w.ways.map wayEnc))]
set_option maxHeartbeats 0 in
theorem equalIds_ok (a b : List Id) (h : a.length ≤ 140737488355327) : PCall Tryz.prog 215 [.dat (.list (a.map Id.enc)), .dat (.list (b.map Id.enc))] (dBool (sameIds a b)) := by
  refine pcall_cut tab_all tab_mixed Tryz.func215 (by kernel_rfl) Tryz.ntmps215 rfl ?_
  conv => whnf
  conv => whnf
  repeat (first | (refine Conf.mk (by kernel_rfl) ?_; conv => whnf) | (refine SeqOk.go ?_; conv => whnf))
  by_cases hl : a.length = b.length
  · refine BoolCase.no (by simp [hl]) ?_
    conv => whnf
    repeat (first | (refine Conf.mk (by kernel_rfl) ?_; conv => whnf) | (refine SeqOk.go ?_; conv => whnf))
    refine LoopOk.hide fun Q1 hQ1 => ?_
    refine LoopOk.mk (fun m s => ∃ i, i + m = a.length ∧ sameIds a b = sameIds (a.drop i) (b.drop i) ∧ s = ⟨[(13, dInt i), (12, dInt (a.map Id.enc).length), (0, .dat (.list (a.map Id.enc))), (1, .dat (.list (b.map Id.enc)))], 0, []⟩) a.length (Into.mono (Into.to [] [(13, dInt (0 : Nat)), (12, dInt (a.map Id.enc).length), (0, .dat (.list (a.map Id.enc))), (1, .dat (.list (b.map Id.enc)))] [] (by repeat (first | exact trivial | refine ⟨.same (congrArg dInt (wrap_up (by omega))), ?_⟩ | refine ⟨.same rfl, ?_⟩ | refine ⟨.any _, ?_⟩)) trivial rfl rfl) fun s' h => ⟨0, by omega, rfl, h⟩) ?_
    rintro m s ⟨i, him, hp, rfl⟩
    conv => whnf
    repeat (first | (refine Conf.mk (by kernel_rfl) ?_; conv => whnf) | (refine SeqOk.go ?_; conv => whnf))
    refine ⟨fun h => ?_, fun h => ?_⟩
    · have hi := lt_of_len h
      have hj : i < b.length := by omega
      rw [List.drop_eq_getElem_cons hi, List.drop_eq_getElem_cons hj, sameIds] at hp
      conv => whnf
      repeat (first | (refine Conf.mk (by kernel_rfl) ?_; conv => whnf) | (refine SeqOk.go ?_; conv => whnf))
      refine AtIdx.ofMap hi rfl ?_
      conv => whnf
      repeat (first | (refine Conf.mk (by kernel_rfl) ?_; conv => whnf) | (refine SeqOk.go ?_; conv => whnf))
      refine AtIdx.ofMap hj rfl ?_
      conv => whnf
      repeat (first | (refine Conf.mk (by kernel_rfl) ?_; conv => whnf) | (refine SeqOk.go ?_; conv => whnf))
      refine ⟨fun h1 => ?_, fun h1 => ?_⟩
      · have h1 : isId2 a[i] b[i] = false := (Bool.not_eq_true' _).mp h1
        conv => whnf
        repeat (first | (refine Conf.mk (by kernel_rfl) ?_; conv => whnf) | (refine SeqOk.go ?_; conv => whnf))
        subst hQ1
        conv => whnf
        exact Ret.bool (by rw [hp, h1]; rfl)
      · have h1 : isId2 a[i] b[i] = true := (Bool.not_eq_false' (b := isId2 a[i] b[i])).mp h1
        conv => whnf
        repeat (first | (refine Conf.mk (by kernel_rfl) ?_; conv => whnf) | (refine SeqOk.go ?_; conv => whnf))
        exact Into.mono (Into.to [] [(13, dInt (i + 1 : Nat)), (12, dInt (a.map Id.enc).length), (0, .dat (.list (a.map Id.enc))), (1, .dat (.list (b.map Id.enc)))] [] (by repeat (first | exact trivial | refine ⟨.same (congrArg dInt (wrap_up (by omega))), ?_⟩ | refine ⟨.same rfl, ?_⟩ | refine ⟨.any _, ?_⟩)) trivial rfl rfl) fun s' h => ⟨m - 1, by omega, i + 1, by omega, by rw [hp, h1, Bool.true_and], h⟩
    · have hi := ge_of_len h
      conv => whnf
      repeat (first | (refine Conf.mk (by kernel_rfl) ?_; conv => whnf) | (refine SeqOk.go ?_; conv => whnf))
      subst hQ1
      conv => whnf
      exact Ret.bool (by rw [hp, List.drop_eq_nil_of_le hi, List.drop_eq_nil_of_le (by omega)]; rfl)
  · refine BoolCase.yes (by simp; omega) ?_
    conv => whnf
    repeat (first | (refine Conf.mk (by kernel_rfl) ?_; conv => whnf) | (refine SeqOk.go ?_; conv => whnf))
    refine Ret.bool ?_
    have : ¬ sameIds a b = true := fun h => hl (by rw [sameIds_iff.1 h])
    simp [this]
set_option maxHeartbeats 0 in
theorem isSame_ok (a b : Entry') (ha : a.links.length ≤ 140737488355327) : PCall Tryz.prog 133 [a.arg, b.arg] (dBool (sameE a b)) := by
  have he := equalIds_ok a.links b.links ha
  have hb : sameE a b = (isThe b.id a && (a.colors == b.colors && (decide (a.text = b.text) && sameIds a.links b.links))) := rfl
  refine pcall_cut tab_all tab_mixed Tryz.func133 (by kernel_rfl) Tryz.ntmps133 rfl ?_
  conv => whnf
  conv => whnf
  repeat (first | (refine Conf.mk (by kernel_rfl) ?_; conv => whnf) | (refine SeqOk.go ?_; conv => whnf))
  refine ⟨fun h1 => ?_, fun h1 => ?_⟩
  · have h1 : isThe b.id a = true := h1
    conv => whnf
    repeat (first | (refine Conf.mk (by kernel_rfl) ?_; conv => whnf) | (refine SeqOk.go ?_; conv => whnf))
    refine ⟨fun h2 => ?_, fun h2 => ?_⟩
    · conv => whnf
      repeat (first | (refine Conf.mk (by kernel_rfl) ?_; conv => whnf) | (refine SeqOk.go ?_; conv => whnf))
      refine ⟨fun h3 => ?_, fun h3 => ?_⟩
      · conv => whnf
        repeat (first | (refine Conf.mk (by kernel_rfl) ?_; conv => whnf) | (refine SeqOk.go ?_; conv => whnf))
        refine .data _ _ he rfl ?_
        conv => whnf
        repeat (first | (refine Conf.mk (by kernel_rfl) ?_; conv => whnf) | (refine SeqOk.go ?_; conv => whnf))
        exact Ret.bool (by rw [hb, h1, h2, h3]; rfl)
      · conv => whnf
        repeat (first | (refine Conf.mk (by kernel_rfl) ?_; conv => whnf) | (refine SeqOk.go ?_; conv => whnf))
        exact Ret.bool (by rw [hb, h3, Bool.false_and, Bool.and_false, Bool.and_false])
    · conv => whnf
      repeat (first | (refine Conf.mk (by kernel_rfl) ?_; conv => whnf) | (refine SeqOk.go ?_; conv => whnf))
      exact Ret.bool (by rw [hb, h2, Bool.false_and, Bool.and_false])
  · have h1 : isThe b.id a = false := h1
    conv => whnf
    repeat (first | (refine Conf.mk (by kernel_rfl) ?_; conv => whnf) | (refine SeqOk.go ?_; conv => whnf))
    exact Ret.bool (by rw [hb, h1, Bool.false_and])
def logOf (ss : List Site') (r : Int) : List Entry' := match ss[r.toNat]? with
  | some s => s.log
  | none => []
/-- Does an entry stand just so in the log of the site of its region? -/
def bornP (ss : List Site') (e : Entry') : Bool := (logOf ss e.id.r).any fun o => sameE o e
structure SitesOk (ss : List Site') : Prop where
  each : ∀ s ∈ ss, SiteOk s
theorem check11_ok (e o : Entry') (ho : o.links.length ≤ 140737488355327) : PCall Tryz.prog 132 [o.arg, .dat (.ptr e.enc)] (dBool (sameE o e)) := by
  refine pcall_cut tab_all tab_mixed Tryz.func132 (by kernel_rfl) Tryz.ntmps132 rfl ?_
  conv => whnf
  conv => whnf
  repeat (first | (refine Conf.mk (by kernel_rfl) ?_; conv => whnf) | (refine SeqOk.go ?_; conv => whnf))
  refine .data _ _ (isSame_ok o e ho) rfl ?_
  conv => whnf
  repeat (first | (refine Conf.mk (by kernel_rfl) ?_; conv => whnf) | (refine SeqOk.go ?_; conv => whnf))
  exact Ret.bool rfl
set_option maxHeartbeats 0 in
theorem check1_ok' (w : World') (hs : w.sites.length = 2) (h6 : ∀ s ∈ w.sites, s.log.length ≤ 1000 ∧ ∀ e ∈ s.log, e.links.length ≤ 1000) (e : Entry') (hr : e.id.r = 0 ∨ e.id.r = 1) : PCall Tryz.prog 130 [e.arg, .dat (.ptr w.enc)] (dBool (!bornP w.sites e)) := by
  refine pcall_cut tab_all tab_mixed Tryz.func130 (by kernel_rfl) Tryz.ntmps130 rfl ?_
  conv => whnf
  conv => whnf
  repeat (first | (refine Conf.mk (by kernel_rfl) ?_; conv => whnf) | (refine SeqOk.go ?_; conv => whnf))
  rcases hr with hre | hre
  · obtain ⟨i, hi0⟩ : ∃ i : Nat, i = 0 := ⟨0, rfl⟩
    have hi : i < w.sites.length := by omega
    have hre : e.id.r = (i : Int) := by omega
    have hm := List.getElem_mem hi
    have hlo : logOf w.sites e.id.r = w.sites[i].log := by unfold logOf; rw [hre, show ((i : Nat) : Int).toNat = i by omega, List.getElem?_eq_getElem hi]
    refine AtIdx.ofMap' (enc := Site'.enc) i hre hi rfl ?_
    conv => whnf
    repeat (first | (refine Conf.mk (by kernel_rfl) ?_; conv => whnf) | (refine SeqOk.go ?_; conv => whnf))
    refine .look _ _ (containsFunc_entry (l := w.sites[i].log) (p := fun o => sameE o e) (by have := (h6 _ hm).1; omega) fun o ho => check11_ok e o (by have := (h6 _ hm).2 o ho; omega)) rfl rfl ?_
    conv => whnf
    repeat (first | (refine Conf.mk (by kernel_rfl) ?_; conv => whnf) | (refine SeqOk.go ?_; conv => whnf))
    exact Ret.bool (by unfold bornP; rw [hlo])
  · obtain ⟨i, hi0⟩ : ∃ i : Nat, i = 1 := ⟨1, rfl⟩
    have hi : i < w.sites.length := by omega
    have hre : e.id.r = (i : Int) := by omega
    have hm := List.getElem_mem hi
    have hlo : logOf w.sites e.id.r = w.sites[i].log := by unfold logOf; rw [hre, show ((i : Nat) : Int).toNat = i by omega, List.getElem?_eq_getElem hi]
    refine AtIdx.ofMap' (enc := Site'.enc) i hre hi rfl ?_
    conv => whnf
    repeat (first | (refine Conf.mk (by kernel_rfl) ?_; conv => whnf) | (refine SeqOk.go ?_; conv => whnf))
    refine .look _ _ (containsFunc_entry (l := w.sites[i].log) (p := fun o => sameE o e) (by have := (h6 _ hm).1; omega) fun o ho => check11_ok e o (by have := (h6 _ hm).2 o ho; omega)) rfl rfl ?_
    conv => whnf
    repeat (first | (refine Conf.mk (by kernel_rfl) ?_; conv => whnf) | (refine SeqOk.go ?_; conv => whnf))
    exact Ret.bool (by unfold bornP; rw [hlo])
def sitesFrom : Nat → List Site' → Int
  | _, [] => 0
  | i, s :: t => if siteErr s ≠ 0 then siteErr s else if s.region ≠ (i : Int) then 4 else sitesFrom (i + 1) t
set_option maxHeartbeats 0 in
theorem checkSites_ok (ss : List Site') (hn : ss.length ≤ 1000) (hs : ∀ s ∈ ss, SiteOk s) : PCall Tryz.prog 129 [.dat (.list (ss.map Site'.enc))] (dInt (sitesFrom 0 ss)) := by
  refine pcall_cut tab_all tab_mixed Tryz.func129 (by kernel_rfl) Tryz.ntmps129 rfl ?_
  conv => whnf
  conv => whnf
  repeat (first | (refine Conf.mk (by kernel_rfl) ?_; conv => whnf) | (refine SeqOk.go ?_; conv => whnf))
  refine LoopOk.hide fun Q1 hQ1 => ?_
  refine LoopOk.mk (fun m s => ∃ i, i + m = ss.length ∧ sitesFrom 0 ss = sitesFrom i (ss.drop i) ∧ s = ⟨[(8, dInt i), (7, dInt (ss.map Site'.enc).length), (6, .dat (.list (ss.map Site'.enc)))], 0, []⟩) ss.length (Into.mono (Into.to [] [(8, dInt (0 : Nat)), (7, dInt (ss.map Site'.enc).length), (6, .dat (.list (ss.map Site'.enc)))] [] (by repeat (first | exact trivial | refine ⟨.same (congrArg dInt (wrap_up (by omega))), ?_⟩ | refine ⟨.same rfl, ?_⟩ | refine ⟨.any _, ?_⟩)) trivial rfl rfl) fun s' h => ⟨0, by omega, rfl, h⟩) ?_
  rintro m s ⟨i, him, hp, rfl⟩
  conv => whnf
  repeat (first | (refine Conf.mk (by kernel_rfl) ?_; conv => whnf) | (refine SeqOk.go ?_; conv => whnf))
  refine ⟨fun h => ?_, fun h => ?_⟩
  · have hi := lt_of_len h
    have hso := hs _ (List.getElem_mem hi)
    rw [List.drop_eq_getElem_cons hi, sitesFrom] at hp
    conv => whnf
    repeat (first | (refine Conf.mk (by kernel_rfl) ?_; conv => whnf) | (refine SeqOk.go ?_; conv => whnf))
    refine AtIdx.ofMap hi rfl ?_
    conv => whnf
    repeat (first | (refine Conf.mk (by kernel_rfl) ?_; conv => whnf) | (refine SeqOk.go ?_; conv => whnf))
    refine .data _ _ (siteCheck_ok ss[i] hso) rfl ?_
    conv => whnf
    repeat (first | (refine Conf.mk (by kernel_rfl) ?_; conv => whnf) | (refine SeqOk.go ?_; conv => whnf))
    by_cases h1 : siteErr ss[i] = 0
    · rw [if_neg (by simp [h1])] at hp
      refine BoolCase.no (by simp [h1]) ?_
      conv => whnf
      repeat (first | (refine Conf.mk (by kernel_rfl) ?_; conv => whnf) | (refine SeqOk.go ?_; conv => whnf))
      by_cases h2 : ss[i].region = (i : Int)
      · rw [if_neg (by simp [h2])] at hp
        refine BoolCase.no (by simp [h2]) ?_
        conv => whnf
        repeat (first | (refine Conf.mk (by kernel_rfl) ?_; conv => whnf) | (refine SeqOk.go ?_; conv => whnf))
        exact Into.mono (Into.to [] [(8, dInt (i + 1 : Nat)), (7, dInt (ss.map Site'.enc).length), (6, .dat (.list (ss.map Site'.enc)))] [] (by repeat (first | exact trivial | refine ⟨.same (congrArg dInt (wrap_up (by omega))), ?_⟩ | refine ⟨.same rfl, ?_⟩ | refine ⟨.any _, ?_⟩)) trivial rfl rfl) fun s' h => ⟨m - 1, by omega, i + 1, by omega, hp, h⟩
      · rw [if_pos h2] at hp
        refine BoolCase.yes (by simpa using h2) ?_
        conv => whnf
        repeat (first | (refine Conf.mk (by kernel_rfl) ?_; conv => whnf) | (refine SeqOk.go ?_; conv => whnf))
        subst hQ1
        conv => whnf
        exact Ret.int hp.symm
    · rw [if_pos h1] at hp
      refine BoolCase.yes (by simp [h1]) ?_
      conv => whnf
      repeat (first | (refine Conf.mk (by kernel_rfl) ?_; conv => whnf) | (refine SeqOk.go ?_; conv => whnf))
      subst hQ1
      conv => whnf
      exact Ret.int hp.symm
  · rw [List.drop_eq_nil_of_le (ge_of_len h)] at hp
    conv => whnf
    repeat (first | (refine Conf.mk (by kernel_rfl) ?_; conv => whnf) | (refine SeqOk.go ?_; conv => whnf))
    subst hQ1
    conv => whnf
    exact Ret.int hp.symm
def wayLoop (p : Entry' → Bool) : List Entry' → Int
  | [] => 0
  | e :: t => if e.err ≠ 0 then e.err else if p e = true then 4 else wayLoop p t
def wayErr (p : Entry' → Bool) (l : List Entry') : Int := if 30 < l.length then 2 else wayLoop p l
set_option maxHeartbeats 0 in
theorem checkWay_ok {cl : Nat} {ds : List D} {p : Entry' → Bool} (l : List Entry') (hl : LogOk l) (hcl : ∀ e ∈ l, e.err = 0 → PCall Tryz.prog cl [e.arg, .dat (.ptr ds)] (dBool (p e))) : PCall Tryz.prog 134 [.dat (.list (l.map Entry'.enc)), .fn (.func cl) [] [.dat (.ptr ds)]] (dInt (wayErr p l)) := by
  have hll := hl.len
  refine pcall_cut tab_all tab_mixed Tryz.func134 (by kernel_rfl) Tryz.ntmps134 rfl ?_
  conv => whnf
  conv => whnf
  repeat (first | (refine Conf.mk (by kernel_rfl) ?_; conv => whnf) | (refine SeqOk.go ?_; conv => whnf))
  by_cases h0 : 30 < l.length
  · refine BoolCase.yes (by simp; omega) ?_
    conv => whnf
    repeat (first | (refine Conf.mk (by kernel_rfl) ?_; conv => whnf) | (refine SeqOk.go ?_; conv => whnf))
    exact Ret.int (by unfold wayErr; rw [if_pos h0])
  · have hwe : wayErr p l = wayLoop p l := by unfold wayErr; rw [if_neg h0]
    refine BoolCase.no (by simp; omega) ?_
    conv => whnf
    repeat (first | (refine Conf.mk (by kernel_rfl) ?_; conv => whnf) | (refine SeqOk.go ?_; conv => whnf))
    refine LoopOk.hide fun Q1 hQ1 => ?_
    refine LoopOk.mk (fun m s => ∃ i, i + m = l.length ∧ wayErr p l = wayLoop p (l.drop i) ∧ s = ⟨[(13, dInt i), (12, dInt (l.map Entry'.enc).length), (11, .dat (.list (l.map Entry'.enc))), (1, .fn (.func cl) [] [.dat (.ptr ds)])], 0, []⟩) l.length (Into.mono (Into.to [] [(13, dInt (0 : Nat)), (12, dInt (l.map Entry'.enc).length), (11, .dat (.list (l.map Entry'.enc))), (1, .fn (.func cl) [] [.dat (.ptr ds)])] [] (by repeat (first | exact trivial | refine ⟨.same (congrArg dInt (wrap_up (by omega))), ?_⟩ | refine ⟨.same rfl, ?_⟩ | refine ⟨.any _, ?_⟩)) trivial rfl rfl) fun s' h => ⟨0, by omega, hwe, h⟩) ?_
    rintro m s ⟨i, him, hp, rfl⟩
    conv => whnf
    repeat (first | (refine Conf.mk (by kernel_rfl) ?_; conv => whnf) | (refine SeqOk.go ?_; conv => whnf))
    refine ⟨fun h => ?_, fun h => ?_⟩
    · have hi := lt_of_len h
      have hm := List.getElem_mem hi
      rw [List.drop_eq_getElem_cons hi, wayLoop] at hp
      conv => whnf
      repeat (first | (refine Conf.mk (by kernel_rfl) ?_; conv => whnf) | (refine SeqOk.go ?_; conv => whnf))
      refine AtIdx.ofMap hi rfl ?_
      conv => whnf
      repeat (first | (refine Conf.mk (by kernel_rfl) ?_; conv => whnf) | (refine SeqOk.go ?_; conv => whnf))
      refine .data _ _ (check_ok l[i] (hl.links _ hm)) rfl ?_
      conv => whnf
      repeat (first | (refine Conf.mk (by kernel_rfl) ?_; conv => whnf) | (refine SeqOk.go ?_; conv => whnf))
      by_cases h1 : l[i].err = 0
      · rw [if_neg (by simp [h1])] at hp
        refine BoolCase.no (by simp [h1]) ?_
        conv => whnf
        repeat (first | (refine Conf.mk (by kernel_rfl) ?_; conv => whnf) | (refine SeqOk.go ?_; conv => whnf))
        refine .look _ _ (hcl _ hm h1) rfl rfl ?_
        conv => whnf
        repeat (first | (refine Conf.mk (by kernel_rfl) ?_; conv => whnf) | (refine SeqOk.go ?_; conv => whnf))
        refine ⟨fun h2 => ?_, fun h2 => ?_⟩
        · have h2 : p l[i] = true := h2
          rw [if_pos h2] at hp
          conv => whnf
          repeat (first | (refine Conf.mk (by kernel_rfl) ?_; conv => whnf) | (refine SeqOk.go ?_; conv => whnf))
          subst hQ1
          conv => whnf
          exact Ret.int hp.symm
        · have h2 : p l[i] = false := h2
          rw [if_neg (by simp [h2])] at hp
          conv => whnf
          repeat (first | (refine Conf.mk (by kernel_rfl) ?_; conv => whnf) | (refine SeqOk.go ?_; conv => whnf))
          exact Into.mono (Into.to [] [(13, dInt (i + 1 : Nat)), (12, dInt (l.map Entry'.enc).length), (11, .dat (.list (l.map Entry'.enc))), (1, .fn (.func cl) [] [.dat (.ptr ds)])] [] (by repeat (first | exact trivial | refine ⟨.same (congrArg dInt (wrap_up (by omega))), ?_⟩ | refine ⟨.same rfl, ?_⟩ | refine ⟨.any _, ?_⟩)) trivial rfl rfl) fun s' h => ⟨m - 1, by omega, i + 1, by omega, hp, h⟩
      · rw [if_pos h1] at hp
        refine BoolCase.yes (by simp [h1]) ?_
        conv => whnf
        repeat (first | (refine Conf.mk (by kernel_rfl) ?_; conv => whnf) | (refine SeqOk.go ?_; conv => whnf))
        subst hQ1
        conv => whnf
        exact Ret.int hp.symm
    · rw [List.drop_eq_nil_of_le (ge_of_len h)] at hp
      conv => whnf
      repeat (first | (refine Conf.mk (by kernel_rfl) ?_; conv => whnf) | (refine SeqOk.go ?_; conv => whnf))
      subst hQ1
      conv => whnf
      exact Ret.int hp.symm
end Go.Proofs.YtlioojekjnigiafGreat.AM
/- Worlds: a copy of one. -/
namespace Go.Proofs.YtlioojekjnigiafGreat.AM
set_option linter.unusedVariables false
set_option linter.unusedSimpArgs false
set_option maxHeartbeats 0 in
theorem wcopyEntry_ok (e : Entry') (he : e.links.length ≤ 1000) : PCall Tryz.prog 253 [e.arg] e.arg := by
  refine pcall_intro tab_all tab_mixed Tryz.func253 (by kernel_rfl) Tryz.ntmps253 rfl ?_
  conv => whnf
  refine ⟨by simp [Id.enc], by simp; omega, ?_⟩
  conv => whnf
  repeat (first | (refine Conf.mk (by kernel_rfl) ?_; conv => whnf) | (refine SeqOk.go ?_; conv => whnf))
  exact Ret.to rfl
set_option maxHeartbeats 0 in
theorem wcopyAll_ok (l : List Entry') (hk : ∀ e ∈ l, e.links.length ≤ 1000) (hn : l.length ≤ 1000) : ECall Tryz.prog 203 [.dat (.list (l.map Entry'.enc))] [] 0 (.row 0) [(0, .rows 28 5 (l.map Entry'.enc) true)] 1 := by
  refine acall_cut tab_all tab_mixed Tryz.func203 (by kernel_rfl) Tryz.ntmps203 rfl ?_
  conv => whnf
  conv => whnf
  repeat (first | (refine Conf.mk (by kernel_rfl) ?_; conv => whnf) | (refine SeqOk.go ?_; conv => whnf))
  refine LoopOk.hide fun Q1 hQ1 => ?_
  refine LoopOk.mk (fun m s => ∃ k, k + m = l.length ∧ s = ⟨[(8, dInt k), (7, dInt (l.map Entry'.enc).length), (6, .dat (.list (l.map Entry'.enc))), (3, .row 0)], 1, [(0, .rows 28 5 ((l.take k).map Entry'.enc) true)]⟩) l.length ((Into.row 3 28 5 rfl).trans fun s' hs' => by
    subst hs'
    exact Into.mono (Into.to [0] [(8, dInt (0 : Nat)), (7, dInt (l.map Entry'.enc).length), (6, .dat (.list (l.map Entry'.enc))), (3, .row 0)] [(0, .rows 28 5 ((l.take 0).map Entry'.enc) true)] (by repeat (first | exact trivial | refine ⟨.same (congrArg dInt (wrap_up (by omega))), ?_⟩ | refine ⟨.same rfl, ?_⟩ | refine ⟨.any _, ?_⟩)) ⟨⟨rfl, rfl, rfl, rfl⟩, trivial⟩ rfl rfl) fun s' h => ⟨0, by omega, h⟩) ?_
  rintro m s ⟨k, hkm, rfl⟩
  conv => whnf
  repeat (first | (refine Conf.mk (by kernel_rfl) ?_; conv => whnf) | (refine SeqOk.go ?_; conv => whnf))
  refine ⟨fun h => ?_, fun h => ?_⟩
  · have hk' := lt_of_len h
    have hrow : (l.take (k + 1)).map Entry'.enc = (l.take k).map Entry'.enc ++ [l[k].enc] := by rw [take_snoc hk', List.map_append]; rfl
    conv => whnf
    repeat (first | (refine Conf.mk (by kernel_rfl) ?_; conv => whnf) | (refine SeqOk.go ?_; conv => whnf))
    refine AtIdx.ofMap hk' rfl ?_
    conv => whnf
    repeat (first | (refine Conf.mk (by kernel_rfl) ?_; conv => whnf) | (refine SeqOk.go ?_; conv => whnf))
    refine .data _ _ (wcopyEntry_ok l[k] (hk _ (List.getElem_mem hk'))) rfl ?_
    conv => whnf
    repeat (first | (refine Conf.mk (by kernel_rfl) ?_; conv => whnf) | (refine SeqOk.go ?_; conv => whnf))
    refine ⟨by simp [Entry'.enc], by simp; omega, ?_⟩
    conv => whnf
    repeat (first | (refine Conf.mk (by kernel_rfl) ?_; conv => whnf) | (refine SeqOk.go ?_; conv => whnf))
    refine Into.mono (Into.to [3] [(8, dInt (k + 1 : Nat)), (7, dInt (l.map Entry'.enc).length), (6, .dat (.list (l.map Entry'.enc))), (3, .row 0)] [(0, .rows 28 5 ((l.take (k + 1)).map Entry'.enc) true)] (by repeat (first | exact trivial | refine ⟨.same (congrArg dInt (wrap_up (by omega))), ?_⟩ | refine ⟨.same rfl, ?_⟩ | refine ⟨.any _, ?_⟩)) ⟨⟨rfl, rfl, rfl, ?_⟩, trivial⟩ rfl rfl) fun s' h => ⟨m - 1, by omega, k + 1, by omega, h⟩
    rw [hrow]
    rfl
  · have hk' : k = l.length := by have := ge_of_len h; omega
    subst hk'
    conv => whnf
    repeat (first | (refine Conf.mk (by kernel_rfl) ?_; conv => whnf) | (refine SeqOk.go ?_; conv => whnf))
    subst hQ1
    conv => whnf
    exact .mk [] [0] (.row 0) [(0, .rows 28 5 (l.map Entry'.enc) true)] rfl (.same rfl) ⟨⟨rfl, rfl, rfl, by rw [List.take_length]⟩, trivial⟩ rfl rfl ⟨rfl, rfl, rfl⟩

theorem cond_yes {b : Bool} {t f : Prop} (hb : b = true) (h : t) : cond b t f := by rw [hb]; exact h
/-- What a doer has: two sites, two ways. -/
def sitesC (a b : Site') : List AVal := [dInt a.region, .dat (.list (a.log.map Entry'.enc)), .dat (.list (a.waits.map Entry'.enc)), dInt b.region, .dat (.list (b.log.map Entry'.enc)), .dat (.list (b.waits.map Entry'.enc))]
set_option maxHeartbeats 0 in
theorem wcopyOf_ok (a b : Site') (u v : List Entry') (ha : ∀ e ∈ a.log ++ a.waits, e.links.length ≤ 1000) (hb : ∀ e ∈ b.log ++ b.waits, e.links.length ≤ 1000) (hu : ∀ e ∈ u ++ v, e.links.length ≤ 1000) (hl : a.log.length ≤ 1000 ∧ a.waits.length ≤ 1000 ∧ b.log.length ≤ 1000 ∧ b.waits.length ≤ 1000 ∧ u.length ≤ 1000 ∧ v.length ≤ 1000) :
    ECall Tryz.prog 118 [(⟨[a, b], [u, v]⟩ : World').arg] [] 0 (.agg [.row 0, .row 1]) [(0, .vars 32 3 (sitesC a b) true), (1, .vars 22 1 [.row 2, .row 3] true), (2, .rows 28 5 (u.map Entry'.enc) true), (3, .rows 28 5 (v.map Entry'.enc) true)] 4 := by
  obtain ⟨l1, l2, l3, l4, l5, l6⟩ := hl
  have c1 := wcopyAll_ok a.log (fun e he => ha e (by simp [he])) l1
  have c2 := wcopyAll_ok a.waits (fun e he => ha e (by simp [he])) l2
  have c3 := wcopyAll_ok b.log (fun e he => hb e (by simp [he])) l3
  have c4 := wcopyAll_ok b.waits (fun e he => hb e (by simp [he])) l4
  have c5 := wcopyAll_ok u (fun e he => hu e (by simp [he])) l5
  have c6 := wcopyAll_ok v (fun e he => hu e (by simp [he])) l6
  refine acall_cut tab_all tab_mixed Tryz.func118 (by kernel_rfl) Tryz.ntmps118 rfl ?_
  conv => whnf
  conv => whnf
  repeat (first | (refine Conf.mk (by kernel_rfl) ?_; conv => whnf) | (refine SeqOk.go ?_; conv => whnf))
  refine LoopOk.hide fun Q1 hQ1 => ?_
  refine LoopOk.mk (fun m s => (m = 2 ∧ s = ⟨[(11, dInt 0), (10, dInt 2), (9, .dat (.list ([a, b].map Site'.enc))), (1, .ptr 0 0), (2, .ptr 1 0), (3, .ptr 2 0)], 3, [(0, .vars 93 2 [.dat (.list ([a, b].map Site'.enc)), .dat (.list ([u, v].map wayEnc))] true), (1, .vars 93 2 [.nil, .nil] true), (2, .vars 93 2 [.nil, .nil] true)]⟩) ∨ (m = 1 ∧ s = ⟨[(11, dInt 1), (10, dInt 2), (9, .dat (.list ([a, b].map Site'.enc))), (1, .ptr 0 0), (2, .ptr 1 0), (3, .ptr 2 0)], 6, [(0, .vars 93 2 [.dat (.list ([a, b].map Site'.enc)), .dat (.list ([u, v].map wayEnc))] true), (1, .vars 93 2 [.nil, .nil] true), (2, .vars 93 2 [.row 3, .nil] true), (3, .vars 32 3 [dInt a.region, .row 4, .row 5] true), (4, .rows 28 5 (a.log.map Entry'.enc) true), (5, .rows 28 5 (a.waits.map Entry'.enc) true)]⟩) ∨ (m = 0 ∧ s = ⟨[(11, dInt 2), (10, dInt 2), (9, .dat (.list ([a, b].map Site'.enc))), (1, .ptr 0 0), (2, .ptr 1 0), (3, .ptr 2 0)], 8, [(0, .vars 93 2 [.dat (.list ([a, b].map Site'.enc)), .dat (.list ([u, v].map wayEnc))] true), (1, .vars 93 2 [.nil, .nil] true), (2, .vars 93 2 [.row 3, .nil] true), (3, .vars 32 3 [dInt a.region, .row 4, .row 5, dInt b.region, .row 6, .row 7] true), (4, .rows 28 5 (a.log.map Entry'.enc) true), (5, .rows 28 5 (a.waits.map Entry'.enc) true), (6, .rows 28 5 (b.log.map Entry'.enc) true), (7, .rows 28 5 (b.waits.map Entry'.enc) true)]⟩)) 2 (Into.mono (Into.to [0, 1, 2] [(11, dInt 0), (10, dInt 2), (9, .dat (.list ([a, b].map Site'.enc))), (1, .ptr 0 0), (2, .ptr 1 0), (3, .ptr 2 0)] [(0, .vars 93 2 [.dat (.list ([a, b].map Site'.enc)), .dat (.list ([u, v].map wayEnc))] true), (1, .vars 93 2 [.nil, .nil] true), (2, .vars 93 2 [.nil, .nil] true)] (by repeat (first | exact trivial | refine ⟨.same (congrArg dInt (wrap_up (by omega))), ?_⟩ | refine ⟨.same rfl, ?_⟩ | refine ⟨.any _, ?_⟩)) ⟨⟨rfl, rfl, rfl, .same rfl, rfl, .same rfl, rfl, trivial⟩, ⟨rfl, rfl, rfl, .same rfl, rfl, .same rfl, rfl, trivial⟩, ⟨rfl, rfl, rfl, .same rfl, rfl, .same rfl, rfl, trivial⟩, trivial⟩ rfl rfl) fun s' h => .inl ⟨rfl, h⟩) ?_
  rintro m s (⟨rfl, rfl⟩ | ⟨rfl, rfl⟩ | ⟨rfl, rfl⟩)
  · conv => whnf
    repeat (first | (refine Conf.mk (by kernel_rfl) ?_; conv => whnf) | (refine SeqOk.go ?_; conv => whnf))
    refine BoolCase.yes rfl ?_
    conv => whnf
    repeat (first | (refine Conf.mk (by kernel_rfl) ?_; conv => whnf) | (refine SeqOk.go ?_; conv => whnf))
    refine AtIdx.ofMap (l := [a, b]) (i := 0) (by simp) rfl ?_
    conv => whnf
    repeat (first | (refine Conf.mk (by kernel_rfl) ?_; conv => whnf) | (refine SeqOk.go ?_; conv => whnf))
    refine .eff [] _ _ _ _ 1 c1 rfl rfl rfl rfl rfl ?_
    conv => whnf
    repeat (first | (refine Conf.mk (by kernel_rfl) ?_; conv => whnf) | (refine SeqOk.go ?_; conv => whnf))
    refine .eff [] _ _ _ _ 1 c2 rfl rfl rfl rfl rfl ?_
    conv => whnf
    repeat (first | (refine Conf.mk (by kernel_rfl) ?_; conv => whnf) | (refine SeqOk.go ?_; conv => whnf))
    refine cond_yes (by kernel_rfl) ?_
    conv => whnf
    repeat (first | (refine Conf.mk (by kernel_rfl) ?_; conv => whnf) | (refine SeqOk.go ?_; conv => whnf))
    refine ⟨by simp, ?_⟩
    conv => whnf
    repeat (first | (refine Conf.mk (by kernel_rfl) ?_; conv => whnf) | (refine SeqOk.go ?_; conv => whnf))
    exact Into.mono (Into.to [0, 1, 2, 7, 4, 5] [(11, dInt 1), (10, dInt 2), (9, .dat (.list ([a, b].map Site'.enc))), (1, .ptr 0 0), (2, .ptr 1 0), (3, .ptr 2 0)] [(0, .vars 93 2 [.dat (.list ([a, b].map Site'.enc)), .dat (.list ([u, v].map wayEnc))] true), (1, .vars 93 2 [.nil, .nil] true), (2, .vars 93 2 [.row 3, .nil] true), (3, .vars 32 3 [dInt a.region, .row 4, .row 5] true), (4, .rows 28 5 (a.log.map Entry'.enc) true), (5, .rows 28 5 (a.waits.map Entry'.enc) true)] (by repeat (first | exact trivial | refine ⟨.same (congrArg dInt (wrap_up (by omega))), ?_⟩ | refine ⟨.same rfl, ?_⟩ | refine ⟨.any _, ?_⟩)) ⟨⟨rfl, rfl, rfl, .same rfl, rfl, .same rfl, rfl, trivial⟩, ⟨rfl, rfl, rfl, .same rfl, rfl, .same rfl, rfl, trivial⟩, ⟨rfl, rfl, rfl, .same rfl, rfl, .same rfl, rfl, trivial⟩, ⟨rfl, rfl, rfl, .same rfl, rfl, .same rfl, rfl, .same rfl, rfl, trivial⟩, ⟨rfl, rfl, rfl, rfl⟩, ⟨rfl, rfl, rfl, rfl⟩, trivial⟩ rfl rfl) fun s' h => ⟨1, by omega, .inr (.inl ⟨rfl, h⟩)⟩
  · conv => whnf
    repeat (first | (refine Conf.mk (by kernel_rfl) ?_; conv => whnf) | (refine SeqOk.go ?_; conv => whnf))
    refine BoolCase.yes rfl ?_
    conv => whnf
    repeat (first | (refine Conf.mk (by kernel_rfl) ?_; conv => whnf) | (refine SeqOk.go ?_; conv => whnf))
    refine AtIdx.ofMap (l := [a, b]) (i := 1) (by simp) rfl ?_
    conv => whnf
    repeat (first | (refine Conf.mk (by kernel_rfl) ?_; conv => whnf) | (refine SeqOk.go ?_; conv => whnf))
    refine .eff [] _ _ _ _ 1 c3 rfl rfl rfl rfl rfl ?_
    conv => whnf
    repeat (first | (refine Conf.mk (by kernel_rfl) ?_; conv => whnf) | (refine SeqOk.go ?_; conv => whnf))
    refine .eff [] _ _ _ _ 1 c4 rfl rfl rfl rfl rfl ?_
    conv => whnf
    repeat (first | (refine Conf.mk (by kernel_rfl) ?_; conv => whnf) | (refine SeqOk.go ?_; conv => whnf))
    refine cond_yes (by kernel_rfl) ?_
    conv => whnf
    repeat (first | (refine Conf.mk (by kernel_rfl) ?_; conv => whnf) | (refine SeqOk.go ?_; conv => whnf))
    refine ⟨by simp, ?_⟩
    conv => whnf
    repeat (first | (refine Conf.mk (by kernel_rfl) ?_; conv => whnf) | (refine SeqOk.go ?_; conv => whnf))
    exact Into.mono (Into.to [0, 1, 2, 10, 4, 5, 7, 8] [(11, dInt 2), (10, dInt 2), (9, .dat (.list ([a, b].map Site'.enc))), (1, .ptr 0 0), (2, .ptr 1 0), (3, .ptr 2 0)] [(0, .vars 93 2 [.dat (.list ([a, b].map Site'.enc)), .dat (.list ([u, v].map wayEnc))] true), (1, .vars 93 2 [.nil, .nil] true), (2, .vars 93 2 [.row 3, .nil] true), (3, .vars 32 3 [dInt a.region, .row 4, .row 5, dInt b.region, .row 6, .row 7] true), (4, .rows 28 5 (a.log.map Entry'.enc) true), (5, .rows 28 5 (a.waits.map Entry'.enc) true), (6, .rows 28 5 (b.log.map Entry'.enc) true), (7, .rows 28 5 (b.waits.map Entry'.enc) true)] (by repeat (first | exact trivial | refine ⟨.same (congrArg dInt (wrap_up (by omega))), ?_⟩ | refine ⟨.same rfl, ?_⟩ | refine ⟨.any _, ?_⟩)) ⟨⟨rfl, rfl, rfl, .same rfl, rfl, .same rfl, rfl, trivial⟩, ⟨rfl, rfl, rfl, .same rfl, rfl, .same rfl, rfl, trivial⟩, ⟨rfl, rfl, rfl, .same rfl, rfl, .same rfl, rfl, trivial⟩, ⟨rfl, rfl, rfl, .same rfl, rfl, .same rfl, rfl, .same rfl, rfl, .same rfl, rfl, .same rfl, rfl, .same rfl, rfl, trivial⟩, ⟨rfl, rfl, rfl, rfl⟩, ⟨rfl, rfl, rfl, rfl⟩, ⟨rfl, rfl, rfl, rfl⟩, ⟨rfl, rfl, rfl, rfl⟩, trivial⟩ rfl rfl) fun s' h => ⟨0, by omega, .inr (.inr ⟨rfl, h⟩)⟩
  · conv => whnf
    repeat (first | (refine Conf.mk (by kernel_rfl) ?_; conv => whnf) | (refine SeqOk.go ?_; conv => whnf))
    refine BoolCase.no rfl ?_
    conv => whnf
    repeat (first | (refine Conf.mk (by kernel_rfl) ?_; conv => whnf) | (refine SeqOk.go ?_; conv => whnf))
    subst hQ1
    conv => whnf
    conv => whnf
    repeat (first | (refine Conf.mk (by kernel_rfl) ?_; conv => whnf) | (refine SeqOk.go ?_; conv => whnf))
    refine LoopOk.hide fun Q2 hQ2 => ?_
    refine LoopOk.mk (fun m s => (m = 2 ∧ s = ⟨[(33, dInt 0), (32, dInt 2), (31, .dat (.list ([u, v].map wayEnc))), (2, .ptr 1 0), (3, .ptr 2 0)], 8, [(0, .vars 93 2 [.dat (.list ([a, b].map Site'.enc)), .dat (.list ([u, v].map wayEnc))] true), (1, .vars 93 2 [.nil, .nil] true), (2, .vars 93 2 [.row 3, .nil] true), (3, .vars 32 3 [dInt a.region, .row 4, .row 5, dInt b.region, .row 6, .row 7] true), (4, .rows 28 5 (a.log.map Entry'.enc) true), (5, .rows 28 5 (a.waits.map Entry'.enc) true), (6, .rows 28 5 (b.log.map Entry'.enc) true), (7, .rows 28 5 (b.waits.map Entry'.enc) true)]⟩) ∨ (m = 1 ∧ s = ⟨[(33, dInt 1), (32, dInt 2), (31, .dat (.list ([u, v].map wayEnc))), (2, .ptr 1 0), (3, .ptr 2 0)], 10, [(0, .vars 93 2 [.dat (.list ([a, b].map Site'.enc)), .dat (.list ([u, v].map wayEnc))] true), (1, .vars 93 2 [.nil, .nil] true), (2, .vars 93 2 [.row 3, .row 8] true), (3, .vars 32 3 [dInt a.region, .row 4, .row 5, dInt b.region, .row 6, .row 7] true), (4, .rows 28 5 (a.log.map Entry'.enc) true), (5, .rows 28 5 (a.waits.map Entry'.enc) true), (6, .rows 28 5 (b.log.map Entry'.enc) true), (7, .rows 28 5 (b.waits.map Entry'.enc) true), (8, .vars 22 1 [.row 9] true), (9, .rows 28 5 (u.map Entry'.enc) true)]⟩) ∨ (m = 0 ∧ s = ⟨[(33, dInt 2), (32, dInt 2), (31, .dat (.list ([u, v].map wayEnc))), (2, .ptr 1 0), (3, .ptr 2 0)], 11, [(0, .vars 93 2 [.dat (.list ([a, b].map Site'.enc)), .dat (.list ([u, v].map wayEnc))] true), (1, .vars 93 2 [.nil, .nil] true), (2, .vars 93 2 [.row 3, .row 8] true), (3, .vars 32 3 [dInt a.region, .row 4, .row 5, dInt b.region, .row 6, .row 7] true), (4, .rows 28 5 (a.log.map Entry'.enc) true), (5, .rows 28 5 (a.waits.map Entry'.enc) true), (6, .rows 28 5 (b.log.map Entry'.enc) true), (7, .rows 28 5 (b.waits.map Entry'.enc) true), (8, .vars 22 1 [.row 9, .row 10] true), (9, .rows 28 5 (u.map Entry'.enc) true), (10, .rows 28 5 (v.map Entry'.enc) true)]⟩)) 2 (Into.mono (Into.to [0, 1, 2, 3, 4, 5, 6, 7] [(33, dInt 0), (32, dInt 2), (31, .dat (.list ([u, v].map wayEnc))), (2, .ptr 1 0), (3, .ptr 2 0)] [(0, .vars 93 2 [.dat (.list ([a, b].map Site'.enc)), .dat (.list ([u, v].map wayEnc))] true), (1, .vars 93 2 [.nil, .nil] true), (2, .vars 93 2 [.row 3, .nil] true), (3, .vars 32 3 [dInt a.region, .row 4, .row 5, dInt b.region, .row 6, .row 7] true), (4, .rows 28 5 (a.log.map Entry'.enc) true), (5, .rows 28 5 (a.waits.map Entry'.enc) true), (6, .rows 28 5 (b.log.map Entry'.enc) true), (7, .rows 28 5 (b.waits.map Entry'.enc) true)] (by repeat (first | exact trivial | refine ⟨.same (congrArg dInt (wrap_up (by omega))), ?_⟩ | refine ⟨.same rfl, ?_⟩ | refine ⟨.any _, ?_⟩)) ⟨⟨rfl, rfl, rfl, .same rfl, rfl, .same rfl, rfl, trivial⟩, ⟨rfl, rfl, rfl, .same rfl, rfl, .same rfl, rfl, trivial⟩, ⟨rfl, rfl, rfl, .same rfl, rfl, .same rfl, rfl, trivial⟩, ⟨rfl, rfl, rfl, .same rfl, rfl, .same rfl, rfl, .same rfl, rfl, .same rfl, rfl, .same rfl, rfl, .same rfl, rfl, trivial⟩, ⟨rfl, rfl, rfl, rfl⟩, ⟨rfl, rfl, rfl, rfl⟩, ⟨rfl, rfl, rfl, rfl⟩, ⟨rfl, rfl, rfl, rfl⟩, trivial⟩ rfl rfl) fun s' h => .inl ⟨rfl, h⟩) ?_
    rintro m s (⟨rfl, rfl⟩ | ⟨rfl, rfl⟩ | ⟨rfl, rfl⟩)
    · conv => whnf
      repeat (first | (refine Conf.mk (by kernel_rfl) ?_; conv => whnf) | (refine SeqOk.go ?_; conv => whnf))
      refine BoolCase.yes rfl ?_
      conv => whnf
      repeat (first | (refine Conf.mk (by kernel_rfl) ?_; conv => whnf) | (refine SeqOk.go ?_; conv => whnf))
      refine AtIdx.ofMap (l := [u, v]) (i := 0) (by simp) rfl ?_
      conv => whnf
      repeat (first | (refine Conf.mk (by kernel_rfl) ?_; conv => whnf) | (refine SeqOk.go ?_; conv => whnf))
      refine .eff [] _ _ _ _ 1 c5 rfl rfl rfl rfl rfl ?_
      conv => whnf
      repeat (first | (refine Conf.mk (by kernel_rfl) ?_; conv => whnf) | (refine SeqOk.go ?_; conv => whnf))
      refine ⟨by simp, ?_⟩
      conv => whnf
      repeat (first | (refine Conf.mk (by kernel_rfl) ?_; conv => whnf) | (refine SeqOk.go ?_; conv => whnf))
      exact Into.mono (Into.to [0, 1, 2, 3, 4, 5, 6, 7, 10, 8] [(33, dInt 1), (32, dInt 2), (31, .dat (.list ([u, v].map wayEnc))), (2, .ptr 1 0), (3, .ptr 2 0)] [(0, .vars 93 2 [.dat (.list ([a, b].map Site'.enc)), .dat (.list ([u, v].map wayEnc))] true), (1, .vars 93 2 [.nil, .nil] true), (2, .vars 93 2 [.row 3, .row 8] true), (3, .vars 32 3 [dInt a.region, .row 4, .row 5, dInt b.region, .row 6, .row 7] true), (4, .rows 28 5 (a.log.map Entry'.enc) true), (5, .rows 28 5 (a.waits.map Entry'.enc) true), (6, .rows 28 5 (b.log.map Entry'.enc) true), (7, .rows 28 5 (b.waits.map Entry'.enc) true), (8, .vars 22 1 [.row 9] true), (9, .rows 28 5 (u.map Entry'.enc) true)] (by repeat (first | exact trivial | refine ⟨.same (congrArg dInt (wrap_up (by omega))), ?_⟩ | refine ⟨.same rfl, ?_⟩ | refine ⟨.any _, ?_⟩)) ⟨⟨rfl, rfl, rfl, .same rfl, rfl, .same rfl, rfl, trivial⟩, ⟨rfl, rfl, rfl, .same rfl, rfl, .same rfl, rfl, trivial⟩, ⟨rfl, rfl, rfl, .same rfl, rfl, .same rfl, rfl, trivial⟩, ⟨rfl, rfl, rfl, .same rfl, rfl, .same rfl, rfl, .same rfl, rfl, .same rfl, rfl, .same rfl, rfl, .same rfl, rfl, trivial⟩, ⟨rfl, rfl, rfl, rfl⟩, ⟨rfl, rfl, rfl, rfl⟩, ⟨rfl, rfl, rfl, rfl⟩, ⟨rfl, rfl, rfl, rfl⟩, ⟨rfl, rfl, rfl, .same rfl, rfl, trivial⟩, ⟨rfl, rfl, rfl, rfl⟩, trivial⟩ rfl rfl) fun s' h => ⟨1, by omega, .inr (.inl ⟨rfl, h⟩)⟩
    · conv => whnf
      repeat (first | (refine Conf.mk (by kernel_rfl) ?_; conv => whnf) | (refine SeqOk.go ?_; conv => whnf))
      refine BoolCase.yes rfl ?_
      conv => whnf
      repeat (first | (refine Conf.mk (by kernel_rfl) ?_; conv => whnf) | (refine SeqOk.go ?_; conv => whnf))
      refine AtIdx.ofMap (l := [u, v]) (i := 1) (by simp) rfl ?_
      conv => whnf
      repeat (first | (refine Conf.mk (by kernel_rfl) ?_; conv => whnf) | (refine SeqOk.go ?_; conv => whnf))
      refine .eff [] _ _ _ _ 1 c6 rfl rfl rfl rfl rfl ?_
      conv => whnf
      repeat (first | (refine Conf.mk (by kernel_rfl) ?_; conv => whnf) | (refine SeqOk.go ?_; conv => whnf))
      refine ⟨by simp, ?_⟩
      conv => whnf
      repeat (first | (refine Conf.mk (by kernel_rfl) ?_; conv => whnf) | (refine SeqOk.go ?_; conv => whnf))
      exact Into.mono (Into.to [0, 1, 2, 3, 4, 5, 6, 7, 12, 9, 10] [(33, dInt 2), (32, dInt 2), (31, .dat (.list ([u, v].map wayEnc))), (2, .ptr 1 0), (3, .ptr 2 0)] [(0, .vars 93 2 [.dat (.list ([a, b].map Site'.enc)), .dat (.list ([u, v].map wayEnc))] true), (1, .vars 93 2 [.nil, .nil] true), (2, .vars 93 2 [.row 3, .row 8] true), (3, .vars 32 3 [dInt a.region, .row 4, .row 5, dInt b.region, .row 6, .row 7] true), (4, .rows 28 5 (a.log.map Entry'.enc) true), (5, .rows 28 5 (a.waits.map Entry'.enc) true), (6, .rows 28 5 (b.log.map Entry'.enc) true), (7, .rows 28 5 (b.waits.map Entry'.enc) true), (8, .vars 22 1 [.row 9, .row 10] true), (9, .rows 28 5 (u.map Entry'.enc) true), (10, .rows 28 5 (v.map Entry'.enc) true)] (by repeat (first | exact trivial | refine ⟨.same (congrArg dInt (wrap_up (by omega))), ?_⟩ | refine ⟨.same rfl, ?_⟩ | refine ⟨.any _, ?_⟩)) ⟨⟨rfl, rfl, rfl, .same rfl, rfl, .same rfl, rfl, trivial⟩, ⟨rfl, rfl, rfl, .same rfl, rfl, .same rfl, rfl, trivial⟩, ⟨rfl, rfl, rfl, .same rfl, rfl, .same rfl, rfl, trivial⟩, ⟨rfl, rfl, rfl, .same rfl, rfl, .same rfl, rfl, .same rfl, rfl, .same rfl, rfl, .same rfl, rfl, .same rfl, rfl, trivial⟩, ⟨rfl, rfl, rfl, rfl⟩, ⟨rfl, rfl, rfl, rfl⟩, ⟨rfl, rfl, rfl, rfl⟩, ⟨rfl, rfl, rfl, rfl⟩, ⟨rfl, rfl, rfl, .same rfl, rfl, .same rfl, rfl, trivial⟩, ⟨rfl, rfl, rfl, rfl⟩, ⟨rfl, rfl, rfl, rfl⟩, trivial⟩ rfl rfl) fun s' h => ⟨0, by omega, .inr (.inr ⟨rfl, h⟩)⟩
    · conv => whnf
      repeat (first | (refine Conf.mk (by kernel_rfl) ?_; conv => whnf) | (refine SeqOk.go ?_; conv => whnf))
      refine BoolCase.no rfl ?_
      conv => whnf
      repeat (first | (refine Conf.mk (by kernel_rfl) ?_; conv => whnf) | (refine SeqOk.go ?_; conv => whnf))
      subst hQ2
      conv => whnf
      conv => whnf
      repeat (first | (refine Conf.mk (by kernel_rfl) ?_; conv => whnf) | (refine SeqOk.go ?_; conv => whnf))
      exact .mk [4, 5, 6, 7] [3, 8, 9, 10] (.agg [.row 0, .row 1]) [(0, .vars 32 3 (sitesC a b) true), (1, .vars 22 1 [.row 2, .row 3] true), (2, .rows 28 5 (u.map Entry'.enc) true), (3, .rows 28 5 (v.map Entry'.enc) true)] rfl (.same rfl) ⟨⟨rfl, rfl, rfl, .same rfl, rfl, .data rfl, rfl, .data rfl, rfl, .same rfl, rfl, .data rfl, rfl, .data rfl, rfl, trivial⟩, ⟨rfl, rfl, rfl, .same rfl, rfl, .same rfl, rfl, trivial⟩, ⟨rfl, rfl, rfl, rfl⟩, ⟨rfl, rfl, rfl, rfl⟩, trivial⟩ rfl rfl ⟨rfl, rfl, rfl⟩
end Go.Proofs.YtlioojekjnigiafGreat.AM
/- Plain: worlds that are right; what settles there. -/
namespace Go.Proofs.YtlioojekjnigiafGreat.AM
set_option linter.unusedVariables false
set_option linter.unusedSimpArgs false

structure W4 where
  a : Site'
  b : Site'
  u : List Entry'
  v : List Entry'
def W4.w (x : W4) : World' := ⟨[x.a, x.b], [x.u, x.v]⟩
def W4.logOf (x : W4) (r : Int) : List Entry' := if r = 0 then x.a.log else x.b.log
/-- A world of which Check has nothing to say. -/
structure WorldR (x : W4) : Prop where
  ra : SiteR x.a
  rb : SiteR x.b
  ia : x.a.region = 0
  ib : x.b.region = 1
  lu : x.u.length ≤ 30
  lv : x.v.length ≤ 30
  eu : ∀ e, e ∈ x.u ∨ e ∈ x.v → e.err = 0 ∧ e ∈ x.logOf e.id.r
  bl : ∀ e, e ∈ x.a.log ∨ e ∈ x.a.waits ∨ e ∈ x.b.log ∨ e ∈ x.b.waits → e ∈ x.logOf e.id.r
theorem any_same {l : List Entry'} {e : Entry'} : (l.any fun o => sameE o e) = true ↔ e ∈ l := by
  rw [List.any_eq_true]
  exact ⟨fun ⟨o, h1, h2⟩ => by rw [← sameE_iff.1 h2]; exact h1, fun h => ⟨e, h, sameE_iff.2 rfl⟩⟩
theorem born_iff {x : W4} {e : Entry'} (hr : e.id.r = 0 ∨ e.id.r = 1) : bornP x.w.sites e = true ↔ e ∈ x.logOf e.id.r := by
  unfold bornP
  rw [any_same]
  unfold logOf W4.logOf W4.w
  rcases hr with h | h <;> rw [h] <;> rfl
/-- What a site gets to know of the other one's own. -/
def bring (s : Site') (l : List Entry') : Site' := l.foldl recvAns s
theorem bring_snoc (s : Site') (l : List Entry') (e : Entry') : bring s (l ++ [e]) = recvAns (bring s l) e := by unfold bring; rw [List.foldl_append]; rfl
theorem recv_mem {s : Site'} {e : Entry'} (h : recvErr s e = 0) {x : Entry'} (hx : x ∈ (recvAns s e).log ∨ x ∈ (recvAns s e).waits) : x ∈ s.log ∨ x ∈ s.waits ∨ x = e := by
  obtain ⟨h1, h2, h3 | ⟨h3, h4⟩⟩ := recvErr_zero h
  · rw [(recv_there h1 h2 h3).2] at hx
    exact hx.imp id .inl
  · rw [(recv_comes h1 h2 h3 h4).2.1] at hx
    rcases ((settle_after (h1.put h2 h3).1).1.both x).1 hx with k | k
    · exact .inl k
    · rcases mem_putW.1 k with k | k
      · exact .inr (.inr k)
      · exact .inr (.inl k)
theorem recv_far {s : Site'} (h : SiteR s) {e : Entry'} (he : e.err = 0) (hf : e.id.r ≠ s.region) : recvErr s e = 0 := by
  cases ht : thereS s e with
  | true => exact (recv_there h he ht).1
  | false => exact (recv_comes h he ht hf).1
structure Brought (s : Site') (l : List Entry') : Prop where
  right : SiteR (bring s l)
  region : (bring s l).region = s.region
  ext : ∃ t, (bring s l).log = s.log ++ t
  from' : ∀ x, x ∈ (bring s l).log ∨ x ∈ (bring s l).waits → x ∈ s.log ∨ x ∈ s.waits ∨ x ∈ l
  has : ∀ e ∈ l, thereS (bring s l) e = true
theorem thereS_grow {s : Site'} {e : Entry'} (h : recvErr s e = 0) {x : Entry'} (hx : thereS s x = true) : thereS (recvAns s e) x = true := (recv_in h x).2 (.inl hx)
theorem brought {s : Site'} (h : SiteR s) : ∀ (n : Nat) (l : List Entry'), l.length = n → (∀ e ∈ l, e.err = 0 ∧ e.id.r ≠ s.region) → Brought s l
  | 0, l, hn, _ => by
    have : l = [] := List.length_eq_zero_iff.1 hn
    subst this
    exact ⟨h, rfl, ⟨[], by simp [bring]⟩, fun x hx => hx.imp id .inl, by simp⟩
  | n + 1, l, hn, hl => by
    have hne : l ≠ [] := fun e => by rw [e] at hn; cases hn
    obtain ⟨t, e, rfl⟩ : ∃ t e, l = t ++ [e] := ⟨l.dropLast, l.getLast hne, (List.dropLast_concat_getLast hne).symm⟩
    have ih := brought h n t (by simp at hn; exact hn) fun x hx => hl x (by simp [hx])
    obtain ⟨e1, e2⟩ := hl e (by simp)
    have h0 := recv_far ih.right e1 (by rw [ih.region]; exact e2)
    have hb := bring_snoc s t e
    obtain ⟨⟨w, hw⟩, hreg⟩ := recv_ext h0
    refine ⟨by rw [hb]; exact recv_right h0, by rw [hb, hreg, ih.region], ?_, fun x hx => ?_, fun x hx => ?_⟩
    · obtain ⟨t', ht'⟩ := ih.ext
      exact ⟨t' ++ w, by rw [hb, hw, ht', List.append_assoc]⟩
    · rw [hb] at hx
      rcases recv_mem h0 hx with k | k | k
      · rcases ih.from' x (.inl k) with k | k | k
        · exact .inl k
        · exact .inr (.inl k)
        · exact .inr (.inr (by simp [k]))
      · rcases ih.from' x (.inr k) with k | k | k
        · exact .inl k
        · exact .inr (.inl k)
        · exact .inr (.inr (by simp [k]))
      · exact .inr (.inr (by simp [k]))
    · rw [hb]
      rcases List.mem_append.1 hx with hx | hx
      · exact thereS_grow h0 (ih.has x hx)
      · have : x = e := by simpa using hx
        subst this
        exact (recv_in h0 x).2 (.inr rfl)
/-- The other one's own. -/
def ownOf (l : List Entry') (r : Int) : List Entry' := l.filter fun e => e.id.r == r
theorem mem_ownOf {l : List Entry'} {r : Int} {e : Entry'} : e ∈ ownOf l r ↔ e ∈ l ∧ e.id.r = r := by simp [ownOf]
/-- All of the other one's own is there in the end, and nothing waits. -/
theorem bring_all {s o : Site'} (h : SiteR s) (ho : SiteR o) (hso : o.region ≠ s.region)
    (h1 : ∀ e, e ∈ s.log ∨ e ∈ s.waits → e.id.r = o.region → e ∈ o.log) (h2 : ∀ e ∈ o.log, e.id.r = s.region → e ∈ s.log) :
    Brought s (ownOf o.log o.region) ∧ (∀ e ∈ o.log, e ∈ (bring s (ownOf o.log o.region)).log) ∧ (bring s (ownOf o.log o.region)).waits = [] := by
  have hreg : ∀ r : Int, (r = 0 ∨ r = 1) → r = s.region ∨ r = o.region := fun r hr => by
    have := h.reg
    have := ho.reg
    omega
  have hb := brought h _ (ownOf o.log o.region) rfl fun e he => by
    obtain ⟨k1, k2⟩ := mem_ownOf.1 he
    exact ⟨ho.log.mem k1, by rw [k2]; exact hso⟩
  have hR := hb.right
  have hfrom : ∀ x, x ∈ (bring s (ownOf o.log o.region)).log ∨ x ∈ (bring s (ownOf o.log o.region)).waits → x.id.r = o.region → x ∈ o.log := fun x hx hr => by
    rcases hb.from' x hx with k | k | k
    · exact h1 x (.inl k) hr
    · exact h1 x (.inr k) hr
    · exact (mem_ownOf.1 k).1
  obtain ⟨t, ht⟩ := hb.ext
  have key : ∀ i (hi : i < o.log.length), o.log[i] ∈ (bring s (ownOf o.log o.region)).log := by
    intro i
    induction i using Nat.strongRecOn with
    | _ i ih =>
      intro hi
      have hm := List.getElem_mem hi
      rcases hreg _ (ho.log.regs _ hm) with hr | hr
      · rw [ht]; exact List.mem_append_left _ (h2 _ hm hr)
      · obtain ⟨x, hx, hxe⟩ := thereS_iff.1 (hb.has o.log[i] (mem_ownOf.2 ⟨hm, hr⟩))
        have hxo : x ∈ o.log := hfrom x hx (by rw [hxe]; exact hr)
        obtain rfl := ho.log.ent hxo hm hxe
        rcases hx with hx | hx
        · exact hx
        · exfalso
          have hbh := ho.log.get hi
          have hrd := hR.wait _ hx
          have hin : ∀ y, (∃ z ∈ o.log.take i, z.id = y) → ∃ z ∈ (bring s (ownOf o.log o.region)).log, z.id = y := fun y ⟨z, hz, hzy⟩ => by
            rw [List.mem_take_iff_getElem] at hz
            obtain ⟨j, hj, rfl⟩ := hz
            exact ⟨_, ih j (by omega) (by omega), hzy⟩
          have : readyP (bring s (ownOf o.log o.region)).log o.log[i] = true := by
            unfold readyP
            rw [Bool.and_eq_true, decide_eq_true_eq, List.all_eq_true]
            refine ⟨?_, fun y hy => any_isThe.2 (hin y (hbh.links y hy))⟩
            have hp := num_pos (ho.log.mem hm)
            by_cases hle : o.log[i].id.n ≤ (cnt o.log[i].id.r (bring s (ownOf o.log o.region)).log : Int)
            · obtain ⟨z, hz, hze⟩ := hR.log.num_of o.log[i].id.r (k := o.log[i].id.n.toNat) (by omega) (by omega)
              refine absurd ?_ (hR.new _ hx z hz)
              rw [hze]
              have h3 : o.log[i].id = ⟨o.log[i].id.r, o.log[i].id.n⟩ := rfl
              have h4 : ((o.log[i].id.n.toNat : Nat) : Int) = o.log[i].id.n := by omega
              rw [h4]
            · by_cases hone : 1 < o.log[i].id.n
              · have hnum := hbh.num
                obtain ⟨z, hz, hze⟩ := (ho.log.take i).num_of o.log[i].id.r (k := cnt o.log[i].id.r (o.log.take i)) (by omega) (Nat.le_refl _)
                obtain ⟨w, hw, hwe⟩ := hin z.id ⟨z, hz, rfl⟩
                have := hR.log.num_le hw
                rw [hwe, hze] at this
                simp at this
                omega
              · omega
          rw [hrd] at this
          cases this
  refine ⟨hb, fun e he => ?_, ?_⟩
  · obtain ⟨i, hi, rfl⟩ := List.getElem_of_mem he
    exact key i hi
  · cases hw : (bring s (ownOf o.log o.region)).waits with
    | nil => rfl
    | cons x t' =>
      exfalso
      have hx : x ∈ (bring s (ownOf o.log o.region)).waits := by rw [hw]; simp
      have hxr : x.id.r = o.region := by
        have k1 := hR.far x hx
        rw [hb.region] at k1
        rcases hreg _ (r_of_ok (ok_of_err (hR.err x hx))) with k | k
        · exact absurd k k1
        · exact k
      obtain ⟨i, hi, rfl⟩ := List.getElem_of_mem (hfrom x (.inr hx) hxr)
      exact hR.new _ hx _ (key i hi) rfl
end Go.Proofs.YtlioojekjnigiafGreat.AM
/- Worlds: what a doer does. -/
namespace Go.Proofs.YtlioojekjnigiafGreat.AM
set_option linter.unusedVariables false
set_option linter.unusedSimpArgs false
theorem other_ok (n : Int) : PCall Tryz.prog 254 [dInt n] (dInt (IntKind.i64.wrap (1 - n))) := by
  refine pcall_cut tab_all tab_mixed Tryz.func254 (by kernel_rfl) Tryz.ntmps254 rfl ?_
  conv => whnf
  conv => whnf
  repeat (first | (refine Conf.mk (by kernel_rfl) ?_; conv => whnf) | (refine SeqOk.go ?_; conv => whnf))
  exact Ret.int rfl
set_option maxHeartbeats 0 in
theorem wreceive0_ok (a b : Site') (u v : List Entry') (e : Entry') (hs : SiteOk a) (he : e.links.length ≤ 140737488355328) (hz : recvErr a e = 0) : ECall Tryz.prog 255 [.ptr 0 0, dInt 0, e.arg] [(0, .vars 184 2 [.row 1, .row 2] true), (1, .vars 32 3 (sitesC a b) true), (2, .vars 22 1 [.row 3, .row 4] true), (3, .rows 28 5 (u.map Entry'.enc) true), (4, .rows 28 5 (v.map Entry'.enc) true)] 5 (dInt 0) [(0, .vars 184 2 [.row 1, .row 2] true), (1, .vars 32 3 (sitesC (recvAns a e) b) true), (2, .vars 22 1 [.row 3, .row 4] true), (3, .rows 28 5 (u.map Entry'.enc) true), (4, .rows 28 5 (v.map Entry'.enc) true)] 0 := by
  have hr := Receive_ok a hs e he
  rw [hz] at hr
  refine acall_cut tab_all tab_mixed Tryz.func255 (by kernel_rfl) Tryz.ntmps255 rfl ?_
  conv => whnf
  conv => whnf
  repeat (first | (refine Conf.mk (by kernel_rfl) ?_; conv => whnf) | (refine SeqOk.go ?_; conv => whnf))
  refine .mk 0 rfl (by show 0 < 6 / 3; decide) ?_
  conv => whnf
  repeat (first | (refine Conf.mk (by kernel_rfl) ?_; conv => whnf) | (refine SeqOk.go ?_; conv => whnf))
  refine .data _ _ hr rfl ?_
  conv => whnf
  repeat (first | (refine Conf.mk (by kernel_rfl) ?_; conv => whnf) | (refine SeqOk.go ?_; conv => whnf))
  refine BoolCase.no rfl ?_
  conv => whnf
  repeat (first | (refine Conf.mk (by kernel_rfl) ?_; conv => whnf) | (refine SeqOk.go ?_; conv => whnf))
  refine .mk 0 rfl (by show 0 < 6 / 3; decide) ?_
  conv => whnf
  repeat (first | (refine Conf.mk (by kernel_rfl) ?_; conv => whnf) | (refine SeqOk.go ?_; conv => whnf))
  exact .mk [] [0, 1, 2, 3, 4] (dInt 0) [(0, .vars 184 2 [.row 1, .row 2] true), (1, .vars 32 3 (sitesC (recvAns a e) b) true), (2, .vars 22 1 [.row 3, .row 4] true), (3, .rows 28 5 (u.map Entry'.enc) true), (4, .rows 28 5 (v.map Entry'.enc) true)] rfl (.same rfl) ⟨⟨rfl, rfl, rfl, .same rfl, rfl, .same rfl, rfl, trivial⟩, ⟨rfl, rfl, rfl, .same rfl, rfl, .same rfl, rfl, .same rfl, rfl, .same rfl, rfl, .same rfl, rfl, .same rfl, rfl, trivial⟩, ⟨rfl, rfl, rfl, .same rfl, rfl, .same rfl, rfl, trivial⟩, ⟨rfl, rfl, rfl, rfl⟩, ⟨rfl, rfl, rfl, rfl⟩, trivial⟩ rfl rfl ⟨rfl, rfl, rfl⟩
set_option maxHeartbeats 0 in
theorem isPlace0_ok (ds : List (List D)) (u v : List Entry') (n : Int) (hl : u.length ≤ 1000) : PCall Tryz.prog 256 [.dat (.ptr [.list ds, .list ([u, v].map wayEnc)]), dInt 0, dInt n] (dBool (decide (0 ≤ n) && decide (n < u.length))) := by
  refine pcall_cut tab_all tab_mixed Tryz.func256 (by kernel_rfl) Tryz.ntmps256 rfl ?_
  conv => whnf
  conv => whnf
  repeat (first | (refine Conf.mk (by kernel_rfl) ?_; conv => whnf) | (refine SeqOk.go ?_; conv => whnf))
  refine ⟨fun h => ?_, fun h => ?_⟩
  · conv => whnf
    repeat (first | (refine Conf.mk (by kernel_rfl) ?_; conv => whnf) | (refine SeqOk.go ?_; conv => whnf))
    refine AtIdx.ofMap (l := [u, v]) (i := 0) (by simp) rfl ?_
    conv => whnf
    repeat (first | (refine Conf.mk (by kernel_rfl) ?_; conv => whnf) | (refine SeqOk.go ?_; conv => whnf))
    exact Ret.bool (by rw [h, Bool.true_and, List.length_map]; rfl)
  · conv => whnf
    repeat (first | (refine Conf.mk (by kernel_rfl) ?_; conv => whnf) | (refine SeqOk.go ?_; conv => whnf))
    exact Ret.bool (by rw [h, Bool.false_and])
set_option maxHeartbeats 0 in
theorem take0_no (a b : Site') (u v : List Entry') (n : Int) (hl : u.length ≤ 1000) (hn : n < 0 ∨ (u.length : Int) ≤ n) : ECall Tryz.prog 206 [.ptr 0 0, dInt 0, dInt n] [(0, .vars 184 2 [.row 1, .row 2] true), (1, .vars 32 3 (sitesC a b) true), (2, .vars 22 1 [.row 3, .row 4] true), (3, .rows 28 5 (u.map Entry'.enc) true), (4, .rows 28 5 (v.map Entry'.enc) true)] 5 (.tup [zeroE.arg, dInt 5]) [(0, .vars 184 2 [.row 1, .row 2] true), (1, .vars 32 3 (sitesC a b) true), (2, .vars 22 1 [.row 3, .row 4] true), (3, .rows 28 5 (u.map Entry'.enc) true), (4, .rows 28 5 (v.map Entry'.enc) true)] 0 := by
  have hp := isPlace0_ok ([a, b].map Site'.enc) u v n hl
  rw [show (decide (0 ≤ n) && decide (n < (u.length : Int))) = false by simp; omega] at hp
  refine acall_cut tab_all tab_mixed Tryz.func206 (by kernel_rfl) Tryz.ntmps206 rfl ?_
  conv => whnf
  conv => whnf
  repeat (first | (refine Conf.mk (by kernel_rfl) ?_; conv => whnf) | (refine SeqOk.go ?_; conv => whnf))
  refine .look _ _ hp.kb (by kernel_rfl) rfl ?_
  conv => whnf
  repeat (first | (refine Conf.mk (by kernel_rfl) ?_; conv => whnf) | (refine SeqOk.go ?_; conv => whnf))
  exact .mk [] [0, 1, 2, 3, 4] (.tup [zeroE.arg, dInt 5]) [(0, .vars 184 2 [.row 1, .row 2] true), (1, .vars 32 3 (sitesC a b) true), (2, .vars 22 1 [.row 3, .row 4] true), (3, .rows 28 5 (u.map Entry'.enc) true), (4, .rows 28 5 (v.map Entry'.enc) true)] rfl (.tups ⟨.aggs ⟨.same rfl, .same rfl, .same rfl, .same rfl, .data rfl, trivial⟩, .same rfl, trivial⟩) ⟨⟨rfl, rfl, rfl, .same rfl, rfl, .same rfl, rfl, trivial⟩, ⟨rfl, rfl, rfl, .same rfl, rfl, .same rfl, rfl, .same rfl, rfl, .same rfl, rfl, .same rfl, rfl, .same rfl, rfl, trivial⟩, ⟨rfl, rfl, rfl, .same rfl, rfl, .same rfl, rfl, trivial⟩, ⟨rfl, rfl, rfl, rfl⟩, ⟨rfl, rfl, rfl, rfl⟩, trivial⟩ rfl rfl ⟨rfl, rfl, rfl⟩
set_option maxHeartbeats 0 in
theorem take0_ok (a b : Site') (u v : List Entry') (n : Nat) (hl : u.length ≤ 1000) (hn : n < u.length) : ECall Tryz.prog 206 [.ptr 0 0, dInt 0, dInt n] [(0, .vars 184 2 [.row 1, .row 2] true), (1, .vars 32 3 (sitesC a b) true), (2, .vars 22 1 [.row 3, .row 4] true), (3, .rows 28 5 (u.map Entry'.enc) true), (4, .rows 28 5 (v.map Entry'.enc) true)] 5 (.tup [u[n].arg, dInt 0]) [(0, .vars 184 2 [.row 1, .row 2] true), (1, .vars 32 3 (sitesC a b) true), (2, .vars 22 1 [.row 5, .row 4] true), (3, .dead), (4, .rows 28 5 (v.map Entry'.enc) true), (5, .rows 28 5 ((u.eraseIdx n).map Entry'.enc) true)] 1 := by
  have hp := isPlace0_ok ([a, b].map Site'.enc) u v n hl
  rw [show (decide (0 ≤ (n : Int)) && decide ((n : Int) < (u.length : Int))) = true by simp; omega] at hp
  refine acall_cut tab_all tab_mixed Tryz.func206 (by kernel_rfl) Tryz.ntmps206 rfl ?_
  conv => whnf
  conv => whnf
  repeat (first | (refine Conf.mk (by kernel_rfl) ?_; conv => whnf) | (refine SeqOk.go ?_; conv => whnf))
  refine .look _ _ hp.kb (by kernel_rfl) rfl ?_
  conv => whnf
  repeat (first | (refine Conf.mk (by kernel_rfl) ?_; conv => whnf) | (refine SeqOk.go ?_; conv => whnf))
  refine .mk 0 rfl (by show 0 < 2 / 1; decide) ?_
  conv => whnf
  repeat (first | (refine Conf.mk (by kernel_rfl) ?_; conv => whnf) | (refine SeqOk.go ?_; conv => whnf))
  refine AtIdx.ofMap hn rfl ?_
  conv => whnf
  repeat (first | (refine Conf.mk (by kernel_rfl) ?_; conv => whnf) | (refine SeqOk.go ?_; conv => whnf))
  refine .mk _ (by rw [List.getElem?_map, List.getElem?_eq_getElem hn]; rfl) ?_
  conv => whnf
  repeat (first | (refine Conf.mk (by kernel_rfl) ?_; conv => whnf) | (refine SeqOk.go ?_; conv => whnf))
  refine .mk 0 rfl (by show 0 < 2 / 1; decide) ?_
  conv => whnf
  repeat (first | (refine Conf.mk (by kernel_rfl) ?_; conv => whnf) | (refine SeqOk.go ?_; conv => whnf))
  refine .eff [3] _ _ _ _ 1 (deleteEntry_ok u n hn hl) rfl rfl rfl rfl rfl ?_
  conv => whnf
  repeat (first | (refine Conf.mk (by kernel_rfl) ?_; conv => whnf) | (refine SeqOk.go ?_; conv => whnf))
  refine .mk 0 rfl (by show 0 < 2 / 1; decide) ?_
  conv => whnf
  repeat (first | (refine Conf.mk (by kernel_rfl) ?_; conv => whnf) | (refine SeqOk.go ?_; conv => whnf))
  exact .mk [] [0, 1, 2, 3, 4, 7] (.tup [u[n].arg, dInt 0]) [(0, .vars 184 2 [.row 1, .row 2] true), (1, .vars 32 3 (sitesC a b) true), (2, .vars 22 1 [.row 5, .row 4] true), (3, .dead), (4, .rows 28 5 (v.map Entry'.enc) true), (5, .rows 28 5 ((u.eraseIdx n).map Entry'.enc) true)] rfl (.same rfl) ⟨⟨rfl, rfl, rfl, .same rfl, rfl, .same rfl, rfl, trivial⟩, ⟨rfl, rfl, rfl, .same rfl, rfl, .same rfl, rfl, .same rfl, rfl, .same rfl, rfl, .same rfl, rfl, .same rfl, rfl, trivial⟩, ⟨rfl, rfl, rfl, .same rfl, rfl, .same rfl, rfl, trivial⟩, trivial, ⟨rfl, rfl, rfl, rfl⟩, ⟨rfl, rfl, rfl, rfl⟩, trivial⟩ rfl rfl ⟨rfl, rfl, rfl⟩
set_option maxHeartbeats 0 in
theorem bring0_no (a b : Site') (u v : List Entry') (n : Int) (hl : u.length ≤ 1000) (hn : n < 0 ∨ (u.length : Int) ≤ n) : ECall Tryz.prog 205 [.ptr 0 0, dInt 0, dInt n] [(0, .vars 184 2 [.row 1, .row 2] true), (1, .vars 32 3 (sitesC a b) true), (2, .vars 22 1 [.row 3, .row 4] true), (3, .rows 28 5 (u.map Entry'.enc) true), (4, .rows 28 5 (v.map Entry'.enc) true)] 5 (dInt 5) [(0, .vars 184 2 [.row 1, .row 2] true), (1, .vars 32 3 (sitesC a b) true), (2, .vars 22 1 [.row 3, .row 4] true), (3, .rows 28 5 (u.map Entry'.enc) true), (4, .rows 28 5 (v.map Entry'.enc) true)] 0 := by
  refine acall_cut tab_all tab_mixed Tryz.func205 (by kernel_rfl) Tryz.ntmps205 rfl ?_
  conv => whnf
  conv => whnf
  repeat (first | (refine Conf.mk (by kernel_rfl) ?_; conv => whnf) | (refine SeqOk.go ?_; conv => whnf))
  refine .eff [0, 1, 2, 3, 4] _ _ _ _ 0 (take0_no a b u v n hl hn) rfl rfl rfl rfl rfl ?_
  conv => whnf
  repeat (first | (refine Conf.mk (by kernel_rfl) ?_; conv => whnf) | (refine SeqOk.go ?_; conv => whnf))
  refine BoolCase.yes rfl ?_
  conv => whnf
  repeat (first | (refine Conf.mk (by kernel_rfl) ?_; conv => whnf) | (refine SeqOk.go ?_; conv => whnf))
  exact .mk [] [0, 1, 2, 3, 4] (dInt 5) [(0, .vars 184 2 [.row 1, .row 2] true), (1, .vars 32 3 (sitesC a b) true), (2, .vars 22 1 [.row 3, .row 4] true), (3, .rows 28 5 (u.map Entry'.enc) true), (4, .rows 28 5 (v.map Entry'.enc) true)] rfl (.same rfl) ⟨⟨rfl, rfl, rfl, .same rfl, rfl, .same rfl, rfl, trivial⟩, ⟨rfl, rfl, rfl, .same rfl, rfl, .same rfl, rfl, .same rfl, rfl, .same rfl, rfl, .same rfl, rfl, .same rfl, rfl, trivial⟩, ⟨rfl, rfl, rfl, .same rfl, rfl, .same rfl, rfl, trivial⟩, ⟨rfl, rfl, rfl, rfl⟩, ⟨rfl, rfl, rfl, rfl⟩, trivial⟩ rfl rfl ⟨rfl, rfl, rfl⟩
set_option maxHeartbeats 0 in
theorem bring0_ok (a b : Site') (u v : List Entry') (n : Nat) (hl : u.length ≤ 1000) (hn : n < u.length) (hs : SiteOk a) (he : u[n].links.length ≤ 140737488355328) (hz : recvErr a u[n] = 0) : ECall Tryz.prog 205 [.ptr 0 0, dInt 0, dInt n] [(0, .vars 184 2 [.row 1, .row 2] true), (1, .vars 32 3 (sitesC a b) true), (2, .vars 22 1 [.row 3, .row 4] true), (3, .rows 28 5 (u.map Entry'.enc) true), (4, .rows 28 5 (v.map Entry'.enc) true)] 5 (dInt 0) [(0, .vars 184 2 [.row 1, .row 2] true), (1, .vars 32 3 (sitesC (recvAns a u[n]) b) true), (2, .vars 22 1 [.row 5, .row 4] true), (3, .dead), (4, .rows 28 5 (v.map Entry'.enc) true), (5, .rows 28 5 ((u.eraseIdx n).map Entry'.enc) true)] 1 := by
  have hr := wreceive0_ok a b (u.eraseIdx n) v u[n] hs he hz
  refine acall_cut tab_all tab_mixed Tryz.func205 (by kernel_rfl) Tryz.ntmps205 rfl ?_
  conv => whnf
  conv => whnf
  repeat (first | (refine Conf.mk (by kernel_rfl) ?_; conv => whnf) | (refine SeqOk.go ?_; conv => whnf))
  refine .eff [0, 1, 2, 3, 4] _ _ _ _ 1 (take0_ok a b u v n hl hn) rfl rfl rfl rfl rfl ?_
  conv => whnf
  repeat (first | (refine Conf.mk (by kernel_rfl) ?_; conv => whnf) | (refine SeqOk.go ?_; conv => whnf))
  refine BoolCase.no rfl ?_
  conv => whnf
  repeat (first | (refine Conf.mk (by kernel_rfl) ?_; conv => whnf) | (refine SeqOk.go ?_; conv => whnf))
  refine .eff [0, 1, 2, 5, 4] _ _ _ _ 0 hr rfl rfl rfl rfl rfl ?_
  conv => whnf
  repeat (first | (refine Conf.mk (by kernel_rfl) ?_; conv => whnf) | (refine SeqOk.go ?_; conv => whnf))
  exact .mk [] [0, 1, 2, 3, 4, 5] (dInt 0) [(0, .vars 184 2 [.row 1, .row 2] true), (1, .vars 32 3 (sitesC (recvAns a u[n]) b) true), (2, .vars 22 1 [.row 5, .row 4] true), (3, .dead), (4, .rows 28 5 (v.map Entry'.enc) true), (5, .rows 28 5 ((u.eraseIdx n).map Entry'.enc) true)] rfl (.same rfl) ⟨⟨rfl, rfl, rfl, .same rfl, rfl, .same rfl, rfl, trivial⟩, ⟨rfl, rfl, rfl, .same rfl, rfl, .same rfl, rfl, .same rfl, rfl, .same rfl, rfl, .same rfl, rfl, .same rfl, rfl, trivial⟩, ⟨rfl, rfl, rfl, .same rfl, rfl, .same rfl, rfl, trivial⟩, trivial, ⟨rfl, rfl, rfl, rfl⟩, ⟨rfl, rfl, rfl, rfl⟩, trivial⟩ rfl rfl ⟨rfl, rfl, rfl⟩
set_option maxHeartbeats 0 in
theorem again0_no (a b : Site') (u v : List Entry') (n : Int) (hl : u.length ≤ 1000) (hn : n < 0 ∨ (u.length : Int) ≤ n) : ECall Tryz.prog 207 [.ptr 0 0, dInt 0, dInt n] [(0, .vars 184 2 [.row 1, .row 2] true), (1, .vars 32 3 (sitesC a b) true), (2, .vars 22 1 [.row 3, .row 4] true), (3, .rows 28 5 (u.map Entry'.enc) true), (4, .rows 28 5 (v.map Entry'.enc) true)] 5 (dInt 5) [(0, .vars 184 2 [.row 1, .row 2] true), (1, .vars 32 3 (sitesC a b) true), (2, .vars 22 1 [.row 3, .row 4] true), (3, .rows 28 5 (u.map Entry'.enc) true), (4, .rows 28 5 (v.map Entry'.enc) true)] 0 := by
  have hp := isPlace0_ok ([a, b].map Site'.enc) u v n hl
  rw [show (decide (0 ≤ n) && decide (n < (u.length : Int))) = false by simp; omega] at hp
  refine acall_cut tab_all tab_mixed Tryz.func207 (by kernel_rfl) Tryz.ntmps207 rfl ?_
  conv => whnf
  conv => whnf
  repeat (first | (refine Conf.mk (by kernel_rfl) ?_; conv => whnf) | (refine SeqOk.go ?_; conv => whnf))
  refine .look _ _ hp.kb (by kernel_rfl) rfl ?_
  conv => whnf
  repeat (first | (refine Conf.mk (by kernel_rfl) ?_; conv => whnf) | (refine SeqOk.go ?_; conv => whnf))
  exact .mk [] [0, 1, 2, 3, 4] (dInt 5) [(0, .vars 184 2 [.row 1, .row 2] true), (1, .vars 32 3 (sitesC a b) true), (2, .vars 22 1 [.row 3, .row 4] true), (3, .rows 28 5 (u.map Entry'.enc) true), (4, .rows 28 5 (v.map Entry'.enc) true)] rfl (.same rfl) ⟨⟨rfl, rfl, rfl, .same rfl, rfl, .same rfl, rfl, trivial⟩, ⟨rfl, rfl, rfl, .same rfl, rfl, .same rfl, rfl, .same rfl, rfl, .same rfl, rfl, .same rfl, rfl, .same rfl, rfl, trivial⟩, ⟨rfl, rfl, rfl, .same rfl, rfl, .same rfl, rfl, trivial⟩, ⟨rfl, rfl, rfl, rfl⟩, ⟨rfl, rfl, rfl, rfl⟩, trivial⟩ rfl rfl ⟨rfl, rfl, rfl⟩
set_option maxHeartbeats 0 in
theorem again0_full (a b : Site') (u v : List Entry') (n : Nat) (hl : u.length ≤ 1000) (hn : n < u.length) (hf : u.length = 30) : ECall Tryz.prog 207 [.ptr 0 0, dInt 0, dInt n] [(0, .vars 184 2 [.row 1, .row 2] true), (1, .vars 32 3 (sitesC a b) true), (2, .vars 22 1 [.row 3, .row 4] true), (3, .rows 28 5 (u.map Entry'.enc) true), (4, .rows 28 5 (v.map Entry'.enc) true)] 5 (dInt 2) [(0, .vars 184 2 [.row 1, .row 2] true), (1, .vars 32 3 (sitesC a b) true), (2, .vars 22 1 [.row 3, .row 4] true), (3, .rows 28 5 (u.map Entry'.enc) true), (4, .rows 28 5 (v.map Entry'.enc) true)] 0 := by
  have hp := isPlace0_ok ([a, b].map Site'.enc) u v n hl
  rw [show (decide (0 ≤ (n : Int)) && decide ((n : Int) < (u.length : Int))) = true by simp; omega] at hp
  refine acall_cut tab_all tab_mixed Tryz.func207 (by kernel_rfl) Tryz.ntmps207 rfl ?_
  conv => whnf
  conv => whnf
  repeat (first | (refine Conf.mk (by kernel_rfl) ?_; conv => whnf) | (refine SeqOk.go ?_; conv => whnf))
  refine .look _ _ hp.kb (by kernel_rfl) rfl ?_
  conv => whnf
  repeat (first | (refine Conf.mk (by kernel_rfl) ?_; conv => whnf) | (refine SeqOk.go ?_; conv => whnf))
  refine .mk 0 rfl (by show 0 < 2 / 1; decide) ?_
  conv => whnf
  repeat (first | (refine Conf.mk (by kernel_rfl) ?_; conv => whnf) | (refine SeqOk.go ?_; conv => whnf))
  refine BoolCase.yes (by simp; omega) ?_
  conv => whnf
  repeat (first | (refine Conf.mk (by kernel_rfl) ?_; conv => whnf) | (refine SeqOk.go ?_; conv => whnf))
  exact .mk [] [0, 1, 2, 3, 4] (dInt 2) [(0, .vars 184 2 [.row 1, .row 2] true), (1, .vars 32 3 (sitesC a b) true), (2, .vars 22 1 [.row 3, .row 4] true), (3, .rows 28 5 (u.map Entry'.enc) true), (4, .rows 28 5 (v.map Entry'.enc) true)] rfl (.same rfl) ⟨⟨rfl, rfl, rfl, .same rfl, rfl, .same rfl, rfl, trivial⟩, ⟨rfl, rfl, rfl, .same rfl, rfl, .same rfl, rfl, .same rfl, rfl, .same rfl, rfl, .same rfl, rfl, .same rfl, rfl, trivial⟩, ⟨rfl, rfl, rfl, .same rfl, rfl, .same rfl, rfl, trivial⟩, ⟨rfl, rfl, rfl, rfl⟩, ⟨rfl, rfl, rfl, rfl⟩, trivial⟩ rfl rfl ⟨rfl, rfl, rfl⟩
set_option maxHeartbeats 0 in
theorem again0_ok (a b : Site') (u v : List Entry') (n : Nat) (hl : u.length ≤ 1000) (hn : n < u.length) (hf : u.length ≠ 30) (he : u[n].links.length ≤ 1000) : ECall Tryz.prog 207 [.ptr 0 0, dInt 0, dInt n] [(0, .vars 184 2 [.row 1, .row 2] true), (1, .vars 32 3 (sitesC a b) true), (2, .vars 22 1 [.row 3, .row 4] true), (3, .rows 28 5 (u.map Entry'.enc) true), (4, .rows 28 5 (v.map Entry'.enc) true)] 5 (dInt 0) [(0, .vars 184 2 [.row 1, .row 2] true), (1, .vars 32 3 (sitesC a b) true), (2, .vars 22 1 [.row 5, .row 4] true), (3, .dead), (4, .rows 28 5 (v.map Entry'.enc) true), (5, .rows 28 5 ((u ++ [u[n]]).map Entry'.enc) true)] 1 := by
  have hp := isPlace0_ok ([a, b].map Site'.enc) u v n hl
  rw [show (decide (0 ≤ (n : Int)) && decide ((n : Int) < (u.length : Int))) = true by simp; omega] at hp
  have hrow : (u ++ [u[n]]).map Entry'.enc = u.map Entry'.enc ++ [u[n].enc] := by rw [List.map_append]; rfl
  refine acall_cut tab_all tab_mixed Tryz.func207 (by kernel_rfl) Tryz.ntmps207 rfl ?_
  conv => whnf
  conv => whnf
  repeat (first | (refine Conf.mk (by kernel_rfl) ?_; conv => whnf) | (refine SeqOk.go ?_; conv => whnf))
  refine .look _ _ hp.kb (by kernel_rfl) rfl ?_
  conv => whnf
  repeat (first | (refine Conf.mk (by kernel_rfl) ?_; conv => whnf) | (refine SeqOk.go ?_; conv => whnf))
  refine .mk 0 rfl (by show 0 < 2 / 1; decide) ?_
  conv => whnf
  repeat (first | (refine Conf.mk (by kernel_rfl) ?_; conv => whnf) | (refine SeqOk.go ?_; conv => whnf))
  refine BoolCase.no (by simp; omega) ?_
  conv => whnf
  repeat (first | (refine Conf.mk (by kernel_rfl) ?_; conv => whnf) | (refine SeqOk.go ?_; conv => whnf))
  refine .mk 0 rfl (by show 0 < 2 / 1; decide) ?_
  conv => whnf
  repeat (first | (refine Conf.mk (by kernel_rfl) ?_; conv => whnf) | (refine SeqOk.go ?_; conv => whnf))
  refine .mk 0 rfl (by show 0 < 2 / 1; decide) ?_
  conv => whnf
  repeat (first | (refine Conf.mk (by kernel_rfl) ?_; conv => whnf) | (refine SeqOk.go ?_; conv => whnf))
  refine AtIdx.ofMap hn rfl ?_
  conv => whnf
  repeat (first | (refine Conf.mk (by kernel_rfl) ?_; conv => whnf) | (refine SeqOk.go ?_; conv => whnf))
  refine .mk _ (by rw [List.getElem?_map, List.getElem?_eq_getElem hn]; rfl) ?_
  conv => whnf
  repeat (first | (refine Conf.mk (by kernel_rfl) ?_; conv => whnf) | (refine SeqOk.go ?_; conv => whnf))
  refine .data _ _ (wcopyEntry_ok u[n] he) rfl ?_
  conv => whnf
  repeat (first | (refine Conf.mk (by kernel_rfl) ?_; conv => whnf) | (refine SeqOk.go ?_; conv => whnf))
  refine ⟨by simp [Entry'.enc], by simp; omega, ?_⟩
  conv => whnf
  repeat (first | (refine Conf.mk (by kernel_rfl) ?_; conv => whnf) | (refine SeqOk.go ?_; conv => whnf))
  refine .mk 0 rfl (by show 0 < 2 / 1; decide) ?_
  conv => whnf
  repeat (first | (refine Conf.mk (by kernel_rfl) ?_; conv => whnf) | (refine SeqOk.go ?_; conv => whnf))
  exact .mk [] [0, 1, 2, 3, 4, 6] (dInt 0) [(0, .vars 184 2 [.row 1, .row 2] true), (1, .vars 32 3 (sitesC a b) true), (2, .vars 22 1 [.row 5, .row 4] true), (3, .dead), (4, .rows 28 5 (v.map Entry'.enc) true), (5, .rows 28 5 ((u ++ [u[n]]).map Entry'.enc) true)] rfl (.same rfl) ⟨⟨rfl, rfl, rfl, .same rfl, rfl, .same rfl, rfl, trivial⟩, ⟨rfl, rfl, rfl, .same rfl, rfl, .same rfl, rfl, .same rfl, rfl, .same rfl, rfl, .same rfl, rfl, .same rfl, rfl, trivial⟩, ⟨rfl, rfl, rfl, .same rfl, rfl, .same rfl, rfl, trivial⟩, trivial, ⟨rfl, rfl, rfl, rfl⟩, ⟨rfl, rfl, rfl, hrow⟩, trivial⟩ rfl rfl ⟨rfl, rfl, rfl⟩
set_option maxHeartbeats 0 in
theorem wreceive1_ok (a b : Site') (u v : List Entry') (e : Entry') (hs : SiteOk b) (he : e.links.length ≤ 140737488355328) (hz : recvErr b e = 0) : ECall Tryz.prog 255 [.ptr 0 0, dInt 1, e.arg] [(0, .vars 184 2 [.row 1, .row 2] true), (1, .vars 32 3 (sitesC a b) true), (2, .vars 22 1 [.row 3, .row 4] true), (3, .rows 28 5 (u.map Entry'.enc) true), (4, .rows 28 5 (v.map Entry'.enc) true)] 5 (dInt 0) [(0, .vars 184 2 [.row 1, .row 2] true), (1, .vars 32 3 (sitesC a (recvAns b e)) true), (2, .vars 22 1 [.row 3, .row 4] true), (3, .rows 28 5 (u.map Entry'.enc) true), (4, .rows 28 5 (v.map Entry'.enc) true)] 0 := by
  have hr := Receive_ok b hs e he
  rw [hz] at hr
  refine acall_cut tab_all tab_mixed Tryz.func255 (by kernel_rfl) Tryz.ntmps255 rfl ?_
  conv => whnf
  conv => whnf
  repeat (first | (refine Conf.mk (by kernel_rfl) ?_; conv => whnf) | (refine SeqOk.go ?_; conv => whnf))
  refine .mk 1 rfl (by show 1 < 6 / 3; decide) ?_
  conv => whnf
  repeat (first | (refine Conf.mk (by kernel_rfl) ?_; conv => whnf) | (refine SeqOk.go ?_; conv => whnf))
  refine .data _ _ hr rfl ?_
  conv => whnf
  repeat (first | (refine Conf.mk (by kernel_rfl) ?_; conv => whnf) | (refine SeqOk.go ?_; conv => whnf))
  refine BoolCase.no rfl ?_
  conv => whnf
  repeat (first | (refine Conf.mk (by kernel_rfl) ?_; conv => whnf) | (refine SeqOk.go ?_; conv => whnf))
  refine .mk 1 rfl (by show 1 < 6 / 3; decide) ?_
  conv => whnf
  repeat (first | (refine Conf.mk (by kernel_rfl) ?_; conv => whnf) | (refine SeqOk.go ?_; conv => whnf))
  exact .mk [] [0, 1, 2, 3, 4] (dInt 0) [(0, .vars 184 2 [.row 1, .row 2] true), (1, .vars 32 3 (sitesC a (recvAns b e)) true), (2, .vars 22 1 [.row 3, .row 4] true), (3, .rows 28 5 (u.map Entry'.enc) true), (4, .rows 28 5 (v.map Entry'.enc) true)] rfl (.same rfl) ⟨⟨rfl, rfl, rfl, .same rfl, rfl, .same rfl, rfl, trivial⟩, ⟨rfl, rfl, rfl, .same rfl, rfl, .same rfl, rfl, .same rfl, rfl, .same rfl, rfl, .same rfl, rfl, .same rfl, rfl, trivial⟩, ⟨rfl, rfl, rfl, .same rfl, rfl, .same rfl, rfl, trivial⟩, ⟨rfl, rfl, rfl, rfl⟩, ⟨rfl, rfl, rfl, rfl⟩, trivial⟩ rfl rfl ⟨rfl, rfl, rfl⟩
set_option maxHeartbeats 0 in
theorem isPlace1_ok (ds : List (List D)) (u v : List Entry') (n : Int) (hl : v.length ≤ 1000) : PCall Tryz.prog 256 [.dat (.ptr [.list ds, .list ([u, v].map wayEnc)]), dInt 1, dInt n] (dBool (decide (0 ≤ n) && decide (n < v.length))) := by
  refine pcall_cut tab_all tab_mixed Tryz.func256 (by kernel_rfl) Tryz.ntmps256 rfl ?_
  conv => whnf
  conv => whnf
  repeat (first | (refine Conf.mk (by kernel_rfl) ?_; conv => whnf) | (refine SeqOk.go ?_; conv => whnf))
  refine ⟨fun h => ?_, fun h => ?_⟩
  · conv => whnf
    repeat (first | (refine Conf.mk (by kernel_rfl) ?_; conv => whnf) | (refine SeqOk.go ?_; conv => whnf))
    refine AtIdx.ofMap (l := [u, v]) (i := 1) (by simp) rfl ?_
    conv => whnf
    repeat (first | (refine Conf.mk (by kernel_rfl) ?_; conv => whnf) | (refine SeqOk.go ?_; conv => whnf))
    exact Ret.bool (by rw [h, Bool.true_and, List.length_map]; rfl)
  · conv => whnf
    repeat (first | (refine Conf.mk (by kernel_rfl) ?_; conv => whnf) | (refine SeqOk.go ?_; conv => whnf))
    exact Ret.bool (by rw [h, Bool.false_and])
set_option maxHeartbeats 0 in
theorem take1_no (a b : Site') (u v : List Entry') (n : Int) (hl : v.length ≤ 1000) (hn : n < 0 ∨ (v.length : Int) ≤ n) : ECall Tryz.prog 206 [.ptr 0 0, dInt 1, dInt n] [(0, .vars 184 2 [.row 1, .row 2] true), (1, .vars 32 3 (sitesC a b) true), (2, .vars 22 1 [.row 3, .row 4] true), (3, .rows 28 5 (u.map Entry'.enc) true), (4, .rows 28 5 (v.map Entry'.enc) true)] 5 (.tup [zeroE.arg, dInt 5]) [(0, .vars 184 2 [.row 1, .row 2] true), (1, .vars 32 3 (sitesC a b) true), (2, .vars 22 1 [.row 3, .row 4] true), (3, .rows 28 5 (u.map Entry'.enc) true), (4, .rows 28 5 (v.map Entry'.enc) true)] 0 := by
  have hp := isPlace1_ok ([a, b].map Site'.enc) u v n hl
  rw [show (decide (0 ≤ n) && decide (n < (v.length : Int))) = false by simp; omega] at hp
  refine acall_cut tab_all tab_mixed Tryz.func206 (by kernel_rfl) Tryz.ntmps206 rfl ?_
  conv => whnf
  conv => whnf
  repeat (first | (refine Conf.mk (by kernel_rfl) ?_; conv => whnf) | (refine SeqOk.go ?_; conv => whnf))
  refine .look _ _ hp.kb (by kernel_rfl) rfl ?_
  conv => whnf
  repeat (first | (refine Conf.mk (by kernel_rfl) ?_; conv => whnf) | (refine SeqOk.go ?_; conv => whnf))
  exact .mk [] [0, 1, 2, 3, 4] (.tup [zeroE.arg, dInt 5]) [(0, .vars 184 2 [.row 1, .row 2] true), (1, .vars 32 3 (sitesC a b) true), (2, .vars 22 1 [.row 3, .row 4] true), (3, .rows 28 5 (u.map Entry'.enc) true), (4, .rows 28 5 (v.map Entry'.enc) true)] rfl (.tups ⟨.aggs ⟨.same rfl, .same rfl, .same rfl, .same rfl, .data rfl, trivial⟩, .same rfl, trivial⟩) ⟨⟨rfl, rfl, rfl, .same rfl, rfl, .same rfl, rfl, trivial⟩, ⟨rfl, rfl, rfl, .same rfl, rfl, .same rfl, rfl, .same rfl, rfl, .same rfl, rfl, .same rfl, rfl, .same rfl, rfl, trivial⟩, ⟨rfl, rfl, rfl, .same rfl, rfl, .same rfl, rfl, trivial⟩, ⟨rfl, rfl, rfl, rfl⟩, ⟨rfl, rfl, rfl, rfl⟩, trivial⟩ rfl rfl ⟨rfl, rfl, rfl⟩
set_option maxHeartbeats 0 in
theorem take1_ok (a b : Site') (u v : List Entry') (n : Nat) (hl : v.length ≤ 1000) (hn : n < v.length) : ECall Tryz.prog 206 [.ptr 0 0, dInt 1, dInt n] [(0, .vars 184 2 [.row 1, .row 2] true), (1, .vars 32 3 (sitesC a b) true), (2, .vars 22 1 [.row 3, .row 4] true), (3, .rows 28 5 (u.map Entry'.enc) true), (4, .rows 28 5 (v.map Entry'.enc) true)] 5 (.tup [v[n].arg, dInt 0]) [(0, .vars 184 2 [.row 1, .row 2] true), (1, .vars 32 3 (sitesC a b) true), (2, .vars 22 1 [.row 3, .row 5] true), (3, .rows 28 5 (u.map Entry'.enc) true), (4, .dead), (5, .rows 28 5 ((v.eraseIdx n).map Entry'.enc) true)] 1 := by
  have hp := isPlace1_ok ([a, b].map Site'.enc) u v n hl
  rw [show (decide (0 ≤ (n : Int)) && decide ((n : Int) < (v.length : Int))) = true by simp; omega] at hp
  refine acall_cut tab_all tab_mixed Tryz.func206 (by kernel_rfl) Tryz.ntmps206 rfl ?_
  conv => whnf
  conv => whnf
  repeat (first | (refine Conf.mk (by kernel_rfl) ?_; conv => whnf) | (refine SeqOk.go ?_; conv => whnf))
  refine .look _ _ hp.kb (by kernel_rfl) rfl ?_
  conv => whnf
  repeat (first | (refine Conf.mk (by kernel_rfl) ?_; conv => whnf) | (refine SeqOk.go ?_; conv => whnf))
  refine .mk 1 rfl (by show 1 < 2 / 1; decide) ?_
  conv => whnf
  repeat (first | (refine Conf.mk (by kernel_rfl) ?_; conv => whnf) | (refine SeqOk.go ?_; conv => whnf))
  refine AtIdx.ofMap hn rfl ?_
  conv => whnf
  repeat (first | (refine Conf.mk (by kernel_rfl) ?_; conv => whnf) | (refine SeqOk.go ?_; conv => whnf))
  refine .mk _ (by rw [List.getElem?_map, List.getElem?_eq_getElem hn]; rfl) ?_
  conv => whnf
  repeat (first | (refine Conf.mk (by kernel_rfl) ?_; conv => whnf) | (refine SeqOk.go ?_; conv => whnf))
  refine .mk 1 rfl (by show 1 < 2 / 1; decide) ?_
  conv => whnf
  repeat (first | (refine Conf.mk (by kernel_rfl) ?_; conv => whnf) | (refine SeqOk.go ?_; conv => whnf))
  refine .eff [4] _ _ _ _ 1 (deleteEntry_ok v n hn hl) rfl rfl rfl rfl rfl ?_
  conv => whnf
  repeat (first | (refine Conf.mk (by kernel_rfl) ?_; conv => whnf) | (refine SeqOk.go ?_; conv => whnf))
  refine .mk 1 rfl (by show 1 < 2 / 1; decide) ?_
  conv => whnf
  repeat (first | (refine Conf.mk (by kernel_rfl) ?_; conv => whnf) | (refine SeqOk.go ?_; conv => whnf))
  exact .mk [] [0, 1, 2, 3, 4, 7] (.tup [v[n].arg, dInt 0]) [(0, .vars 184 2 [.row 1, .row 2] true), (1, .vars 32 3 (sitesC a b) true), (2, .vars 22 1 [.row 3, .row 5] true), (3, .rows 28 5 (u.map Entry'.enc) true), (4, .dead), (5, .rows 28 5 ((v.eraseIdx n).map Entry'.enc) true)] rfl (.same rfl) ⟨⟨rfl, rfl, rfl, .same rfl, rfl, .same rfl, rfl, trivial⟩, ⟨rfl, rfl, rfl, .same rfl, rfl, .same rfl, rfl, .same rfl, rfl, .same rfl, rfl, .same rfl, rfl, .same rfl, rfl, trivial⟩, ⟨rfl, rfl, rfl, .same rfl, rfl, .same rfl, rfl, trivial⟩, ⟨rfl, rfl, rfl, rfl⟩, trivial, ⟨rfl, rfl, rfl, rfl⟩, trivial⟩ rfl rfl ⟨rfl, rfl, rfl⟩
set_option maxHeartbeats 0 in
theorem bring1_no (a b : Site') (u v : List Entry') (n : Int) (hl : v.length ≤ 1000) (hn : n < 0 ∨ (v.length : Int) ≤ n) : ECall Tryz.prog 205 [.ptr 0 0, dInt 1, dInt n] [(0, .vars 184 2 [.row 1, .row 2] true), (1, .vars 32 3 (sitesC a b) true), (2, .vars 22 1 [.row 3, .row 4] true), (3, .rows 28 5 (u.map Entry'.enc) true), (4, .rows 28 5 (v.map Entry'.enc) true)] 5 (dInt 5) [(0, .vars 184 2 [.row 1, .row 2] true), (1, .vars 32 3 (sitesC a b) true), (2, .vars 22 1 [.row 3, .row 4] true), (3, .rows 28 5 (u.map Entry'.enc) true), (4, .rows 28 5 (v.map Entry'.enc) true)] 0 := by
  refine acall_cut tab_all tab_mixed Tryz.func205 (by kernel_rfl) Tryz.ntmps205 rfl ?_
  conv => whnf
  conv => whnf
  repeat (first | (refine Conf.mk (by kernel_rfl) ?_; conv => whnf) | (refine SeqOk.go ?_; conv => whnf))
  refine .eff [0, 1, 2, 3, 4] _ _ _ _ 0 (take1_no a b u v n hl hn) rfl rfl rfl rfl rfl ?_
  conv => whnf
  repeat (first | (refine Conf.mk (by kernel_rfl) ?_; conv => whnf) | (refine SeqOk.go ?_; conv => whnf))
  refine BoolCase.yes rfl ?_
  conv => whnf
  repeat (first | (refine Conf.mk (by kernel_rfl) ?_; conv => whnf) | (refine SeqOk.go ?_; conv => whnf))
  exact .mk [] [0, 1, 2, 3, 4] (dInt 5) [(0, .vars 184 2 [.row 1, .row 2] true), (1, .vars 32 3 (sitesC a b) true), (2, .vars 22 1 [.row 3, .row 4] true), (3, .rows 28 5 (u.map Entry'.enc) true), (4, .rows 28 5 (v.map Entry'.enc) true)] rfl (.same rfl) ⟨⟨rfl, rfl, rfl, .same rfl, rfl, .same rfl, rfl, trivial⟩, ⟨rfl, rfl, rfl, .same rfl, rfl, .same rfl, rfl, .same rfl, rfl, .same rfl, rfl, .same rfl, rfl, .same rfl, rfl, trivial⟩, ⟨rfl, rfl, rfl, .same rfl, rfl, .same rfl, rfl, trivial⟩, ⟨rfl, rfl, rfl, rfl⟩, ⟨rfl, rfl, rfl, rfl⟩, trivial⟩ rfl rfl ⟨rfl, rfl, rfl⟩
set_option maxHeartbeats 0 in
theorem bring1_ok (a b : Site') (u v : List Entry') (n : Nat) (hl : v.length ≤ 1000) (hn : n < v.length) (hs : SiteOk b) (he : v[n].links.length ≤ 140737488355328) (hz : recvErr b v[n] = 0) : ECall Tryz.prog 205 [.ptr 0 0, dInt 1, dInt n] [(0, .vars 184 2 [.row 1, .row 2] true), (1, .vars 32 3 (sitesC a b) true), (2, .vars 22 1 [.row 3, .row 4] true), (3, .rows 28 5 (u.map Entry'.enc) true), (4, .rows 28 5 (v.map Entry'.enc) true)] 5 (dInt 0) [(0, .vars 184 2 [.row 1, .row 2] true), (1, .vars 32 3 (sitesC a (recvAns b v[n])) true), (2, .vars 22 1 [.row 3, .row 5] true), (3, .rows 28 5 (u.map Entry'.enc) true), (4, .dead), (5, .rows 28 5 ((v.eraseIdx n).map Entry'.enc) true)] 1 := by
  have hr := wreceive1_ok a b u (v.eraseIdx n) v[n] hs he hz
  refine acall_cut tab_all tab_mixed Tryz.func205 (by kernel_rfl) Tryz.ntmps205 rfl ?_
  conv => whnf
  conv => whnf
  repeat (first | (refine Conf.mk (by kernel_rfl) ?_; conv => whnf) | (refine SeqOk.go ?_; conv => whnf))
  refine .eff [0, 1, 2, 3, 4] _ _ _ _ 1 (take1_ok a b u v n hl hn) rfl rfl rfl rfl rfl ?_
  conv => whnf
  repeat (first | (refine Conf.mk (by kernel_rfl) ?_; conv => whnf) | (refine SeqOk.go ?_; conv => whnf))
  refine BoolCase.no rfl ?_
  conv => whnf
  repeat (first | (refine Conf.mk (by kernel_rfl) ?_; conv => whnf) | (refine SeqOk.go ?_; conv => whnf))
  refine .eff [0, 1, 2, 3, 5] _ _ _ _ 0 hr rfl rfl rfl rfl rfl ?_
  conv => whnf
  repeat (first | (refine Conf.mk (by kernel_rfl) ?_; conv => whnf) | (refine SeqOk.go ?_; conv => whnf))
  exact .mk [] [0, 1, 2, 3, 4, 5] (dInt 0) [(0, .vars 184 2 [.row 1, .row 2] true), (1, .vars 32 3 (sitesC a (recvAns b v[n])) true), (2, .vars 22 1 [.row 3, .row 5] true), (3, .rows 28 5 (u.map Entry'.enc) true), (4, .dead), (5, .rows 28 5 ((v.eraseIdx n).map Entry'.enc) true)] rfl (.same rfl) ⟨⟨rfl, rfl, rfl, .same rfl, rfl, .same rfl, rfl, trivial⟩, ⟨rfl, rfl, rfl, .same rfl, rfl, .same rfl, rfl, .same rfl, rfl, .same rfl, rfl, .same rfl, rfl, .same rfl, rfl, trivial⟩, ⟨rfl, rfl, rfl, .same rfl, rfl, .same rfl, rfl, trivial⟩, ⟨rfl, rfl, rfl, rfl⟩, trivial, ⟨rfl, rfl, rfl, rfl⟩, trivial⟩ rfl rfl ⟨rfl, rfl, rfl⟩
set_option maxHeartbeats 0 in
theorem again1_no (a b : Site') (u v : List Entry') (n : Int) (hl : v.length ≤ 1000) (hn : n < 0 ∨ (v.length : Int) ≤ n) : ECall Tryz.prog 207 [.ptr 0 0, dInt 1, dInt n] [(0, .vars 184 2 [.row 1, .row 2] true), (1, .vars 32 3 (sitesC a b) true), (2, .vars 22 1 [.row 3, .row 4] true), (3, .rows 28 5 (u.map Entry'.enc) true), (4, .rows 28 5 (v.map Entry'.enc) true)] 5 (dInt 5) [(0, .vars 184 2 [.row 1, .row 2] true), (1, .vars 32 3 (sitesC a b) true), (2, .vars 22 1 [.row 3, .row 4] true), (3, .rows 28 5 (u.map Entry'.enc) true), (4, .rows 28 5 (v.map Entry'.enc) true)] 0 := by
  have hp := isPlace1_ok ([a, b].map Site'.enc) u v n hl
  rw [show (decide (0 ≤ n) && decide (n < (v.length : Int))) = false by simp; omega] at hp
  refine acall_cut tab_all tab_mixed Tryz.func207 (by kernel_rfl) Tryz.ntmps207 rfl ?_
  conv => whnf
  conv => whnf
  repeat (first | (refine Conf.mk (by kernel_rfl) ?_; conv => whnf) | (refine SeqOk.go ?_; conv => whnf))
  refine .look _ _ hp.kb (by kernel_rfl) rfl ?_
  conv => whnf
  repeat (first | (refine Conf.mk (by kernel_rfl) ?_; conv => whnf) | (refine SeqOk.go ?_; conv => whnf))
  exact .mk [] [0, 1, 2, 3, 4] (dInt 5) [(0, .vars 184 2 [.row 1, .row 2] true), (1, .vars 32 3 (sitesC a b) true), (2, .vars 22 1 [.row 3, .row 4] true), (3, .rows 28 5 (u.map Entry'.enc) true), (4, .rows 28 5 (v.map Entry'.enc) true)] rfl (.same rfl) ⟨⟨rfl, rfl, rfl, .same rfl, rfl, .same rfl, rfl, trivial⟩, ⟨rfl, rfl, rfl, .same rfl, rfl, .same rfl, rfl, .same rfl, rfl, .same rfl, rfl, .same rfl, rfl, .same rfl, rfl, trivial⟩, ⟨rfl, rfl, rfl, .same rfl, rfl, .same rfl, rfl, trivial⟩, ⟨rfl, rfl, rfl, rfl⟩, ⟨rfl, rfl, rfl, rfl⟩, trivial⟩ rfl rfl ⟨rfl, rfl, rfl⟩
set_option maxHeartbeats 0 in
theorem again1_full (a b : Site') (u v : List Entry') (n : Nat) (hl : v.length ≤ 1000) (hn : n < v.length) (hf : v.length = 30) : ECall Tryz.prog 207 [.ptr 0 0, dInt 1, dInt n] [(0, .vars 184 2 [.row 1, .row 2] true), (1, .vars 32 3 (sitesC a b) true), (2, .vars 22 1 [.row 3, .row 4] true), (3, .rows 28 5 (u.map Entry'.enc) true), (4, .rows 28 5 (v.map Entry'.enc) true)] 5 (dInt 2) [(0, .vars 184 2 [.row 1, .row 2] true), (1, .vars 32 3 (sitesC a b) true), (2, .vars 22 1 [.row 3, .row 4] true), (3, .rows 28 5 (u.map Entry'.enc) true), (4, .rows 28 5 (v.map Entry'.enc) true)] 0 := by
  have hp := isPlace1_ok ([a, b].map Site'.enc) u v n hl
  rw [show (decide (0 ≤ (n : Int)) && decide ((n : Int) < (v.length : Int))) = true by simp; omega] at hp
  refine acall_cut tab_all tab_mixed Tryz.func207 (by kernel_rfl) Tryz.ntmps207 rfl ?_
  conv => whnf
  conv => whnf
  repeat (first | (refine Conf.mk (by kernel_rfl) ?_; conv => whnf) | (refine SeqOk.go ?_; conv => whnf))
  refine .look _ _ hp.kb (by kernel_rfl) rfl ?_
  conv => whnf
  repeat (first | (refine Conf.mk (by kernel_rfl) ?_; conv => whnf) | (refine SeqOk.go ?_; conv => whnf))
  refine .mk 1 rfl (by show 1 < 2 / 1; decide) ?_
  conv => whnf
  repeat (first | (refine Conf.mk (by kernel_rfl) ?_; conv => whnf) | (refine SeqOk.go ?_; conv => whnf))
  refine BoolCase.yes (by simp; omega) ?_
  conv => whnf
  repeat (first | (refine Conf.mk (by kernel_rfl) ?_; conv => whnf) | (refine SeqOk.go ?_; conv => whnf))
  exact .mk [] [0, 1, 2, 3, 4] (dInt 2) [(0, .vars 184 2 [.row 1, .row 2] true), (1, .vars 32 3 (sitesC a b) true), (2, .vars 22 1 [.row 3, .row 4] true), (3, .rows 28 5 (u.map Entry'.enc) true), (4, .rows 28 5 (v.map Entry'.enc) true)] rfl (.same rfl) ⟨⟨rfl, rfl, rfl, .same rfl, rfl, .same rfl, rfl, trivial⟩, ⟨rfl, rfl, rfl, .same rfl, rfl, .same rfl, rfl, .same rfl, rfl, .same rfl, rfl, .same rfl, rfl, .same rfl, rfl, trivial⟩, ⟨rfl, rfl, rfl, .same rfl, rfl, .same rfl, rfl, trivial⟩, ⟨rfl, rfl, rfl, rfl⟩, ⟨rfl, rfl, rfl, rfl⟩, trivial⟩ rfl rfl ⟨rfl, rfl, rfl⟩
set_option maxHeartbeats 0 in
theorem again1_ok (a b : Site') (u v : List Entry') (n : Nat) (hl : v.length ≤ 1000) (hn : n < v.length) (hf : v.length ≠ 30) (he : v[n].links.length ≤ 1000) : ECall Tryz.prog 207 [.ptr 0 0, dInt 1, dInt n] [(0, .vars 184 2 [.row 1, .row 2] true), (1, .vars 32 3 (sitesC a b) true), (2, .vars 22 1 [.row 3, .row 4] true), (3, .rows 28 5 (u.map Entry'.enc) true), (4, .rows 28 5 (v.map Entry'.enc) true)] 5 (dInt 0) [(0, .vars 184 2 [.row 1, .row 2] true), (1, .vars 32 3 (sitesC a b) true), (2, .vars 22 1 [.row 3, .row 5] true), (3, .rows 28 5 (u.map Entry'.enc) true), (4, .dead), (5, .rows 28 5 ((v ++ [v[n]]).map Entry'.enc) true)] 1 := by
  have hp := isPlace1_ok ([a, b].map Site'.enc) u v n hl
  rw [show (decide (0 ≤ (n : Int)) && decide ((n : Int) < (v.length : Int))) = true by simp; omega] at hp
  have hrow : (v ++ [v[n]]).map Entry'.enc = v.map Entry'.enc ++ [v[n].enc] := by rw [List.map_append]; rfl
  refine acall_cut tab_all tab_mixed Tryz.func207 (by kernel_rfl) Tryz.ntmps207 rfl ?_
  conv => whnf
  conv => whnf
  repeat (first | (refine Conf.mk (by kernel_rfl) ?_; conv => whnf) | (refine SeqOk.go ?_; conv => whnf))
  refine .look _ _ hp.kb (by kernel_rfl) rfl ?_
  conv => whnf
  repeat (first | (refine Conf.mk (by kernel_rfl) ?_; conv => whnf) | (refine SeqOk.go ?_; conv => whnf))
  refine .mk 1 rfl (by show 1 < 2 / 1; decide) ?_
  conv => whnf
  repeat (first | (refine Conf.mk (by kernel_rfl) ?_; conv => whnf) | (refine SeqOk.go ?_; conv => whnf))
  refine BoolCase.no (by simp; omega) ?_
  conv => whnf
  repeat (first | (refine Conf.mk (by kernel_rfl) ?_; conv => whnf) | (refine SeqOk.go ?_; conv => whnf))
  refine .mk 1 rfl (by show 1 < 2 / 1; decide) ?_
  conv => whnf
  repeat (first | (refine Conf.mk (by kernel_rfl) ?_; conv => whnf) | (refine SeqOk.go ?_; conv => whnf))
  refine .mk 1 rfl (by show 1 < 2 / 1; decide) ?_
  conv => whnf
  repeat (first | (refine Conf.mk (by kernel_rfl) ?_; conv => whnf) | (refine SeqOk.go ?_; conv => whnf))
  refine AtIdx.ofMap hn rfl ?_
  conv => whnf
  repeat (first | (refine Conf.mk (by kernel_rfl) ?_; conv => whnf) | (refine SeqOk.go ?_; conv => whnf))
  refine .mk _ (by rw [List.getElem?_map, List.getElem?_eq_getElem hn]; rfl) ?_
  conv => whnf
  repeat (first | (refine Conf.mk (by kernel_rfl) ?_; conv => whnf) | (refine SeqOk.go ?_; conv => whnf))
  refine .data _ _ (wcopyEntry_ok v[n] he) rfl ?_
  conv => whnf
  repeat (first | (refine Conf.mk (by kernel_rfl) ?_; conv => whnf) | (refine SeqOk.go ?_; conv => whnf))
  refine ⟨by simp [Entry'.enc], by simp; omega, ?_⟩
  conv => whnf
  repeat (first | (refine Conf.mk (by kernel_rfl) ?_; conv => whnf) | (refine SeqOk.go ?_; conv => whnf))
  refine .mk 1 rfl (by show 1 < 2 / 1; decide) ?_
  conv => whnf
  repeat (first | (refine Conf.mk (by kernel_rfl) ?_; conv => whnf) | (refine SeqOk.go ?_; conv => whnf))
  exact .mk [] [0, 1, 2, 3, 4, 6] (dInt 0) [(0, .vars 184 2 [.row 1, .row 2] true), (1, .vars 32 3 (sitesC a b) true), (2, .vars 22 1 [.row 3, .row 5] true), (3, .rows 28 5 (u.map Entry'.enc) true), (4, .dead), (5, .rows 28 5 ((v ++ [v[n]]).map Entry'.enc) true)] rfl (.same rfl) ⟨⟨rfl, rfl, rfl, .same rfl, rfl, .same rfl, rfl, trivial⟩, ⟨rfl, rfl, rfl, .same rfl, rfl, .same rfl, rfl, .same rfl, rfl, .same rfl, rfl, .same rfl, rfl, .same rfl, rfl, trivial⟩, ⟨rfl, rfl, rfl, .same rfl, rfl, .same rfl, rfl, trivial⟩, ⟨rfl, rfl, rfl, rfl⟩, trivial, ⟨rfl, rfl, rfl, hrow⟩, trivial⟩ rfl rfl ⟨rfl, rfl, rfl⟩
end Go.Proofs.YtlioojekjnigiafGreat.AM
/- Worlds: a doer writes, and brings all. -/
namespace Go.Proofs.YtlioojekjnigiafGreat.AM
set_option linter.unusedVariables false
set_option linter.unusedSimpArgs false
theorem ownOf_succ {l : List Entry'} {r : Int} {k : Nat} (hk : k < l.length) : ownOf (l.take (k + 1)) r = ownOf (l.take k) r ++ if l[k].id.r = r then [l[k]] else [] := by
  unfold ownOf
  rw [List.take_add_one, List.getElem?_eq_getElem hk, List.filter_append]
  congr 1
  by_cases h : l[k].id.r = r <;> simp [h]
theorem other0_ok : PCall Tryz.prog 254 [dInt 0] (dInt 1) := other_ok 0
set_option maxHeartbeats 0 in
theorem write0_no (a b : Site') (u v : List Entry') (c : Int) (t : ByteArray) (hs : SiteOk a) (h : appErr a c t ≠ 0) : ECall Tryz.prog 204 [.ptr 0 0, dInt 0, dInt c, .dat (.str t)] [(0, .vars 184 2 [.row 1, .row 2] true), (1, .vars 32 3 (sitesC a b) true), (2, .vars 22 1 [.row 3, .row 4] true), (3, .rows 28 5 (u.map Entry'.enc) true), (4, .rows 28 5 (v.map Entry'.enc) true)] 5 (dInt (appErr a c t)) [(0, .vars 184 2 [.row 1, .row 2] true), (1, .vars 32 3 (sitesC a b) true), (2, .vars 22 1 [.row 3, .row 4] true), (3, .rows 28 5 (u.map Entry'.enc) true), (4, .rows 28 5 (v.map Entry'.enc) true)] 0 := by
  refine acall_cut tab_all tab_mixed Tryz.func204 (by kernel_rfl) Tryz.ntmps204 rfl ?_
  conv => whnf
  conv => whnf
  repeat (first | (refine Conf.mk (by kernel_rfl) ?_; conv => whnf) | (refine SeqOk.go ?_; conv => whnf))
  refine .mk 0 rfl (by show 0 < 6 / 3; decide) ?_
  conv => whnf
  repeat (first | (refine Conf.mk (by kernel_rfl) ?_; conv => whnf) | (refine SeqOk.go ?_; conv => whnf))
  refine .data _ _ (Append_ok a hs c t) rfl ?_
  conv => whnf
  repeat (first | (refine Conf.mk (by kernel_rfl) ?_; conv => whnf) | (refine SeqOk.go ?_; conv => whnf))
  refine BoolCase.yes (by simpa using h) ?_
  conv => whnf
  repeat (first | (refine Conf.mk (by kernel_rfl) ?_; conv => whnf) | (refine SeqOk.go ?_; conv => whnf))
  exact .mk [] [0, 1, 2, 3, 4] (dInt (appErr a c t)) [(0, .vars 184 2 [.row 1, .row 2] true), (1, .vars 32 3 (sitesC a b) true), (2, .vars 22 1 [.row 3, .row 4] true), (3, .rows 28 5 (u.map Entry'.enc) true), (4, .rows 28 5 (v.map Entry'.enc) true)] rfl (.same rfl) ⟨⟨rfl, rfl, rfl, .same rfl, rfl, .same rfl, rfl, trivial⟩, ⟨rfl, rfl, rfl, .same rfl, rfl, .same rfl, rfl, .same rfl, rfl, .same rfl, rfl, .same rfl, rfl, .same rfl, rfl, trivial⟩, ⟨rfl, rfl, rfl, .same rfl, rfl, .same rfl, rfl, trivial⟩, ⟨rfl, rfl, rfl, rfl⟩, ⟨rfl, rfl, rfl, rfl⟩, trivial⟩ rfl rfl ⟨rfl, rfl, rfl⟩
set_option maxHeartbeats 0 in
theorem write0_full (a b : Site') (u v : List Entry') (c : Int) (t : ByteArray) (hs : SiteOk a) (h : appErr a c t = 0) (hl : v.length ≤ 1000) (hf : 30 ≤ v.length) : ECall Tryz.prog 204 [.ptr 0 0, dInt 0, dInt c, .dat (.str t)] [(0, .vars 184 2 [.row 1, .row 2] true), (1, .vars 32 3 (sitesC a b) true), (2, .vars 22 1 [.row 3, .row 4] true), (3, .rows 28 5 (u.map Entry'.enc) true), (4, .rows 28 5 (v.map Entry'.enc) true)] 5 (dInt 0) [(0, .vars 184 2 [.row 1, .row 2] true), (1, .vars 32 3 (sitesC (appAns a c t) b) true), (2, .vars 22 1 [.row 3, .row 4] true), (3, .rows 28 5 (u.map Entry'.enc) true), (4, .rows 28 5 (v.map Entry'.enc) true)] 0 := by
  refine acall_cut tab_all tab_mixed Tryz.func204 (by kernel_rfl) Tryz.ntmps204 rfl ?_
  conv => whnf
  conv => whnf
  repeat (first | (refine Conf.mk (by kernel_rfl) ?_; conv => whnf) | (refine SeqOk.go ?_; conv => whnf))
  refine .mk 0 rfl (by show 0 < 6 / 3; decide) ?_
  conv => whnf
  repeat (first | (refine Conf.mk (by kernel_rfl) ?_; conv => whnf) | (refine SeqOk.go ?_; conv => whnf))
  refine .data _ _ (Append_ok a hs c t) rfl ?_
  conv => whnf
  repeat (first | (refine Conf.mk (by kernel_rfl) ?_; conv => whnf) | (refine SeqOk.go ?_; conv => whnf))
  refine BoolCase.no (by simp [h]) ?_
  conv => whnf
  repeat (first | (refine Conf.mk (by kernel_rfl) ?_; conv => whnf) | (refine SeqOk.go ?_; conv => whnf))
  refine .mk 0 rfl (by show 0 < 6 / 3; decide) ?_
  conv => whnf
  repeat (first | (refine Conf.mk (by kernel_rfl) ?_; conv => whnf) | (refine SeqOk.go ?_; conv => whnf))
  refine .data _ _ other0_ok rfl ?_
  conv => whnf
  repeat (first | (refine Conf.mk (by kernel_rfl) ?_; conv => whnf) | (refine SeqOk.go ?_; conv => whnf))
  refine .mk 1 rfl (by show 1 < 2 / 1; decide) ?_
  conv => whnf
  repeat (first | (refine Conf.mk (by kernel_rfl) ?_; conv => whnf) | (refine SeqOk.go ?_; conv => whnf))
  refine BoolCase.no (by simp; omega) ?_
  conv => whnf
  repeat (first | (refine Conf.mk (by kernel_rfl) ?_; conv => whnf) | (refine SeqOk.go ?_; conv => whnf))
  exact .mk [] [0, 1, 2, 3, 4] (dInt 0) [(0, .vars 184 2 [.row 1, .row 2] true), (1, .vars 32 3 (sitesC (appAns a c t) b) true), (2, .vars 22 1 [.row 3, .row 4] true), (3, .rows 28 5 (u.map Entry'.enc) true), (4, .rows 28 5 (v.map Entry'.enc) true)] rfl (.same rfl) ⟨⟨rfl, rfl, rfl, .same rfl, rfl, .same rfl, rfl, trivial⟩, ⟨rfl, rfl, rfl, .same rfl, rfl, .same rfl, rfl, .same rfl, rfl, .same rfl, rfl, .same rfl, rfl, .same rfl, rfl, trivial⟩, ⟨rfl, rfl, rfl, .same rfl, rfl, .same rfl, rfl, trivial⟩, ⟨rfl, rfl, rfl, rfl⟩, ⟨rfl, rfl, rfl, rfl⟩, trivial⟩ rfl rfl ⟨rfl, rfl, rfl⟩
set_option maxHeartbeats 0 in
theorem write0_ok (a b : Site') (u v : List Entry') (c : Int) (t : ByteArray) (hs : SiteOk a) (h : appErr a c t = 0) (hl : v.length ≤ 1000) (hf : v.length < 30) : ECall Tryz.prog 204 [.ptr 0 0, dInt 0, dInt c, .dat (.str t)] [(0, .vars 184 2 [.row 1, .row 2] true), (1, .vars 32 3 (sitesC a b) true), (2, .vars 22 1 [.row 3, .row 4] true), (3, .rows 28 5 (u.map Entry'.enc) true), (4, .rows 28 5 (v.map Entry'.enc) true)] 5 (dInt 0) [(0, .vars 184 2 [.row 1, .row 2] true), (1, .vars 32 3 (sitesC (appAns a c t) b) true), (2, .vars 22 1 [.row 3, .row 5] true), (3, .rows 28 5 (u.map Entry'.enc) true), (4, .dead), (5, .rows 28 5 ((v ++ [appE a c t]).map Entry'.enc) true)] 1 := by
  have hrow : (v ++ [appE a c t]).map Entry'.enc = v.map Entry'.enc ++ [(appE a c t).enc] := by rw [List.map_append]; rfl
  refine acall_cut tab_all tab_mixed Tryz.func204 (by kernel_rfl) Tryz.ntmps204 rfl ?_
  conv => whnf
  conv => whnf
  repeat (first | (refine Conf.mk (by kernel_rfl) ?_; conv => whnf) | (refine SeqOk.go ?_; conv => whnf))
  refine .mk 0 rfl (by show 0 < 6 / 3; decide) ?_
  conv => whnf
  repeat (first | (refine Conf.mk (by kernel_rfl) ?_; conv => whnf) | (refine SeqOk.go ?_; conv => whnf))
  refine .data _ _ (Append_ok a hs c t) rfl ?_
  conv => whnf
  repeat (first | (refine Conf.mk (by kernel_rfl) ?_; conv => whnf) | (refine SeqOk.go ?_; conv => whnf))
  refine BoolCase.no (by simp [h]) ?_
  conv => whnf
  repeat (first | (refine Conf.mk (by kernel_rfl) ?_; conv => whnf) | (refine SeqOk.go ?_; conv => whnf))
  refine .mk 0 rfl (by show 0 < 6 / 3; decide) ?_
  conv => whnf
  repeat (first | (refine Conf.mk (by kernel_rfl) ?_; conv => whnf) | (refine SeqOk.go ?_; conv => whnf))
  refine .data _ _ other0_ok rfl ?_
  conv => whnf
  repeat (first | (refine Conf.mk (by kernel_rfl) ?_; conv => whnf) | (refine SeqOk.go ?_; conv => whnf))
  refine .mk 1 rfl (by show 1 < 2 / 1; decide) ?_
  conv => whnf
  repeat (first | (refine Conf.mk (by kernel_rfl) ?_; conv => whnf) | (refine SeqOk.go ?_; conv => whnf))
  refine BoolCase.yes (by simp; omega) ?_
  conv => whnf
  repeat (first | (refine Conf.mk (by kernel_rfl) ?_; conv => whnf) | (refine SeqOk.go ?_; conv => whnf))
  refine .mk 1 rfl (by show 1 < 2 / 1; decide) ?_
  conv => whnf
  repeat (first | (refine Conf.mk (by kernel_rfl) ?_; conv => whnf) | (refine SeqOk.go ?_; conv => whnf))
  refine ⟨by simp [Entry'.enc], by simp; omega, ?_⟩
  conv => whnf
  repeat (first | (refine Conf.mk (by kernel_rfl) ?_; conv => whnf) | (refine SeqOk.go ?_; conv => whnf))
  refine .mk 1 rfl (by show 1 < 2 / 1; decide) ?_
  conv => whnf
  repeat (first | (refine Conf.mk (by kernel_rfl) ?_; conv => whnf) | (refine SeqOk.go ?_; conv => whnf))
  exact .mk [] [0, 1, 2, 3, 4, 8] (dInt 0) [(0, .vars 184 2 [.row 1, .row 2] true), (1, .vars 32 3 (sitesC (appAns a c t) b) true), (2, .vars 22 1 [.row 3, .row 5] true), (3, .rows 28 5 (u.map Entry'.enc) true), (4, .dead), (5, .rows 28 5 ((v ++ [appE a c t]).map Entry'.enc) true)] rfl (.same rfl) ⟨⟨rfl, rfl, rfl, .same rfl, rfl, .same rfl, rfl, trivial⟩, ⟨rfl, rfl, rfl, .same rfl, rfl, .same rfl, rfl, .same rfl, rfl, .same rfl, rfl, .same rfl, rfl, .same rfl, rfl, trivial⟩, ⟨rfl, rfl, rfl, .same rfl, rfl, .same rfl, rfl, trivial⟩, ⟨rfl, rfl, rfl, rfl⟩, trivial, ⟨rfl, rfl, rfl, hrow⟩, trivial⟩ rfl rfl ⟨rfl, rfl, rfl⟩
set_option maxHeartbeats 0 in
theorem bringAll0_ok (a b : Site') (u v : List Entry') (hs : SiteR a) (hi : a.region = 0) (ht : Right b.log) : ECall Tryz.prog 208 [.ptr 0 0, dInt 0] [(0, .vars 184 2 [.row 1, .row 2] true), (1, .vars 32 3 (sitesC a b) true), (2, .vars 22 1 [.row 3, .row 4] true), (3, .rows 28 5 (u.map Entry'.enc) true), (4, .rows 28 5 (v.map Entry'.enc) true)] 5 (dInt 0) [(0, .vars 184 2 [.row 1, .row 2] true), (1, .vars 32 3 (sitesC (bring a (ownOf b.log 1)) b) true), (2, .vars 22 1 [.row 3, .row 4] true), (3, .rows 28 5 (u.map Entry'.enc) true), (4, .rows 28 5 (v.map Entry'.enc) true)] 0 := by
  have hll := ht.len
  have hbr : ∀ k, Brought a (ownOf (b.log.take k) 1) := fun k => brought hs _ _ rfl fun e he => by
    obtain ⟨k1, k2⟩ := mem_ownOf.1 he
    exact ⟨ht.mem (List.mem_of_mem_take k1), by rw [k2, hi]; decide⟩
  refine acall_cut tab_all tab_mixed Tryz.func208 (by kernel_rfl) Tryz.ntmps208 rfl ?_
  conv => whnf
  conv => whnf
  repeat (first | (refine Conf.mk (by kernel_rfl) ?_; conv => whnf) | (refine SeqOk.go ?_; conv => whnf))
  refine .data _ _ other0_ok rfl ?_
  conv => whnf
  repeat (first | (refine Conf.mk (by kernel_rfl) ?_; conv => whnf) | (refine SeqOk.go ?_; conv => whnf))
  refine .mk 1 rfl (by show 1 < 6 / 3; decide) ?_
  conv => whnf
  repeat (first | (refine Conf.mk (by kernel_rfl) ?_; conv => whnf) | (refine SeqOk.go ?_; conv => whnf))
  refine LoopOk.hide fun Q1 hQ1 => ?_
  refine LoopOk.mk (fun m x => ∃ k, k + m = b.log.length ∧ x = ⟨[(21, dInt k), (20, dInt (b.log.map Entry'.enc).length), (19, .dat (.list (b.log.map Entry'.enc))), (0, .ptr 0 0), (1, dInt 0), (5, dInt 1)], 5, [(0, .vars 184 2 [.row 1, .row 2] true), (1, .vars 32 3 (sitesC (bring a (ownOf (b.log.take k) 1)) b) true), (2, .vars 22 1 [.row 3, .row 4] true), (3, .rows 28 5 (u.map Entry'.enc) true), (4, .rows 28 5 (v.map Entry'.enc) true)]⟩) b.log.length (Into.mono (Into.to [0, 1, 2, 3, 4] [(21, dInt (0 : Nat)), (20, dInt (b.log.map Entry'.enc).length), (19, .dat (.list (b.log.map Entry'.enc))), (0, .ptr 0 0), (1, dInt 0), (5, dInt 1)] [(0, .vars 184 2 [.row 1, .row 2] true), (1, .vars 32 3 (sitesC (bring a (ownOf (b.log.take 0) 1)) b) true), (2, .vars 22 1 [.row 3, .row 4] true), (3, .rows 28 5 (u.map Entry'.enc) true), (4, .rows 28 5 (v.map Entry'.enc) true)] (by repeat (first | exact trivial | refine ⟨.same (congrArg dInt (wrap_up (by omega))), ?_⟩ | refine ⟨.same rfl, ?_⟩ | refine ⟨.any _, ?_⟩)) ⟨⟨rfl, rfl, rfl, .same rfl, rfl, .same rfl, rfl, trivial⟩, ⟨rfl, rfl, rfl, .same rfl, rfl, .same rfl, rfl, .same rfl, rfl, .same rfl, rfl, .same rfl, rfl, .same rfl, rfl, trivial⟩, ⟨rfl, rfl, rfl, .same rfl, rfl, .same rfl, rfl, trivial⟩, ⟨rfl, rfl, rfl, rfl⟩, ⟨rfl, rfl, rfl, rfl⟩, trivial⟩ rfl rfl) fun s' h => ⟨0, by omega, h⟩) ?_
  rintro m x ⟨k, hkm, rfl⟩
  conv => whnf
  repeat (first | (refine Conf.mk (by kernel_rfl) ?_; conv => whnf) | (refine SeqOk.go ?_; conv => whnf))
  refine ⟨fun h => ?_, fun h => ?_⟩
  · have hk := lt_of_len h
    have hm := List.getElem_mem hk
    have hst := ownOf_succ (r := 1) hk
    conv => whnf
    repeat (first | (refine Conf.mk (by kernel_rfl) ?_; conv => whnf) | (refine SeqOk.go ?_; conv => whnf))
    refine AtIdx.ofMap hk rfl ?_
    conv => whnf
    repeat (first | (refine Conf.mk (by kernel_rfl) ?_; conv => whnf) | (refine SeqOk.go ?_; conv => whnf))
    by_cases hr : b.log[k].id.r = 1
    · rw [if_pos hr] at hst
      have hR := (hbr k).right
      have hz := recv_far hR (ht.mem hm) (by rw [(hbr k).region, hi, hr]; decide)
      have hb : bring a (ownOf (b.log.take (k + 1)) 1) = recvAns (bring a (ownOf (b.log.take k) 1)) b.log[k] := by rw [hst, bring_snoc]
      refine BoolCase.no (by simp [hr]) ?_
      conv => whnf
      repeat (first | (refine Conf.mk (by kernel_rfl) ?_; conv => whnf) | (refine SeqOk.go ?_; conv => whnf))
      refine .eff [0, 1, 2, 3, 4] _ _ _ _ 0 (wreceive0_ok (bring a (ownOf (b.log.take k) 1)) b u v b.log[k] hR.ok (by have := (six_of (ht.mem hm)).2; omega) hz) rfl rfl rfl rfl rfl ?_
      conv => whnf
      repeat (first | (refine Conf.mk (by kernel_rfl) ?_; conv => whnf) | (refine SeqOk.go ?_; conv => whnf))
      refine BoolCase.no rfl ?_
      conv => whnf
      repeat (first | (refine Conf.mk (by kernel_rfl) ?_; conv => whnf) | (refine SeqOk.go ?_; conv => whnf))
      rw [← hb]
      exact Into.mono (Into.to [0, 1, 2, 3, 4] [(21, dInt (k + 1 : Nat)), (20, dInt (b.log.map Entry'.enc).length), (19, .dat (.list (b.log.map Entry'.enc))), (0, .ptr 0 0), (1, dInt 0), (5, dInt 1)] [(0, .vars 184 2 [.row 1, .row 2] true), (1, .vars 32 3 (sitesC (bring a (ownOf (b.log.take (k + 1)) 1)) b) true), (2, .vars 22 1 [.row 3, .row 4] true), (3, .rows 28 5 (u.map Entry'.enc) true), (4, .rows 28 5 (v.map Entry'.enc) true)] (by repeat (first | exact trivial | refine ⟨.same (congrArg dInt (wrap_up (by omega))), ?_⟩ | refine ⟨.same rfl, ?_⟩ | refine ⟨.any _, ?_⟩)) ⟨⟨rfl, rfl, rfl, .same rfl, rfl, .same rfl, rfl, trivial⟩, ⟨rfl, rfl, rfl, .same rfl, rfl, .same rfl, rfl, .same rfl, rfl, .same rfl, rfl, .same rfl, rfl, .same rfl, rfl, trivial⟩, ⟨rfl, rfl, rfl, .same rfl, rfl, .same rfl, rfl, trivial⟩, ⟨rfl, rfl, rfl, rfl⟩, ⟨rfl, rfl, rfl, rfl⟩, trivial⟩ rfl rfl) fun s' h => ⟨m - 1, by omega, k + 1, by omega, h⟩
    · rw [if_neg hr, List.append_nil] at hst
      refine BoolCase.yes (by simpa using hr) ?_
      conv => whnf
      repeat (first | (refine Conf.mk (by kernel_rfl) ?_; conv => whnf) | (refine SeqOk.go ?_; conv => whnf))
      rw [← hst]
      exact Into.mono (Into.to [0, 1, 2, 3, 4] [(21, dInt (k + 1 : Nat)), (20, dInt (b.log.map Entry'.enc).length), (19, .dat (.list (b.log.map Entry'.enc))), (0, .ptr 0 0), (1, dInt 0), (5, dInt 1)] [(0, .vars 184 2 [.row 1, .row 2] true), (1, .vars 32 3 (sitesC (bring a (ownOf (b.log.take (k + 1)) 1)) b) true), (2, .vars 22 1 [.row 3, .row 4] true), (3, .rows 28 5 (u.map Entry'.enc) true), (4, .rows 28 5 (v.map Entry'.enc) true)] (by repeat (first | exact trivial | refine ⟨.same (congrArg dInt (wrap_up (by omega))), ?_⟩ | refine ⟨.same rfl, ?_⟩ | refine ⟨.any _, ?_⟩)) ⟨⟨rfl, rfl, rfl, .same rfl, rfl, .same rfl, rfl, trivial⟩, ⟨rfl, rfl, rfl, .same rfl, rfl, .same rfl, rfl, .same rfl, rfl, .same rfl, rfl, .same rfl, rfl, .same rfl, rfl, trivial⟩, ⟨rfl, rfl, rfl, .same rfl, rfl, .same rfl, rfl, trivial⟩, ⟨rfl, rfl, rfl, rfl⟩, ⟨rfl, rfl, rfl, rfl⟩, trivial⟩ rfl rfl) fun s' h => ⟨m - 1, by omega, k + 1, by omega, h⟩
  · have hk : k = b.log.length := by have := ge_of_len h; omega
    subst hk
    conv => whnf
    repeat (first | (refine Conf.mk (by kernel_rfl) ?_; conv => whnf) | (refine SeqOk.go ?_; conv => whnf))
    subst hQ1
    conv => whnf
    rw [List.take_length]
    exact .mk [] [0, 1, 2, 3, 4] (dInt 0) [(0, .vars 184 2 [.row 1, .row 2] true), (1, .vars 32 3 (sitesC (bring a (ownOf b.log 1)) b) true), (2, .vars 22 1 [.row 3, .row 4] true), (3, .rows 28 5 (u.map Entry'.enc) true), (4, .rows 28 5 (v.map Entry'.enc) true)] rfl (.same rfl) ⟨⟨rfl, rfl, rfl, .same rfl, rfl, .same rfl, rfl, trivial⟩, ⟨rfl, rfl, rfl, .same rfl, rfl, .same rfl, rfl, .same rfl, rfl, .same rfl, rfl, .same rfl, rfl, .same rfl, rfl, trivial⟩, ⟨rfl, rfl, rfl, .same rfl, rfl, .same rfl, rfl, trivial⟩, ⟨rfl, rfl, rfl, rfl⟩, ⟨rfl, rfl, rfl, rfl⟩, trivial⟩ rfl rfl ⟨rfl, rfl, rfl⟩
theorem other1_ok : PCall Tryz.prog 254 [dInt 1] (dInt 0) := other_ok 1
set_option maxHeartbeats 0 in
theorem write1_no (a b : Site') (u v : List Entry') (c : Int) (t : ByteArray) (hs : SiteOk b) (h : appErr b c t ≠ 0) : ECall Tryz.prog 204 [.ptr 0 0, dInt 1, dInt c, .dat (.str t)] [(0, .vars 184 2 [.row 1, .row 2] true), (1, .vars 32 3 (sitesC a b) true), (2, .vars 22 1 [.row 3, .row 4] true), (3, .rows 28 5 (u.map Entry'.enc) true), (4, .rows 28 5 (v.map Entry'.enc) true)] 5 (dInt (appErr b c t)) [(0, .vars 184 2 [.row 1, .row 2] true), (1, .vars 32 3 (sitesC a b) true), (2, .vars 22 1 [.row 3, .row 4] true), (3, .rows 28 5 (u.map Entry'.enc) true), (4, .rows 28 5 (v.map Entry'.enc) true)] 0 := by
  refine acall_cut tab_all tab_mixed Tryz.func204 (by kernel_rfl) Tryz.ntmps204 rfl ?_
  conv => whnf
  conv => whnf
  repeat (first | (refine Conf.mk (by kernel_rfl) ?_; conv => whnf) | (refine SeqOk.go ?_; conv => whnf))
  refine .mk 1 rfl (by show 1 < 6 / 3; decide) ?_
  conv => whnf
  repeat (first | (refine Conf.mk (by kernel_rfl) ?_; conv => whnf) | (refine SeqOk.go ?_; conv => whnf))
  refine .data _ _ (Append_ok b hs c t) rfl ?_
  conv => whnf
  repeat (first | (refine Conf.mk (by kernel_rfl) ?_; conv => whnf) | (refine SeqOk.go ?_; conv => whnf))
  refine BoolCase.yes (by simpa using h) ?_
  conv => whnf
  repeat (first | (refine Conf.mk (by kernel_rfl) ?_; conv => whnf) | (refine SeqOk.go ?_; conv => whnf))
  exact .mk [] [0, 1, 2, 3, 4] (dInt (appErr b c t)) [(0, .vars 184 2 [.row 1, .row 2] true), (1, .vars 32 3 (sitesC a b) true), (2, .vars 22 1 [.row 3, .row 4] true), (3, .rows 28 5 (u.map Entry'.enc) true), (4, .rows 28 5 (v.map Entry'.enc) true)] rfl (.same rfl) ⟨⟨rfl, rfl, rfl, .same rfl, rfl, .same rfl, rfl, trivial⟩, ⟨rfl, rfl, rfl, .same rfl, rfl, .same rfl, rfl, .same rfl, rfl, .same rfl, rfl, .same rfl, rfl, .same rfl, rfl, trivial⟩, ⟨rfl, rfl, rfl, .same rfl, rfl, .same rfl, rfl, trivial⟩, ⟨rfl, rfl, rfl, rfl⟩, ⟨rfl, rfl, rfl, rfl⟩, trivial⟩ rfl rfl ⟨rfl, rfl, rfl⟩
set_option maxHeartbeats 0 in
theorem write1_full (a b : Site') (u v : List Entry') (c : Int) (t : ByteArray) (hs : SiteOk b) (h : appErr b c t = 0) (hl : u.length ≤ 1000) (hf : 30 ≤ u.length) : ECall Tryz.prog 204 [.ptr 0 0, dInt 1, dInt c, .dat (.str t)] [(0, .vars 184 2 [.row 1, .row 2] true), (1, .vars 32 3 (sitesC a b) true), (2, .vars 22 1 [.row 3, .row 4] true), (3, .rows 28 5 (u.map Entry'.enc) true), (4, .rows 28 5 (v.map Entry'.enc) true)] 5 (dInt 0) [(0, .vars 184 2 [.row 1, .row 2] true), (1, .vars 32 3 (sitesC a (appAns b c t)) true), (2, .vars 22 1 [.row 3, .row 4] true), (3, .rows 28 5 (u.map Entry'.enc) true), (4, .rows 28 5 (v.map Entry'.enc) true)] 0 := by
  refine acall_cut tab_all tab_mixed Tryz.func204 (by kernel_rfl) Tryz.ntmps204 rfl ?_
  conv => whnf
  conv => whnf
  repeat (first | (refine Conf.mk (by kernel_rfl) ?_; conv => whnf) | (refine SeqOk.go ?_; conv => whnf))
  refine .mk 1 rfl (by show 1 < 6 / 3; decide) ?_
  conv => whnf
  repeat (first | (refine Conf.mk (by kernel_rfl) ?_; conv => whnf) | (refine SeqOk.go ?_; conv => whnf))
  refine .data _ _ (Append_ok b hs c t) rfl ?_
  conv => whnf
  repeat (first | (refine Conf.mk (by kernel_rfl) ?_; conv => whnf) | (refine SeqOk.go ?_; conv => whnf))
  refine BoolCase.no (by simp [h]) ?_
  conv => whnf
  repeat (first | (refine Conf.mk (by kernel_rfl) ?_; conv => whnf) | (refine SeqOk.go ?_; conv => whnf))
  refine .mk 1 rfl (by show 1 < 6 / 3; decide) ?_
  conv => whnf
  repeat (first | (refine Conf.mk (by kernel_rfl) ?_; conv => whnf) | (refine SeqOk.go ?_; conv => whnf))
  refine .data _ _ other1_ok rfl ?_
  conv => whnf
  repeat (first | (refine Conf.mk (by kernel_rfl) ?_; conv => whnf) | (refine SeqOk.go ?_; conv => whnf))
  refine .mk 0 rfl (by show 0 < 2 / 1; decide) ?_
  conv => whnf
  repeat (first | (refine Conf.mk (by kernel_rfl) ?_; conv => whnf) | (refine SeqOk.go ?_; conv => whnf))
  refine BoolCase.no (by simp; omega) ?_
  conv => whnf
  repeat (first | (refine Conf.mk (by kernel_rfl) ?_; conv => whnf) | (refine SeqOk.go ?_; conv => whnf))
  exact .mk [] [0, 1, 2, 3, 4] (dInt 0) [(0, .vars 184 2 [.row 1, .row 2] true), (1, .vars 32 3 (sitesC a (appAns b c t)) true), (2, .vars 22 1 [.row 3, .row 4] true), (3, .rows 28 5 (u.map Entry'.enc) true), (4, .rows 28 5 (v.map Entry'.enc) true)] rfl (.same rfl) ⟨⟨rfl, rfl, rfl, .same rfl, rfl, .same rfl, rfl, trivial⟩, ⟨rfl, rfl, rfl, .same rfl, rfl, .same rfl, rfl, .same rfl, rfl, .same rfl, rfl, .same rfl, rfl, .same rfl, rfl, trivial⟩, ⟨rfl, rfl, rfl, .same rfl, rfl, .same rfl, rfl, trivial⟩, ⟨rfl, rfl, rfl, rfl⟩, ⟨rfl, rfl, rfl, rfl⟩, trivial⟩ rfl rfl ⟨rfl, rfl, rfl⟩
set_option maxHeartbeats 0 in
theorem write1_ok (a b : Site') (u v : List Entry') (c : Int) (t : ByteArray) (hs : SiteOk b) (h : appErr b c t = 0) (hl : u.length ≤ 1000) (hf : u.length < 30) : ECall Tryz.prog 204 [.ptr 0 0, dInt 1, dInt c, .dat (.str t)] [(0, .vars 184 2 [.row 1, .row 2] true), (1, .vars 32 3 (sitesC a b) true), (2, .vars 22 1 [.row 3, .row 4] true), (3, .rows 28 5 (u.map Entry'.enc) true), (4, .rows 28 5 (v.map Entry'.enc) true)] 5 (dInt 0) [(0, .vars 184 2 [.row 1, .row 2] true), (1, .vars 32 3 (sitesC a (appAns b c t)) true), (2, .vars 22 1 [.row 5, .row 4] true), (3, .dead), (4, .rows 28 5 (v.map Entry'.enc) true), (5, .rows 28 5 ((u ++ [appE b c t]).map Entry'.enc) true)] 1 := by
  have hrow : (u ++ [appE b c t]).map Entry'.enc = u.map Entry'.enc ++ [(appE b c t).enc] := by rw [List.map_append]; rfl
  refine acall_cut tab_all tab_mixed Tryz.func204 (by kernel_rfl) Tryz.ntmps204 rfl ?_
  conv => whnf
  conv => whnf
  repeat (first | (refine Conf.mk (by kernel_rfl) ?_; conv => whnf) | (refine SeqOk.go ?_; conv => whnf))
  refine .mk 1 rfl (by show 1 < 6 / 3; decide) ?_
  conv => whnf
  repeat (first | (refine Conf.mk (by kernel_rfl) ?_; conv => whnf) | (refine SeqOk.go ?_; conv => whnf))
  refine .data _ _ (Append_ok b hs c t) rfl ?_
  conv => whnf
  repeat (first | (refine Conf.mk (by kernel_rfl) ?_; conv => whnf) | (refine SeqOk.go ?_; conv => whnf))
  refine BoolCase.no (by simp [h]) ?_
  conv => whnf
  repeat (first | (refine Conf.mk (by kernel_rfl) ?_; conv => whnf) | (refine SeqOk.go ?_; conv => whnf))
  refine .mk 1 rfl (by show 1 < 6 / 3; decide) ?_
  conv => whnf
  repeat (first | (refine Conf.mk (by kernel_rfl) ?_; conv => whnf) | (refine SeqOk.go ?_; conv => whnf))
  refine .data _ _ other1_ok rfl ?_
  conv => whnf
  repeat (first | (refine Conf.mk (by kernel_rfl) ?_; conv => whnf) | (refine SeqOk.go ?_; conv => whnf))
  refine .mk 0 rfl (by show 0 < 2 / 1; decide) ?_
  conv => whnf
  repeat (first | (refine Conf.mk (by kernel_rfl) ?_; conv => whnf) | (refine SeqOk.go ?_; conv => whnf))
  refine BoolCase.yes (by simp; omega) ?_
  conv => whnf
  repeat (first | (refine Conf.mk (by kernel_rfl) ?_; conv => whnf) | (refine SeqOk.go ?_; conv => whnf))
  refine .mk 0 rfl (by show 0 < 2 / 1; decide) ?_
  conv => whnf
  repeat (first | (refine Conf.mk (by kernel_rfl) ?_; conv => whnf) | (refine SeqOk.go ?_; conv => whnf))
  refine ⟨by simp [Entry'.enc], by simp; omega, ?_⟩
  conv => whnf
  repeat (first | (refine Conf.mk (by kernel_rfl) ?_; conv => whnf) | (refine SeqOk.go ?_; conv => whnf))
  refine .mk 0 rfl (by show 0 < 2 / 1; decide) ?_
  conv => whnf
  repeat (first | (refine Conf.mk (by kernel_rfl) ?_; conv => whnf) | (refine SeqOk.go ?_; conv => whnf))
  exact .mk [] [0, 1, 2, 3, 4, 8] (dInt 0) [(0, .vars 184 2 [.row 1, .row 2] true), (1, .vars 32 3 (sitesC a (appAns b c t)) true), (2, .vars 22 1 [.row 5, .row 4] true), (3, .dead), (4, .rows 28 5 (v.map Entry'.enc) true), (5, .rows 28 5 ((u ++ [appE b c t]).map Entry'.enc) true)] rfl (.same rfl) ⟨⟨rfl, rfl, rfl, .same rfl, rfl, .same rfl, rfl, trivial⟩, ⟨rfl, rfl, rfl, .same rfl, rfl, .same rfl, rfl, .same rfl, rfl, .same rfl, rfl, .same rfl, rfl, .same rfl, rfl, trivial⟩, ⟨rfl, rfl, rfl, .same rfl, rfl, .same rfl, rfl, trivial⟩, trivial, ⟨rfl, rfl, rfl, rfl⟩, ⟨rfl, rfl, rfl, hrow⟩, trivial⟩ rfl rfl ⟨rfl, rfl, rfl⟩
set_option maxHeartbeats 0 in
theorem bringAll1_ok (a b : Site') (u v : List Entry') (hs : SiteR b) (hi : b.region = 1) (ht : Right a.log) : ECall Tryz.prog 208 [.ptr 0 0, dInt 1] [(0, .vars 184 2 [.row 1, .row 2] true), (1, .vars 32 3 (sitesC a b) true), (2, .vars 22 1 [.row 3, .row 4] true), (3, .rows 28 5 (u.map Entry'.enc) true), (4, .rows 28 5 (v.map Entry'.enc) true)] 5 (dInt 0) [(0, .vars 184 2 [.row 1, .row 2] true), (1, .vars 32 3 (sitesC a (bring b (ownOf a.log 0))) true), (2, .vars 22 1 [.row 3, .row 4] true), (3, .rows 28 5 (u.map Entry'.enc) true), (4, .rows 28 5 (v.map Entry'.enc) true)] 0 := by
  have hll := ht.len
  have hbr : ∀ k, Brought b (ownOf (a.log.take k) 0) := fun k => brought hs _ _ rfl fun e he => by
    obtain ⟨k1, k2⟩ := mem_ownOf.1 he
    exact ⟨ht.mem (List.mem_of_mem_take k1), by rw [k2, hi]; decide⟩
  refine acall_cut tab_all tab_mixed Tryz.func208 (by kernel_rfl) Tryz.ntmps208 rfl ?_
  conv => whnf
  conv => whnf
  repeat (first | (refine Conf.mk (by kernel_rfl) ?_; conv => whnf) | (refine SeqOk.go ?_; conv => whnf))
  refine .data _ _ other1_ok rfl ?_
  conv => whnf
  repeat (first | (refine Conf.mk (by kernel_rfl) ?_; conv => whnf) | (refine SeqOk.go ?_; conv => whnf))
  refine .mk 0 rfl (by show 0 < 6 / 3; decide) ?_
  conv => whnf
  repeat (first | (refine Conf.mk (by kernel_rfl) ?_; conv => whnf) | (refine SeqOk.go ?_; conv => whnf))
  refine LoopOk.hide fun Q1 hQ1 => ?_
  refine LoopOk.mk (fun m x => ∃ k, k + m = a.log.length ∧ x = ⟨[(21, dInt k), (20, dInt (a.log.map Entry'.enc).length), (19, .dat (.list (a.log.map Entry'.enc))), (0, .ptr 0 0), (1, dInt 1), (5, dInt 0)], 5, [(0, .vars 184 2 [.row 1, .row 2] true), (1, .vars 32 3 (sitesC a (bring b (ownOf (a.log.take k) 0))) true), (2, .vars 22 1 [.row 3, .row 4] true), (3, .rows 28 5 (u.map Entry'.enc) true), (4, .rows 28 5 (v.map Entry'.enc) true)]⟩) a.log.length (Into.mono (Into.to [0, 1, 2, 3, 4] [(21, dInt (0 : Nat)), (20, dInt (a.log.map Entry'.enc).length), (19, .dat (.list (a.log.map Entry'.enc))), (0, .ptr 0 0), (1, dInt 1), (5, dInt 0)] [(0, .vars 184 2 [.row 1, .row 2] true), (1, .vars 32 3 (sitesC a (bring b (ownOf (a.log.take 0) 0))) true), (2, .vars 22 1 [.row 3, .row 4] true), (3, .rows 28 5 (u.map Entry'.enc) true), (4, .rows 28 5 (v.map Entry'.enc) true)] (by repeat (first | exact trivial | refine ⟨.same (congrArg dInt (wrap_up (by omega))), ?_⟩ | refine ⟨.same rfl, ?_⟩ | refine ⟨.any _, ?_⟩)) ⟨⟨rfl, rfl, rfl, .same rfl, rfl, .same rfl, rfl, trivial⟩, ⟨rfl, rfl, rfl, .same rfl, rfl, .same rfl, rfl, .same rfl, rfl, .same rfl, rfl, .same rfl, rfl, .same rfl, rfl, trivial⟩, ⟨rfl, rfl, rfl, .same rfl, rfl, .same rfl, rfl, trivial⟩, ⟨rfl, rfl, rfl, rfl⟩, ⟨rfl, rfl, rfl, rfl⟩, trivial⟩ rfl rfl) fun s' h => ⟨0, by omega, h⟩) ?_
  rintro m x ⟨k, hkm, rfl⟩
  conv => whnf
  repeat (first | (refine Conf.mk (by kernel_rfl) ?_; conv => whnf) | (refine SeqOk.go ?_; conv => whnf))
  refine ⟨fun h => ?_, fun h => ?_⟩
  · have hk := lt_of_len h
    have hm := List.getElem_mem hk
    have hst := ownOf_succ (r := 0) hk
    conv => whnf
    repeat (first | (refine Conf.mk (by kernel_rfl) ?_; conv => whnf) | (refine SeqOk.go ?_; conv => whnf))
    refine AtIdx.ofMap hk rfl ?_
    conv => whnf
    repeat (first | (refine Conf.mk (by kernel_rfl) ?_; conv => whnf) | (refine SeqOk.go ?_; conv => whnf))
    by_cases hr : a.log[k].id.r = 0
    · rw [if_pos hr] at hst
      have hR := (hbr k).right
      have hz := recv_far hR (ht.mem hm) (by rw [(hbr k).region, hi, hr]; decide)
      have hb : bring b (ownOf (a.log.take (k + 1)) 0) = recvAns (bring b (ownOf (a.log.take k) 0)) a.log[k] := by rw [hst, bring_snoc]
      refine BoolCase.no (by simp [hr]) ?_
      conv => whnf
      repeat (first | (refine Conf.mk (by kernel_rfl) ?_; conv => whnf) | (refine SeqOk.go ?_; conv => whnf))
      refine .eff [0, 1, 2, 3, 4] _ _ _ _ 0 (wreceive1_ok a (bring b (ownOf (a.log.take k) 0)) u v a.log[k] hR.ok (by have := (six_of (ht.mem hm)).2; omega) hz) rfl rfl rfl rfl rfl ?_
      conv => whnf
      repeat (first | (refine Conf.mk (by kernel_rfl) ?_; conv => whnf) | (refine SeqOk.go ?_; conv => whnf))
      refine BoolCase.no rfl ?_
      conv => whnf
      repeat (first | (refine Conf.mk (by kernel_rfl) ?_; conv => whnf) | (refine SeqOk.go ?_; conv => whnf))
      rw [← hb]
      exact Into.mono (Into.to [0, 1, 2, 3, 4] [(21, dInt (k + 1 : Nat)), (20, dInt (a.log.map Entry'.enc).length), (19, .dat (.list (a.log.map Entry'.enc))), (0, .ptr 0 0), (1, dInt 1), (5, dInt 0)] [(0, .vars 184 2 [.row 1, .row 2] true), (1, .vars 32 3 (sitesC a (bring b (ownOf (a.log.take (k + 1)) 0))) true), (2, .vars 22 1 [.row 3, .row 4] true), (3, .rows 28 5 (u.map Entry'.enc) true), (4, .rows 28 5 (v.map Entry'.enc) true)] (by repeat (first | exact trivial | refine ⟨.same (congrArg dInt (wrap_up (by omega))), ?_⟩ | refine ⟨.same rfl, ?_⟩ | refine ⟨.any _, ?_⟩)) ⟨⟨rfl, rfl, rfl, .same rfl, rfl, .same rfl, rfl, trivial⟩, ⟨rfl, rfl, rfl, .same rfl, rfl, .same rfl, rfl, .same rfl, rfl, .same rfl, rfl, .same rfl, rfl, .same rfl, rfl, trivial⟩, ⟨rfl, rfl, rfl, .same rfl, rfl, .same rfl, rfl, trivial⟩, ⟨rfl, rfl, rfl, rfl⟩, ⟨rfl, rfl, rfl, rfl⟩, trivial⟩ rfl rfl) fun s' h => ⟨m - 1, by omega, k + 1, by omega, h⟩
    · rw [if_neg hr, List.append_nil] at hst
      refine BoolCase.yes (by simpa using hr) ?_
      conv => whnf
      repeat (first | (refine Conf.mk (by kernel_rfl) ?_; conv => whnf) | (refine SeqOk.go ?_; conv => whnf))
      rw [← hst]
      exact Into.mono (Into.to [0, 1, 2, 3, 4] [(21, dInt (k + 1 : Nat)), (20, dInt (a.log.map Entry'.enc).length), (19, .dat (.list (a.log.map Entry'.enc))), (0, .ptr 0 0), (1, dInt 1), (5, dInt 0)] [(0, .vars 184 2 [.row 1, .row 2] true), (1, .vars 32 3 (sitesC a (bring b (ownOf (a.log.take (k + 1)) 0))) true), (2, .vars 22 1 [.row 3, .row 4] true), (3, .rows 28 5 (u.map Entry'.enc) true), (4, .rows 28 5 (v.map Entry'.enc) true)] (by repeat (first | exact trivial | refine ⟨.same (congrArg dInt (wrap_up (by omega))), ?_⟩ | refine ⟨.same rfl, ?_⟩ | refine ⟨.any _, ?_⟩)) ⟨⟨rfl, rfl, rfl, .same rfl, rfl, .same rfl, rfl, trivial⟩, ⟨rfl, rfl, rfl, .same rfl, rfl, .same rfl, rfl, .same rfl, rfl, .same rfl, rfl, .same rfl, rfl, .same rfl, rfl, trivial⟩, ⟨rfl, rfl, rfl, .same rfl, rfl, .same rfl, rfl, trivial⟩, ⟨rfl, rfl, rfl, rfl⟩, ⟨rfl, rfl, rfl, rfl⟩, trivial⟩ rfl rfl) fun s' h => ⟨m - 1, by omega, k + 1, by omega, h⟩
  · have hk : k = a.log.length := by have := ge_of_len h; omega
    subst hk
    conv => whnf
    repeat (first | (refine Conf.mk (by kernel_rfl) ?_; conv => whnf) | (refine SeqOk.go ?_; conv => whnf))
    subst hQ1
    conv => whnf
    rw [List.take_length]
    exact .mk [] [0, 1, 2, 3, 4] (dInt 0) [(0, .vars 184 2 [.row 1, .row 2] true), (1, .vars 32 3 (sitesC a (bring b (ownOf a.log 0))) true), (2, .vars 22 1 [.row 3, .row 4] true), (3, .rows 28 5 (u.map Entry'.enc) true), (4, .rows 28 5 (v.map Entry'.enc) true)] rfl (.same rfl) ⟨⟨rfl, rfl, rfl, .same rfl, rfl, .same rfl, rfl, trivial⟩, ⟨rfl, rfl, rfl, .same rfl, rfl, .same rfl, rfl, .same rfl, rfl, .same rfl, rfl, .same rfl, rfl, .same rfl, rfl, trivial⟩, ⟨rfl, rfl, rfl, .same rfl, rfl, .same rfl, rfl, trivial⟩, ⟨rfl, rfl, rfl, rfl⟩, ⟨rfl, rfl, rfl, rfl⟩, trivial⟩ rfl rfl ⟨rfl, rfl, rfl⟩
end Go.Proofs.YtlioojekjnigiafGreat.AM
