/- What is leaned on: part 5. -/
import Derived.Test.YtlioojekjnigiadQ4
import Derived.OpenShut
import Derived.ProofKit
import Derived.ChangeOld
import Derived.Lib.SmallJoins
/- Orders: First and More, as the program reckons them. -/
namespace Go.Proofs.Ytlioojekjnigiad.AM
set_option linter.unusedVariables false
set_option linter.unusedSimpArgs false

theorem insT_cons (t : Turn) (u : List Turn) (x : Turn) : insT (t :: u) x = if t.id.less x.id = true then t :: insT u x else x :: t :: u := by
  unfold insT
  rw [placeOf_cons]
  split
  · rfl
  · rfl
theorem insT_sorted (x : Turn) : ∀ {ts : List Turn}, ts.Pairwise (fun a b => a.id.less b.id = true) → (∀ t ∈ ts, t.id ≠ x.id) → (insT ts x).Pairwise (fun a b => a.id.less b.id = true)
  | [], _, _ => by simp [insT, placeOf', putAt]
  | t :: u, h, hn => by
    rw [List.pairwise_cons] at h
    rw [insT_cons]
    split
    · rename_i hl
      rw [List.pairwise_cons]
      refine ⟨fun y hy => ?_, insT_sorted x h.2 fun t ht => hn t (by simp [ht])⟩
      rcases mem_putAt.1 hy with rfl | hy
      · exact hl
      · exact h.1 y hy
    · rename_i hl
      have hxt : x.id.less t.id = true := by
        cases hh : x.id.less t.id
        · exact absurd (less_total (by simpa using hl) hh) (hn t (by simp))
        · rfl
      rw [List.pairwise_cons]
      refine ⟨fun y hy => ?_, List.pairwise_cons.2 h⟩
      rcases List.mem_cons.1 hy with rfl | hy
      · exact hxt
      · exact less_trans hxt (h.1 y hy)
theorem turnsTo_mem {l : List Entry'} {c : Int} : ∀ {k : Nat}, k ≤ l.length → ∀ t, t ∈ turnsTo l c k ↔ ∃ e ∈ l.take k, bothOf e.colors c = true ∧ t = ⟨e.id, needsL l c e.id⟩
  | 0, _, t => by simp [turnsTo]
  | k + 1, h, t => by
    rw [turnsTo_snoc h, take_snoc h]
    have ih := turnsTo_mem (l := l) (c := c) (k := k) (by omega) t
    unfold turnStep
    split
    · rename_i hb
      unfold insT
      rw [mem_putAt, ih]
      constructor
      · rintro (rfl | ⟨e, he, h1, h2⟩)
        · exact ⟨l[k], List.mem_append.2 (.inr (List.mem_singleton.2 rfl)), hb, rfl⟩
        · exact ⟨e, List.mem_append.2 (.inl he), h1, h2⟩
      · rintro ⟨e, he, h1, h2⟩
        rcases List.mem_append.1 he with he | he
        · exact .inr ⟨e, he, h1, h2⟩
        · have : e = l[k] := by simpa using he
          subst this
          exact .inl h2
    · rename_i hb
      rw [ih]
      constructor
      · rintro ⟨e, he, h1, h2⟩
        exact ⟨e, List.mem_append.2 (.inl he), h1, h2⟩
      · rintro ⟨e, he, h1, h2⟩
        rcases List.mem_append.1 he with he | he
        · exact ⟨e, he, h1, h2⟩
        · have : e = l[k] := by simpa using he
          subst this
          exact absurd h1 hb
theorem turnsTo_sorted {l : List Entry'} (hr : Right l) {c : Int} : ∀ {k : Nat}, k ≤ l.length → (turnsTo l c k).Pairwise (fun a b => a.id.less b.id = true)
  | 0, _ => by simp [turnsTo]
  | k + 1, h => by
    rw [turnsTo_snoc h]
    have ih := turnsTo_sorted hr (c := c) (k := k) (by omega)
    unfold turnStep
    split
    · refine insT_sorted _ ih fun t ht e => ?_
      obtain ⟨e', he', _, rfl⟩ := (turnsTo_mem (by omega) t).1 ht
      exact (hr.get h).new e' he' e
    · exact ih
theorem turns_ids {l : List Entry'} (hr : Right l) {c : Int} (hc : 1 ≤ c ∧ c ≤ 7) : (turnsOf l c).map (·.id) = colIds l c := by
  refine sorted_ext ?_ (allIds_sorted.filter _) fun x => ?_
  · rw [List.pairwise_map]
    exact turnsTo_sorted hr (Nat.le_refl _)
  · rw [mem_colIds hr, colored_iff, List.mem_map]
    constructor
    · rintro ⟨t, ht, rfl⟩
      obtain ⟨e, he, h1, rfl⟩ := (turnsTo_mem (Nat.le_refl _) t).1 ht
      rw [List.take_of_length_le (Nat.le_refl _)] at he
      exact ⟨e, he, rfl, by rw [← meets_bothOf (hr.colors he) hc]; exact h1⟩
    · rintro ⟨e, he, rfl, h1⟩
      exact ⟨⟨e.id, needsL l c e.id⟩, (turnsTo_mem (Nat.le_refl _) _).2 ⟨e, by rw [List.take_of_length_le (Nat.le_refl _)]; exact he, by rw [meets_bothOf (hr.colors he) hc]; exact h1, rfl⟩, rfl⟩
theorem turns_may {l : List Entry'} (hr : Right l) {c : Int} (hc : 1 ≤ c ∧ c ≤ 7) (played : List Id) {t : Turn} (ht : t ∈ turnsOf l c) : mayT played t = mayP l c played t.id := by
  obtain ⟨e, he, h1, rfl⟩ := (turnsTo_mem (Nat.le_refl _) t).1 ht
  unfold mayT mayP
  simp only
  rw [needsL_all hr hc]
theorem find_map_of {α β : Type} {f : α → β} {q : α → Bool} {r : β → Bool} : ∀ {l : List α}, (∀ a ∈ l, q a = r (f a)) → (l.find? q).map f = (l.map f).find? r
  | [], _ => rfl
  | a :: t, h => by
    rw [List.find?_cons, List.map_cons, List.find?_cons, ← h a (by simp)]
    cases q a with
    | true => rfl
    | false => exact find_map_of fun x hx => h x (by simp [hx])
theorem play_find {l : List Entry'} (hr : Right l) {c : Int} (hc : 1 ≤ c ∧ c ≤ 7) (played : List Id) (p : Id → Bool) : ((turnsOf l c).find? fun t => p t.id && mayT played t).map (·.id) = (colIds l c).find? fun x => p x && mayP l c played x := by
  rw [← turns_ids hr hc]
  exact find_map_of fun t ht => by rw [turns_may hr hc played ht]
theorem play_one {l : List Entry'} (hr : Right l) {c : Int} (hc : 1 ≤ c ∧ c ≤ 7) (played : List Id) (x : Id) : ((turnsOf l c).find? fun t => isId2 t.id x && mayT played t).map (·.id) = if (colored l c x && mayP l c played x) = true then some x else none := by
  rw [play_find hr hc played (fun y => isId2 y x)]
  by_cases h : (colored l c x && mayP l c played x) = true
  · rw [if_pos h]
    rw [Bool.and_eq_true] at h
    cases hf : (colIds l c).find? fun y => isId2 y x && mayP l c played y with
    | none =>
      rw [List.find?_eq_none] at hf
      have := hf x ((mem_colIds hr).2 h.1)
      rw [isId2_iff.2 rfl, h.2] at this
      simp at this
    | some y =>
      have := List.find?_some hf
      simp only [Bool.and_eq_true] at this
      rw [isId2_iff.1 this.1]
  · rw [if_neg h, List.find?_eq_none]
    intro y hy hh
    rw [Bool.and_eq_true] at hh
    rw [isId2_iff.1 hh.1] at hy hh
    exact h (by rw [(mem_colIds hr).1 hy, hh.2]; rfl)
theorem play_next {l : List Entry'} (hr : Right l) {c : Int} (hc : 1 ≤ c ∧ c ≤ 7) (played : List Id) : ((turnsOf l c).find? fun t => true && mayT played t).map (·.id) = nextOf l c played := by
  rw [play_find hr hc played (fun _ => true)]
  rfl
def moreAns (l : List Entry') (c : Int) (ids : List Id) : List Id := if begunErr l c ids = 0 then moreOf l c ids else []
set_option maxHeartbeats 0 in
theorem more_ok (l : List Entry') (hl : LogOk l) (c : Int) (ids : List Id) (hi : ids.length ≤ 140737488355326) : PCall Try.prog 11 [.dat (.list (l.map Entry'.enc)), dInt c, .dat (.list (ids.map Id.enc))] (.tup [.dat (.list ((moreAns l c ids).map Id.enc)), dInt (begunErr l c ids)]) := by
  refine pcall_cut tab_all tab_mixed Try.func11 (by kernel_rfl) Try.ntmps11 rfl ?_
  conv => whnf
  conv => whnf
  repeat (first | (refine Conf.mk (by kernel_rfl) ?_; conv => whnf) | (refine SeqOk.go ?_; conv => whnf))
  refine .data _ _ (orderCheck_ok l hl ids (by omega)) rfl ?_
  conv => whnf
  repeat (first | (refine Conf.mk (by kernel_rfl) ?_; conv => whnf) | (refine SeqOk.go ?_; conv => whnf))
  by_cases h0 : idsErr l ids = 0
  · obtain ⟨hr, hin, hnd⟩ := idsErr_ok h0
    have hlen := hr.len
    have hil := ids_len hin hnd
    refine BoolCase.no (by rw [h0]; rfl) ?_
    conv => whnf
    repeat (first | (refine Conf.mk (by kernel_rfl) ?_; conv => whnf) | (refine SeqOk.go ?_; conv => whnf))
    refine ⟨fun h2 => ?_, fun h2 => ?_⟩
    · have hc : c < 1 ∨ 7 < c := .inl (by simpa using h2)
      have he : begunErr l c ids = 3 := by unfold begunErr; rw [if_pos h0, if_pos hc]
      have ha : moreAns l c ids = [] := by unfold moreAns; rw [he]; rfl
      conv => whnf
      repeat (first | (refine Conf.mk (by kernel_rfl) ?_; conv => whnf) | (refine SeqOk.go ?_; conv => whnf))
      exact Ret.to (by rw [he, ha]; rfl)
    · have h2 : ¬ c < 1 := by simpa using h2
      conv => whnf
      repeat (first | (refine Conf.mk (by kernel_rfl) ?_; conv => whnf) | (refine SeqOk.go ?_; conv => whnf))
      refine ⟨fun h3 => ?_, fun h3 => ?_⟩
      · have hc : c < 1 ∨ 7 < c := .inr (by simpa using h3)
        have he : begunErr l c ids = 3 := by unfold begunErr; rw [if_pos h0, if_pos hc]
        have ha : moreAns l c ids = [] := by unfold moreAns; rw [he]; rfl
        conv => whnf
        repeat (first | (refine Conf.mk (by kernel_rfl) ?_; conv => whnf) | (refine SeqOk.go ?_; conv => whnf))
        exact Ret.to (by rw [he, ha]; rfl)
      · have h3 : ¬ 7 < c := by simpa using h3
        have hc : 1 ≤ c ∧ c ≤ 7 := by omega
        have hbp := begun_play hr (c := c) hnd
        have he : begunErr l c ids = if playOk l c [] ids = true then 0 else 4 := by unfold begunErr; rw [if_pos h0, if_neg (by omega), hbp]
        have htl : (turnsOf l c).length ≤ 40 := Nat.le_trans (turnsTo_len (Nat.le_refl _)) hr.len
        have htn : ∀ t ∈ turnsOf l c, t.needs.length ≤ 1000 := fun t ht => by
          obtain ⟨e, _, _, rfl⟩ := (turnsTo_mem (Nat.le_refl _) t).1 ht
          have := needsL_len l c e.id
          simp only
          omega
        conv => whnf
        repeat (first | (refine Conf.mk (by kernel_rfl) ?_; conv => whnf) | (refine SeqOk.go ?_; conv => whnf))
        refine .eff [] _ _ _ _ 0 (newPlayer_ok hr c) rfl rfl rfl rfl rfl ?_
        conv => whnf
        refine SeqOk.cut (fun s => playOk l c [] ids = true ∧ s = ⟨[(9, .ptr 0 0)], 2, [(0, .vars 71 3 [dInt c, .row 1, .dat (.list ((turnsOf l c).map Turn.enc))] true), (1, .rows 33 2 (ids.map Id.enc) true)]⟩) ?_ ?_
        · conv => whnf
          repeat (first | (refine Conf.mk (by kernel_rfl) ?_; conv => whnf) | (refine SeqOk.go ?_; conv => whnf))
          refine LoopOk.mk (fun m s => ∃ i, i + m = ids.length ∧ playOk l c [] (ids.take i) = true ∧ s = ⟨[(29, dInt i), (28, dInt (ids.map Id.enc).length), (27, .dat (.list (ids.map Id.enc))), (9, .ptr 0 0)], 2, [(0, .vars 71 3 [dInt c, .row 1, .dat (.list ((turnsOf l c).map Turn.enc))] true), (1, .rows 33 2 ((ids.take i).map Id.enc) true)]⟩) ids.length ((Into.rowAt 0 71 3 [dInt c, .nil, .dat (.list ((turnsOf l c).map Turn.enc))] 1 33 2 rfl (Nat.lt_succ_self 0) rfl).trans fun s' hs' => by
            subst hs'
            exact Into.mono (Into.to [0, 1] [(29, dInt (0 : Nat)), (28, dInt (ids.map Id.enc).length), (27, .dat (.list (ids.map Id.enc))), (9, .ptr 0 0)] [(0, .vars 71 3 [dInt c, .row 1, .dat (.list ((turnsOf l c).map Turn.enc))] true), (1, .rows 33 2 ((ids.take 0).map Id.enc) true)] (by repeat (first | exact trivial | refine ⟨.same (congrArg dInt (wrap_up (by omega))), ?_⟩ | refine ⟨.same rfl, ?_⟩ | refine ⟨.any _, ?_⟩)) ⟨⟨rfl, rfl, rfl, .same rfl, rfl, .same rfl, rfl, .same rfl, rfl, trivial⟩, ⟨rfl, rfl, rfl, rfl⟩, trivial⟩ rfl rfl) fun s' h => ⟨0, by omega, rfl, h⟩) ?_
          rintro m s ⟨i, him, hp, rfl⟩
          conv => whnf
          repeat (first | (refine Conf.mk (by kernel_rfl) ?_; conv => whnf) | (refine SeqOk.go ?_; conv => whnf))
          refine ⟨fun h => ?_, fun h => ?_⟩
          · have hi' := lt_of_len h
            have hsp : playOk l c [] ids = (playOk l c [] (ids.take i) && ((colored l c ids[i] && mayP l c (ids.take i) ids[i]) && playOk l c (ids.take i ++ [ids[i]]) (ids.drop (i + 1)))) := by
              conv => lhs; rw [← List.take_append_drop i ids, List.drop_eq_getElem_cons hi', playOk_append]
              rfl
            have hpo := play_one hr hc (ids.take i) ids[i]
            conv => whnf
            repeat (first | (refine Conf.mk (by kernel_rfl) ?_; conv => whnf) | (refine SeqOk.go ?_; conv => whnf))
            refine AtIdx.ofMap hi' rfl ?_
            conv => whnf
            repeat (first | (refine Conf.mk (by kernel_rfl) ?_; conv => whnf) | (refine SeqOk.go ?_; conv => whnf))
            refine .some [0, 1, 2] _ _ _ rfl (play_ok ids[i] c (ids.take i) (turnsOf l c) (by rw [List.length_take]; omega) (by omega) htn fun y => more1_ok ids[i] y) rfl rfl rfl rfl rfl ?_
            rintro x Hc' m' (⟨t, hf, rfl, rfl, hm'⟩ | ⟨hf, rfl, rfl, hm'⟩)
            · obtain rfl : m' = 1 := by simp at hm'; omega
              rw [hf] at hpo
              have hcond : (colored l c ids[i] && mayP l c (ids.take i) ids[i]) = true ∧ t.id = ids[i] := by
                split at hpo
                · rename_i hh; exact ⟨hh, by simpa using hpo⟩
                · simp at hpo
              rw [hcond.2]
              conv => whnf
              repeat (first | (refine Conf.mk (by kernel_rfl) ?_; conv => whnf) | (refine SeqOk.go ?_; conv => whnf))
              refine BoolCase.no rfl ?_
              conv => whnf
              repeat (first | (refine Conf.mk (by kernel_rfl) ?_; conv => whnf) | (refine SeqOk.go ?_; conv => whnf))
              refine Into.mono (Into.to [0, 3] [(29, dInt (i + 1 : Nat)), (28, dInt (ids.map Id.enc).length), (27, .dat (.list (ids.map Id.enc))), (9, .ptr 0 0)] [(0, .vars 71 3 [dInt c, .row 1, .dat (.list ((turnsOf l c).map Turn.enc))] true), (1, .rows 33 2 ((ids.take (i + 1)).map Id.enc) true)] (by repeat (first | exact trivial | refine ⟨.same (congrArg dInt (wrap_up (by omega))), ?_⟩ | refine ⟨.same rfl, ?_⟩ | refine ⟨.any _, ?_⟩)) ⟨⟨rfl, rfl, rfl, .same rfl, rfl, .same rfl, rfl, .same rfl, rfl, trivial⟩, ⟨rfl, rfl, rfl, ?_⟩, trivial⟩ rfl rfl) fun s' h => ⟨m - 1, by omega, i + 1, by omega, ?_, h⟩
              · rw [take_snoc hi']
              · rw [take_snoc hi', playOk_append, hp]
                simp only [List.nil_append, playOk, hcond.1, Bool.and_self]
            · obtain rfl : m' = 0 := by simp at hm'; omega
              rw [hf] at hpo
              have hcond : (colored l c ids[i] && mayP l c (ids.take i) ids[i]) = false := by
                split at hpo
                · simp at hpo
                · rename_i hh; simpa using hh
              have hno : playOk l c [] ids = false := by rw [hsp, hcond, Bool.false_and, Bool.and_false]
              have he4 : begunErr l c ids = 4 := by rw [he, hno]; rfl
              have ha4 : moreAns l c ids = [] := by unfold moreAns; rw [he4]; rfl
              conv => whnf
              repeat (first | (refine Conf.mk (by kernel_rfl) ?_; conv => whnf) | (refine SeqOk.go ?_; conv => whnf))
              refine BoolCase.yes rfl ?_
              conv => whnf
              repeat (first | (refine Conf.mk (by kernel_rfl) ?_; conv => whnf) | (refine SeqOk.go ?_; conv => whnf))
              exact Ret.to (by rw [he4, ha4]; rfl)
          · have hi' := ge_of_len h
            rw [List.take_of_length_le hi'] at hp
            conv => whnf
            repeat (first | (refine Conf.mk (by kernel_rfl) ?_; conv => whnf) | (refine SeqOk.go ?_; conv => whnf))
            refine Into.mono (Into.to [0, 1] [(9, .ptr 0 0)] [(0, .vars 71 3 [dInt c, .row 1, .dat (.list ((turnsOf l c).map Turn.enc))] true), (1, .rows 33 2 (ids.map Id.enc) true)] (by repeat (first | exact trivial | refine ⟨.same (congrArg dInt (wrap_up (by omega))), ?_⟩ | refine ⟨.same rfl, ?_⟩ | refine ⟨.any _, ?_⟩)) ⟨⟨rfl, rfl, rfl, .same rfl, rfl, .same rfl, rfl, .same rfl, rfl, trivial⟩, ⟨rfl, rfl, rfl, ?_⟩, trivial⟩ rfl rfl) fun s' h => ⟨hp, h⟩
            rw [List.take_of_length_le hi']
        · rintro s ⟨hp, rfl⟩
          have he0 : begunErr l c ids = 0 := by rw [he, hp]; rfl
          have ha0 : moreAns l c ids = moreOf l c ids := by unfold moreAns; rw [if_pos he0]
          conv => whnf
          repeat (first | (refine Conf.mk (by kernel_rfl) ?_; conv => whnf) | (refine SeqOk.go ?_; conv => whnf))
          refine LoopOk.hide fun Q1 hQ1 => ?_
          refine LoopOk.mk (fun m s => ∃ out, moreOf l c ids = moreOf l c out ∧ (∀ x ∈ out, ∃ e ∈ l, e.id = x) ∧ out.Nodup ∧ m = left l c out ∧ s = ⟨[(9, .ptr 0 0)], 2, [(0, .vars 71 3 [dInt c, .row 1, .dat (.list ((turnsOf l c).map Turn.enc))] true), (1, .rows 33 2 (out.map Id.enc) true)]⟩) (left l c ids) (Into.mono (Into.to [0, 1] [(9, .ptr 0 0)] [(0, .vars 71 3 [dInt c, .row 1, .dat (.list ((turnsOf l c).map Turn.enc))] true), (1, .rows 33 2 (ids.map Id.enc) true)] (by repeat (first | exact trivial | refine ⟨.same (congrArg dInt (wrap_up (by omega))), ?_⟩ | refine ⟨.same rfl, ?_⟩ | refine ⟨.any _, ?_⟩)) ⟨⟨rfl, rfl, rfl, .same rfl, rfl, .same rfl, rfl, .same rfl, rfl, trivial⟩, ⟨rfl, rfl, rfl, rfl⟩, trivial⟩ rfl rfl) fun s' h => ⟨ids, rfl, hin, hnd, rfl, h⟩) ?_
          rintro m s ⟨out, hmo, hon, hod, hm, rfl⟩
          have hol := ids_len hon hod
          have hnx := play_next hr hc out
          conv => whnf
          repeat (first | (refine Conf.mk (by kernel_rfl) ?_; conv => whnf) | (refine SeqOk.go ?_; conv => whnf))
          refine .some [0, 1] _ _ _ rfl (playAny_ok c out (turnsOf l c) (by omega) (by omega) htn more2_ok) rfl rfl rfl rfl rfl ?_
          rintro x Hc' m' (⟨t, hf, rfl, rfl, hm'⟩ | ⟨hf, rfl, rfl, hm'⟩)
          · obtain rfl : m' = 1 := by simp at hm'; omega
            rw [hf] at hnx
            have hx : nextOf l c out = some t.id := hnx.symm
            conv => whnf
            repeat (first | (refine Conf.mk (by kernel_rfl) ?_; conv => whnf) | (refine SeqOk.go ?_; conv => whnf))
            refine BoolCase.yes rfl ?_
            conv => whnf
            repeat (first | (refine Conf.mk (by kernel_rfl) ?_; conv => whnf) | (refine SeqOk.go ?_; conv => whnf))
            exact Into.mono (Into.to [0, 2] [(9, .ptr 0 0)] [(0, .vars 71 3 [dInt c, .row 1, .dat (.list ((turnsOf l c).map Turn.enc))] true), (1, .rows 33 2 ((out ++ [t.id]).map Id.enc) true)] (by repeat (first | exact trivial | refine ⟨.same (congrArg dInt (wrap_up (by omega))), ?_⟩ | refine ⟨.same rfl, ?_⟩ | refine ⟨.any _, ?_⟩)) ⟨⟨rfl, rfl, rfl, .same rfl, rfl, .same rfl, rfl, .same rfl, rfl, trivial⟩, ⟨rfl, rfl, rfl, rfl⟩, trivial⟩ rfl rfl) fun s' h => ⟨left l c (out ++ [t.id]), by have := nextOf_left hx; omega, out ++ [t.id], by rw [hmo, moreOf_some hx], fun y hy => (by
              rcases List.mem_append.1 hy with hy | hy
              · exact hon y hy
              · have : y = t.id := by simpa using hy
                rw [this]
                obtain ⟨e, he, h1, _⟩ := colored_iff.1 ((mem_colIds hr).1 (nextOf_some hx).1)
                exact ⟨e, he, h1⟩), (by
              rw [List.nodup_append]
              refine ⟨hod, by simp, fun y hy z hz e => ?_⟩
              have : z = t.id := by simpa using hz
              subst this
              exact ((mayP_iff hr).1 (nextOf_some hx).2).1 (by rw [← e]; exact hy)), rfl, h⟩
          · obtain rfl : m' = 0 := by simp at hm'; omega
            rw [hf] at hnx
            have hx : nextOf l c out = none := hnx.symm
            conv => whnf
            repeat (first | (refine Conf.mk (by kernel_rfl) ?_; conv => whnf) | (refine SeqOk.go ?_; conv => whnf))
            refine BoolCase.no rfl ?_
            conv => whnf
            repeat (first | (refine Conf.mk (by kernel_rfl) ?_; conv => whnf) | (refine SeqOk.go ?_; conv => whnf))
            subst hQ1
            conv => whnf
            repeat (first | (refine Conf.mk (by kernel_rfl) ?_; conv => whnf) | (refine SeqOk.go ?_; conv => whnf))
            exact Ret.to (by rw [ha0, he0, hmo, moreOf_none hx]; rfl)
  · have he : begunErr l c ids = idsErr l ids := by unfold begunErr; rw [if_neg h0]
    have ha : moreAns l c ids = [] := by unfold moreAns; rw [he, if_neg h0]
    refine BoolCase.yes (by simpa using h0) ?_
    conv => whnf
    repeat (first | (refine Conf.mk (by kernel_rfl) ?_; conv => whnf) | (refine SeqOk.go ?_; conv => whnf))
    exact Ret.to (by rw [he, ha]; rfl)
theorem first_ok (l : List Entry') (hl : LogOk l) (c : Int) : PCall Try.prog 16 [.dat (.list (l.map Entry'.enc)), dInt c] (.tup [.dat (.list ((moreAns l c []).map Id.enc)), dInt (begunErr l c [])]) := by
  refine pcall_intro tab_all tab_mixed Try.func16 (by kernel_rfl) Try.ntmps16 rfl ?_
  conv => whnf
  refine .data _ _ (more_ok l hl c [] (by simp)) rfl ?_
  conv => whnf
  repeat (first | (refine Conf.mk (by kernel_rfl) ?_; conv => whnf) | (refine SeqOk.go ?_; conv => whnf))
  exact Ret.to rfl
end Go.Proofs.Ytlioojekjnigiad.AM
/- Orders: what must be in any case; what the document says of them, called. -/
namespace Go.Proofs.Ytlioojekjnigiad.AM
set_option linter.unusedVariables false
set_option linter.unusedSimpArgs false

set_option maxHeartbeats 0 in
theorem orderBegun_ok : PCall Try.prog 9 [] (dBool true) := by
  have e1 : begunErr someLog 1 [] = 0 := by kernel_rfl
  have a1 : moreAns someLog 1 [] = [⟨0, 1⟩, ⟨0, 2⟩, ⟨1, 1⟩] := by kernel_rfl
  have e2 : begunErr someLog 3 [⟨1, 1⟩] = 0 := by kernel_rfl
  have a2 : moreAns someLog 3 [⟨1, 1⟩] = [⟨1, 1⟩, ⟨0, 1⟩, ⟨0, 2⟩, ⟨1, 2⟩] := by kernel_rfl
  have e3 : idsErr someLog [⟨1, 1⟩, ⟨0, 1⟩, ⟨1, 2⟩] = 0 := by kernel_rfl
  have a3 : isAns someLog [⟨1, 1⟩, ⟨0, 1⟩, ⟨1, 2⟩] = true := by kernel_rfl
  have e4 : idsErr someLog [⟨1, 2⟩, ⟨0, 1⟩] = 0 := by kernel_rfl
  have a4 : isAns someLog [⟨1, 2⟩, ⟨0, 1⟩] = false := by kernel_rfl
  have h1 := first_ok someLog someLog_ok 1
  have h2 := more_ok someLog someLog_ok 3 [⟨1, 1⟩] (by decide)
  have h3 := Is_ok someLog someLog_ok [⟨1, 1⟩, ⟨0, 1⟩, ⟨1, 2⟩] (by decide)
  have h4 := Is_ok someLog someLog_ok [⟨1, 2⟩, ⟨0, 1⟩] (by decide)
  rw [e1, a1] at h1
  rw [e2, a2] at h2
  rw [e3, a3] at h3
  rw [e4, a4] at h4
  refine pcall_intro tab_all tab_mixed Try.func9 (by kernel_rfl) Try.ntmps9 rfl ?_
  conv => whnf
  refine .data _ _ entries_ok rfl ?_
  conv => whnf
  repeat (first | (refine Conf.mk (by kernel_rfl) ?_; conv => whnf) | (refine SeqOk.go ?_; conv => whnf))
  refine .data _ _ h1 rfl ?_
  conv => whnf
  repeat (first | (refine Conf.mk (by kernel_rfl) ?_; conv => whnf) | (refine SeqOk.go ?_; conv => whnf))
  refine .data _ _ entries_ok rfl ?_
  conv => whnf
  repeat (first | (refine Conf.mk (by kernel_rfl) ?_; conv => whnf) | (refine SeqOk.go ?_; conv => whnf))
  refine .data _ _ (id_ok _ _) rfl ?_
  conv => whnf
  repeat (first | (refine Conf.mk (by kernel_rfl) ?_; conv => whnf) | (refine SeqOk.go ?_; conv => whnf))
  refine .keep [0] _ _ h2 rfl rfl rfl rfl ?_
  conv => whnf
  repeat (first | (refine Conf.mk (by kernel_rfl) ?_; conv => whnf) | (refine SeqOk.go ?_; conv => whnf))
  refine .data _ _ entries_ok rfl ?_
  conv => whnf
  repeat (first | (refine Conf.mk (by kernel_rfl) ?_; conv => whnf) | (refine SeqOk.go ?_; conv => whnf))
  refine .data _ _ (id_ok _ _) rfl ?_
  conv => whnf
  repeat (first | (refine Conf.mk (by kernel_rfl) ?_; conv => whnf) | (refine SeqOk.go ?_; conv => whnf))
  refine .data _ _ (id_ok _ _) rfl ?_
  conv => whnf
  repeat (first | (refine Conf.mk (by kernel_rfl) ?_; conv => whnf) | (refine SeqOk.go ?_; conv => whnf))
  refine .data _ _ (id_ok _ _) rfl ?_
  conv => whnf
  repeat (first | (refine Conf.mk (by kernel_rfl) ?_; conv => whnf) | (refine SeqOk.go ?_; conv => whnf))
  refine .look _ _ h3 rfl rfl ?_
  conv => whnf
  repeat (first | (refine Conf.mk (by kernel_rfl) ?_; conv => whnf) | (refine SeqOk.go ?_; conv => whnf))
  refine .data _ _ entries_ok rfl ?_
  conv => whnf
  repeat (first | (refine Conf.mk (by kernel_rfl) ?_; conv => whnf) | (refine SeqOk.go ?_; conv => whnf))
  refine .data _ _ (id_ok _ _) rfl ?_
  conv => whnf
  repeat (first | (refine Conf.mk (by kernel_rfl) ?_; conv => whnf) | (refine SeqOk.go ?_; conv => whnf))
  refine .data _ _ (id_ok _ _) rfl ?_
  conv => whnf
  repeat (first | (refine Conf.mk (by kernel_rfl) ?_; conv => whnf) | (refine SeqOk.go ?_; conv => whnf))
  refine .look _ _ h4 rfl rfl ?_
  conv => whnf
  repeat (first | (refine Conf.mk (by kernel_rfl) ?_; conv => whnf) | (refine SeqOk.go ?_; conv => whnf))
  refine BoolCase.yes rfl ?_
  conv => whnf
  repeat (first | (refine Conf.mk (by kernel_rfl) ?_; conv => whnf) | (refine SeqOk.go ?_; conv => whnf))
  refine BoolCase.yes rfl ?_
  conv => whnf
  repeat (first | (refine Conf.mk (by kernel_rfl) ?_; conv => whnf) | (refine SeqOk.go ?_; conv => whnf))
  refine BoolCase.yes rfl ?_
  conv => whnf
  repeat (first | (refine Conf.mk (by kernel_rfl) ?_; conv => whnf) | (refine SeqOk.go ?_; conv => whnf))
  refine BoolCase.yes rfl ?_
  conv => whnf
  repeat (first | (refine Conf.mk (by kernel_rfl) ?_; conv => whnf) | (refine SeqOk.go ?_; conv => whnf))
  refine BoolCase.yes rfl ?_
  conv => whnf
  repeat (first | (refine Conf.mk (by kernel_rfl) ?_; conv => whnf) | (refine SeqOk.go ?_; conv => whnf))
  refine BoolCase.yes rfl ?_
  conv => whnf
  repeat (first | (refine Conf.mk (by kernel_rfl) ?_; conv => whnf) | (refine SeqOk.go ?_; conv => whnf))
  refine .data _ _ (id_ok _ _) rfl ?_
  conv => whnf
  repeat (first | (refine Conf.mk (by kernel_rfl) ?_; conv => whnf) | (refine SeqOk.go ?_; conv => whnf))
  refine .data _ _ (id_ok _ _) rfl ?_
  conv => whnf
  repeat (first | (refine Conf.mk (by kernel_rfl) ?_; conv => whnf) | (refine SeqOk.go ?_; conv => whnf))
  refine .data _ _ (id_ok _ _) rfl ?_
  conv => whnf
  repeat (first | (refine Conf.mk (by kernel_rfl) ?_; conv => whnf) | (refine SeqOk.go ?_; conv => whnf))
  refine .look _ _ (same_ok [⟨0, 1⟩, ⟨0, 2⟩, ⟨1, 1⟩] (by decide)) rfl rfl ?_
  conv => whnf
  repeat (first | (refine Conf.mk (by kernel_rfl) ?_; conv => whnf) | (refine SeqOk.go ?_; conv => whnf))
  refine .data _ _ (id_ok _ _) rfl ?_
  conv => whnf
  repeat (first | (refine Conf.mk (by kernel_rfl) ?_; conv => whnf) | (refine SeqOk.go ?_; conv => whnf))
  refine .data _ _ (id_ok _ _) rfl ?_
  conv => whnf
  repeat (first | (refine Conf.mk (by kernel_rfl) ?_; conv => whnf) | (refine SeqOk.go ?_; conv => whnf))
  refine .data _ _ (id_ok _ _) rfl ?_
  conv => whnf
  repeat (first | (refine Conf.mk (by kernel_rfl) ?_; conv => whnf) | (refine SeqOk.go ?_; conv => whnf))
  refine .data _ _ (id_ok _ _) rfl ?_
  conv => whnf
  repeat (first | (refine Conf.mk (by kernel_rfl) ?_; conv => whnf) | (refine SeqOk.go ?_; conv => whnf))
  refine .look _ _ (same_ok [⟨1, 1⟩, ⟨0, 1⟩, ⟨0, 2⟩, ⟨1, 2⟩] (by decide)) rfl rfl ?_
  conv => whnf
  repeat (first | (refine Conf.mk (by kernel_rfl) ?_; conv => whnf) | (refine SeqOk.go ?_; conv => whnf))
  exact Ret.bool rfl
theorem moreOf_len {l : List Entry'} (hr : Right l) {c : Int} {ids : List Id} (hin : ∀ x ∈ ids, ∃ e ∈ l, e.id = x) (hnd : ids.Nodup) : (moreOf l c ids).length ≤ 40 ∧ (moreOf l c ids).Nodup ∧ ∀ x ∈ moreOf l c ids, ∃ e ∈ l, e.id = x := by
  obtain ⟨⟨h1, h2⟩, _⟩ := moreOf_ind (l := l) (c := c) (p := fun o => o.Nodup ∧ ∀ x ∈ o, ∃ e ∈ l, e.id = x) (fun out x ⟨k1, k2⟩ hx => by
    refine ⟨?_, fun y hy => ?_⟩
    · rw [List.nodup_append]
      refine ⟨k1, by simp, fun y hy z hz e => ?_⟩
      have : z = x := by simpa using hz
      subst this
      exact ((mayP_iff hr).1 (nextOf_some hx).2).1 (by rw [← e]; exact hy)
    · rcases List.mem_append.1 hy with hy | hy
      · exact k2 y hy
      · have : y = x := by simpa using hy
        rw [this]
        obtain ⟨e, he, h1, _⟩ := colored_iff.1 ((mem_colIds hr).1 (nextOf_some hx).1)
        exact ⟨e, he, h1⟩) ids ⟨hnd, hin⟩
  exact ⟨Nat.le_trans (ids_len h2 h1) hr.len, h1, h2⟩
theorem moreAns_len (l : List Entry') (c : Int) (ids : List Id) : (moreAns l c ids).length ≤ 40 := by
  unfold moreAns
  split
  · rename_i h
    obtain ⟨hr, hin, hnd⟩ := idsErr_ok (begunErr_ok h).1
    exact (moreOf_len hr hin hnd).1
  · simp
end Go.Proofs.Ytlioojekjnigiad.AM
/- Orders: one that has gone on has come to its end. -/
namespace Go.Proofs.Ytlioojekjnigiad.AM
set_option linter.unusedVariables false
set_option linter.unusedSimpArgs false

theorem fits_takeI {es : List Id} {i : Nat} : (List.map Id.enc es).take i = (es.take i).map Id.enc := by rw [List.map_take]
theorem idsErr_of {l : List Entry'} (hr : Right l) {ids : List Id} (h1 : ∀ x ∈ ids, ∃ e ∈ l, e.id = x) (h2 : ids.Nodup) : idsErr l ids = 0 := by
  unfold idsErr
  rw [if_pos (right_iff.2 hr)]
  exact idsLoop_iff.2 ⟨h1, by simp, h2⟩
theorem begunErr_of {l : List Entry'} (hr : Right l) {c : Int} (hc : 1 ≤ c ∧ c ≤ 7) {ids : List Id} (h1 : ∀ x ∈ ids, ∃ e ∈ l, e.id = x) (h2 : ids.Nodup) (h3 : playOk l c [] ids = true) : begunErr l c ids = 0 := by
  unfold begunErr
  rw [if_pos (idsErr_of hr h1 h2), if_neg (by omega), begun_play hr h2, if_pos h3]
theorem begun_facts {l : List Entry'} {c : Int} {ids : List Id} (h : begunErr l c ids = 0) : Right l ∧ (1 ≤ c ∧ c ≤ 7) ∧ (∀ x ∈ ids, ∃ e ∈ l, e.id = x) ∧ ids.Nodup ∧ playOk l c [] ids = true := by
  obtain ⟨hi, hc, hb⟩ := begunErr_ok h
  obtain ⟨hr, hin, hnd⟩ := idsErr_ok hi
  exact ⟨hr, hc, hin, hnd, by rw [← begun_play hr hnd]; exact hb⟩
theorem begun_more {l : List Entry'} {c : Int} {ids : List Id} (h : begunErr l c ids = 0) : begunErr l c (moreOf l c ids) = 0 := by
  obtain ⟨hr, hc, hin, hnd, hp⟩ := begun_facts h
  obtain ⟨_, h1, h2⟩ := moreOf_len hr (c := c) hin hnd
  exact begunErr_of hr hc h2 h1 (playOk_more hr hp)
theorem more_end (l : List Entry') (c : Int) (ids : List Id) : nextOf l c (moreOf l c ids) = none := (moreOf_ind (p := fun _ => True) (fun _ _ _ _ => trivial) ids trivial).2
theorem more_more (l : List Entry') (c : Int) (ids : List Id) : moreOf l c (moreOf l c ids) = moreOf l c ids := moreOf_none (more_end l c ids)
theorem begun_is {l : List Entry'} {c : Int} {ids : List Id} (h : begunErr l c ids = 0) : isAns l ids = true := by
  obtain ⟨hi, hc, hb⟩ := begunErr_ok h
  unfold isAns
  unfold begunOk at hb
  rw [Bool.and_eq_true] at hb
  rw [hi, hb.2]
  rfl
theorem begun_mem {l : List Entry'} {c : Int} {ids : List Id} (h : begunErr l c ids = 0) {x : Id} (hx : x ∈ ids) : colored l c x = true := by
  obtain ⟨hi, hc, hb⟩ := begunErr_ok h
  unfold begunOk at hb
  rw [Bool.and_eq_true, List.all_eq_true] at hb
  have := hb.1 x hx
  rw [Bool.and_eq_true] at this
  exact this.1
/-- How many of a color are among the first. -/
def manyOf (l : List Entry') (c : Int) (i : Nat) : Nat := ((l.take i).filter fun e => meets e.colors c).length
theorem many_succ {l : List Entry'} {c : Int} {i : Nat} (hi : i < l.length) : manyOf l c (i + 1) = manyOf l c i + if meets l[i].colors c = true then 1 else 0 := by
  unfold manyOf
  rw [List.take_succ_eq_append_getElem hi, List.filter_append, List.length_append]
  congr 1
  by_cases h : meets l[i].colors c = true
  · simp [h]
  · simp [h]
theorem many_le (l : List Entry') (c : Int) (i : Nat) : manyOf l c i ≤ l.length := by
  unfold manyOf
  exact Nat.le_trans (List.length_filter_le _ _) (by rw [List.length_take]; exact Nat.min_le_right _ _)
theorem many_all {l : List Entry'} {c : Int} {ids : List Id} (h : begunErr l c ids = 0) : manyOf l c l.length = (moreOf l c ids).length := by
  obtain ⟨hr, hc, hin, hnd, hp⟩ := begun_facts h
  obtain ⟨_, h1, h2⟩ := moreOf_len hr (c := c) hin hnd
  have hn : ((l.filter fun e => meets e.colors c).map (·.id)).Nodup := (nodup_ids hr).sublist (List.filter_sublist.map _)
  unfold manyOf
  rw [List.take_length, ← List.length_map (f := fun e : Entry' => e.id)]
  refine Nat.le_antisymm (nodup_len hn fun x hx => ?_) (nodup_len h1 fun x hx => ?_)
  · obtain ⟨e, he, rfl⟩ := List.mem_map.1 hx
    rw [List.mem_filter] at he
    exact all_there hr (more_end l c ids) (colored_iff.2 ⟨e, he.1, rfl, he.2⟩)
  · obtain ⟨e, he, h3, h4⟩ := colored_iff.1 (begun_mem (begun_more h) hx)
    exact List.mem_map.2 ⟨e, List.mem_filter.2 ⟨he, h4⟩, h3⟩
set_option maxHeartbeats 0 in
theorem orderStays_ok (l : List Entry') (hl : LogOk l) (c : Int) (ids : List Id) (hi : ids.length ≤ 140737488355326) : PCall Try.prog 3 [.dat (.list (l.map Entry'.enc)), dInt c, .dat (.list (ids.map Id.enc))] (dBool true) := by
  refine pcall_cut tab_all tab_mixed Try.func3 (by kernel_rfl) Try.ntmps3 rfl ?_
  conv => whnf
  conv => whnf
  repeat (first | (refine Conf.mk (by kernel_rfl) ?_; conv => whnf) | (refine SeqOk.go ?_; conv => whnf))
  refine .data _ _ orderBegun_ok.kb rfl ?_
  conv => whnf
  repeat (first | (refine Conf.mk (by kernel_rfl) ?_; conv => whnf) | (refine SeqOk.go ?_; conv => whnf))
  refine .data _ _ dagBegun_ok.kb rfl ?_
  conv => whnf
  repeat (first | (refine Conf.mk (by kernel_rfl) ?_; conv => whnf) | (refine SeqOk.go ?_; conv => whnf))
  refine .data _ _ (more_ok l hl c ids hi) rfl ?_
  conv => whnf
  repeat (first | (refine Conf.mk (by kernel_rfl) ?_; conv => whnf) | (refine SeqOk.go ?_; conv => whnf))
  by_cases h0 : begunErr l c ids = 0
  · obtain ⟨hr, hc, hin, hnd, hp⟩ := begun_facts h0
    have ha : moreAns l c ids = moreOf l c ids := by unfold moreAns; rw [if_pos h0]
    obtain ⟨hml, hmn, hmi⟩ := moreOf_len hr (c := c) hin hnd
    have h1 := begun_more h0
    have ha1 : moreAns l c (moreOf l c ids) = moreOf l c ids := by unfold moreAns; rw [if_pos h1, more_more]
    have his := Is_ok l hl (moreOf l c ids) (by omega)
    rw [begun_is h1, (begunErr_ok h1).1] at his
    have hmo := more_ok l hl c (moreOf l c ids) (by omega)
    rw [ha1, h1] at hmo
    obtain ⟨rest, hpre⟩ := moreOf_prefix l c ids
    have hlen : ids.length ≤ (moreOf l c ids).length := by rw [← hpre]; simp
    have htake : (moreOf l c ids).take ids.length = ids := by rw [← hpre]; simp
    have hsm := same_ok ids (by omega)
    have hsm2 := same_ok (moreOf l c ids) (by omega)
    have hll := hr.len
    have hma := many_all h0
    rw [h0, ha]
    refine BoolCase.no rfl ?_
    conv => whnf
    repeat (first | (refine Conf.mk (by kernel_rfl) ?_; conv => whnf) | (refine SeqOk.go ?_; conv => whnf))
    refine BoolCase.no (by simp; omega) ?_
    conv => whnf
    repeat (first | (refine Conf.mk (by kernel_rfl) ?_; conv => whnf) | (refine SeqOk.go ?_; conv => whnf))
    refine .mk 0 ids.length rfl (by simp) (Nat.zero_le _) (by simp; omega) ?_
    rw [fits_takeI, htake]
    conv => whnf
    repeat (first | (refine Conf.mk (by kernel_rfl) ?_; conv => whnf) | (refine SeqOk.go ?_; conv => whnf))
    refine .data _ _ hsm rfl ?_
    conv => whnf
    repeat (first | (refine Conf.mk (by kernel_rfl) ?_; conv => whnf) | (refine SeqOk.go ?_; conv => whnf))
    refine .data _ _ his rfl ?_
    conv => whnf
    repeat (first | (refine Conf.mk (by kernel_rfl) ?_; conv => whnf) | (refine SeqOk.go ?_; conv => whnf))
    refine .data _ _ hmo rfl ?_
    conv => whnf
    repeat (first | (refine Conf.mk (by kernel_rfl) ?_; conv => whnf) | (refine SeqOk.go ?_; conv => whnf))
    refine BoolCase.no rfl ?_
    conv => whnf
    repeat (first | (refine Conf.mk (by kernel_rfl) ?_; conv => whnf) | (refine SeqOk.go ?_; conv => whnf))
    refine BoolCase.no rfl ?_
    conv => whnf
    repeat (first | (refine Conf.mk (by kernel_rfl) ?_; conv => whnf) | (refine SeqOk.go ?_; conv => whnf))
    refine BoolCase.no rfl ?_
    conv => whnf
    repeat (first | (refine Conf.mk (by kernel_rfl) ?_; conv => whnf) | (refine SeqOk.go ?_; conv => whnf))
    refine .data _ _ hsm2 rfl ?_
    conv => whnf
    repeat (first | (refine Conf.mk (by kernel_rfl) ?_; conv => whnf) | (refine SeqOk.go ?_; conv => whnf))
    refine LoopOk.hide fun Q1 hQ1 => ?_
    refine LoopOk.mk (fun m s => ∃ i, i + m = l.length ∧ s = ⟨[(13, dInt i), (12, dInt (manyOf l c i)), (0, .dat (.list (l.map Entry'.enc))), (1, dInt c), (7, .dat (.list ((moreOf l c ids).map Id.enc)))], 0, []⟩) l.length (Into.mono (Into.to [] [(13, dInt (0 : Nat)), (12, dInt (manyOf l c 0)), (0, .dat (.list (l.map Entry'.enc))), (1, dInt c), (7, .dat (.list ((moreOf l c ids).map Id.enc)))] [] (by repeat (first | exact trivial | refine ⟨.same (congrArg dInt (wrap_up (by omega))), ?_⟩ | refine ⟨.same rfl, ?_⟩ | refine ⟨.any _, ?_⟩)) trivial rfl rfl) fun s' h => ⟨0, by omega, h⟩) ?_
    rintro m s ⟨i, him, rfl⟩
    conv => whnf
    repeat (first | (refine Conf.mk (by kernel_rfl) ?_; conv => whnf) | (refine SeqOk.go ?_; conv => whnf))
    refine ⟨fun h3 => ?_, fun h3 => ?_⟩
    · have hil := lt_of_len h3
      have hms := many_succ (c := c) hil
      have hmle := many_le l c i
      conv => whnf
      repeat (first | (refine Conf.mk (by kernel_rfl) ?_; conv => whnf) | (refine SeqOk.go ?_; conv => whnf))
      refine AtIdx.ofMap hil rfl ?_
      conv => whnf
      repeat (first | (refine Conf.mk (by kernel_rfl) ?_; conv => whnf) | (refine SeqOk.go ?_; conv => whnf))
      refine .data _ _ (meets_ok l[i].colors c) rfl ?_
      conv => whnf
      repeat (first | (refine Conf.mk (by kernel_rfl) ?_; conv => whnf) | (refine SeqOk.go ?_; conv => whnf))
      by_cases h4 : meets l[i].colors c = true
      · have h5 : hasId (moreOf l c ids) l[i].id = true := hasId_iff.2 (all_there hr (more_end l c ids) (colored_iff.2 ⟨_, List.getElem_mem hil, rfl, h4⟩))
        have h6 := hasId_ok l[i].id (moreOf l c ids) (by omega)
        rw [h5] at h6
        rw [if_pos h4] at hms
        refine BoolCase.yes h4 ?_
        conv => whnf
        repeat (first | (refine Conf.mk (by kernel_rfl) ?_; conv => whnf) | (refine SeqOk.go ?_; conv => whnf))
        refine AtIdx.ofMap hil rfl ?_
        conv => whnf
        repeat (first | (refine Conf.mk (by kernel_rfl) ?_; conv => whnf) | (refine SeqOk.go ?_; conv => whnf))
        refine .data _ _ h6.kb rfl ?_
        conv => whnf
        repeat (first | (refine Conf.mk (by kernel_rfl) ?_; conv => whnf) | (refine SeqOk.go ?_; conv => whnf))
        exact Into.mono (Into.to [] [(13, dInt (i + 1 : Nat)), (12, dInt (manyOf l c (i + 1))), (0, .dat (.list (l.map Entry'.enc))), (1, dInt c), (7, .dat (.list ((moreOf l c ids).map Id.enc)))] [] ⟨.same (congrArg dInt (wrap_up (by omega))), .same (by rw [hms]; exact congrArg dInt (wrap_up (by omega))), .same rfl, .same rfl, .same rfl, trivial⟩ trivial rfl rfl) fun s' h => ⟨m - 1, by omega, i + 1, by omega, h⟩
      · have h4' : meets l[i].colors c = false := by simpa using h4
        rw [if_neg h4] at hms
        refine BoolCase.no h4' ?_
        conv => whnf
        repeat (first | (refine Conf.mk (by kernel_rfl) ?_; conv => whnf) | (refine SeqOk.go ?_; conv => whnf))
        exact Into.mono (Into.to [] [(13, dInt (i + 1 : Nat)), (12, dInt (manyOf l c (i + 1))), (0, .dat (.list (l.map Entry'.enc))), (1, dInt c), (7, .dat (.list ((moreOf l c ids).map Id.enc)))] [] ⟨.same (congrArg dInt (wrap_up (by omega))), .same (by rw [hms]; rfl), .same rfl, .same rfl, .same rfl, trivial⟩ trivial rfl rfl) fun s' h => ⟨m - 1, by omega, i + 1, by omega, h⟩
    · have hil := ge_of_len h3
      have : i = l.length := by omega
      subst this
      conv => whnf
      repeat (first | (refine Conf.mk (by kernel_rfl) ?_; conv => whnf) | (refine SeqOk.go ?_; conv => whnf))
      subst hQ1
      conv => whnf
      exact Ret.bool (by rw [hma]; simp)
  · have ha : moreAns l c ids = [] := by unfold moreAns; rw [if_neg h0]
    refine BoolCase.yes (by simpa using h0) ?_
    rw [ha]
    conv => whnf
    repeat (first | (refine Conf.mk (by kernel_rfl) ?_; conv => whnf) | (refine SeqOk.go ?_; conv => whnf))
    exact Ret.bool rfl
end Go.Proofs.Ytlioojekjnigiad.AM
/- What came in, opened: ids, entries, logs. -/
namespace Go.Proofs.Ytlioojekjnigiad
theorem ownT : ownKnob Try.prog.godebug = none := by kernel_rfl
theorem laidT : laidOutB Try.prog = true := by kernel_rfl
namespace AM
set_option linter.unusedVariables false
set_option linter.unusedSimpArgs false

theorem allWT_cons {tab : Tab} {n t : Nat} {ts : List Nat} {dss : List (List D)} (h : AllWT tab n (t :: ts) dss) : ∃ d ds, dss = d :: ds ∧ WT tab n t d ∧ AllWT tab n ts ds := by
  cases dss with
  | nil => exact h.elim
  | cons d ds => exact ⟨d, ds, rfl, h.1, h.2⟩
theorem allWT_nil {tab : Tab} {n : Nat} {dss : List (List D)} (h : AllWT tab n [] dss) : dss = [] := by
  cases dss with
  | nil => rfl
  | cons d ds => exact h.elim
theorem all_enc {α : Type} {enc : α → List D} {p : List D → Prop} {q : α → Prop} (h : ∀ e, p e → ∃ x, e = enc x ∧ q x) : ∀ (es : List (List D)), (∀ e ∈ es, p e) → ∃ l : List α, es = l.map enc ∧ ∀ x ∈ l, q x
  | [], _ => ⟨[], rfl, by simp⟩
  | e :: t, hs => by
    obtain ⟨x, rfl, hx⟩ := h e (hs e (by simp))
    obtain ⟨l, rfl, hl⟩ := all_enc h t fun e he => hs e (by simp [he])
    exact ⟨x :: l, rfl, fun y hy => by
      rcases List.mem_cons.1 hy with rfl | hy
      · exact hx
      · exact hl y hy⟩
def I64 (n : Int) : Prop := -9223372036854775808 ≤ n ∧ n ≤ 9223372036854775807
theorem wt_int {n : Nat} {ds : List D} (h : WT tab (n + 1) 3 ds) : ∃ m, ds = [.int .i64 m] ∧ I64 m := by
  have h : ∃ m, ds = [.int .i64 m] ∧ (Lit.int .i64 m).wf = true := h
  obtain ⟨m, rfl, hm⟩ := h
  refine ⟨m, rfl, ?_⟩
  simp [Lit.wf, IntKind.wrap, IntKind.bits, IntKind.signed] at hm
  exact hm
theorem wt_bool {n : Nat} {ds : List D} (h : WT tab (n + 1) 4 ds) : ∃ b, ds = [.bool b] := h
theorem wt_string {n : Nat} {ds : List D} (h : WT tab (n + 1) 9 ds) : ∃ s, ds = [.str s] ∧ s.size ≤ 140737488351232 := h
theorem wt_id {n : Nat} {ds : List D} (h : WT tab (n + 2) 33 ds) : ∃ x : Id, ds = x.enc ∧ I64 x.r ∧ I64 x.n := by
  obtain ⟨a, y, rfl, h1, b, z, rfl, h2, rfl⟩ := (h : ∃ xs ys, ds = xs ++ ys ∧ WT tab (n + 1) 3 xs ∧ ∃ xs' ys', ys = xs' ++ ys' ∧ WT tab (n + 1) 3 xs' ∧ ys' = [])
  obtain ⟨r, rfl, hr⟩ := wt_int h1
  obtain ⟨m, rfl, hm⟩ := wt_int h2
  exact ⟨⟨r, m⟩, rfl, hr, hm⟩
theorem wt_ids {n : Nat} {ds : List D} (h : WT tab (n + 3) 23 ds) : ∃ l : List Id, ds = [.list (l.map Id.enc)] ∧ l.length * 16 ≤ 140737488351232 ∧ ∀ x ∈ l, I64 x.r ∧ I64 x.n := by
  obtain ⟨es, rfl, h1, h2⟩ := (h : ∃ es, ds = [.list es] ∧ es.length * 16 ≤ 140737488351232 ∧ ∀ e' ∈ es, WT tab (n + 2) 33 e')
  obtain ⟨l, rfl, hl⟩ := all_enc (fun e he => wt_id he) es h2
  exact ⟨l, rfl, by rw [List.length_map] at h1; exact h1, hl⟩
structure EntryIn (e : Entry') : Prop where
  r : I64 e.id.r
  n : I64 e.id.n
  colors : I64 e.colors
  text : e.text.size ≤ 140737488351232
  len : e.links.length * 16 ≤ 140737488351232
  links : ∀ x ∈ e.links, I64 x.r ∧ I64 x.n
theorem wt_entry {n : Nat} {ds : List D} (h : WT tab (n + 4) 35 ds) : ∃ e : Entry', ds = e.enc ∧ EntryIn e := by
  obtain ⟨a, y, rfl, h1, b, z, rfl, h2, c, u, rfl, h3, d, v, rfl, h4, rfl⟩ := (h : ∃ a y, ds = a ++ y ∧ WT tab (n + 3) 33 a ∧ ∃ b z, y = b ++ z ∧ WT tab (n + 3) 3 b ∧ ∃ c u, z = c ++ u ∧ WT tab (n + 3) 9 c ∧ ∃ d v, u = d ++ v ∧ WT tab (n + 3) 23 d ∧ v = [])
  obtain ⟨x, rfl, hx⟩ := wt_id h1
  obtain ⟨k, rfl, hk⟩ := wt_int h2
  obtain ⟨s, rfl, hs⟩ := wt_string h3
  obtain ⟨l, rfl, hl, hl2⟩ := wt_ids h4
  exact ⟨⟨x, k, s, l⟩, rfl, hx.1, hx.2, hk, hs, hl, hl2⟩
theorem wt_log {n : Nat} {ds : List D} (h : WT tab (n + 5) 22 ds) : ∃ l : List Entry', ds = [.list (l.map Entry'.enc)] ∧ l.length * 64 ≤ 140737488351232 ∧ ∀ e ∈ l, EntryIn e := by
  obtain ⟨es, rfl, h1, h2⟩ := (h : ∃ es, ds = [.list es] ∧ es.length * 64 ≤ 140737488351232 ∧ ∀ e' ∈ es, WT tab (n + 4) 35 e')
  obtain ⟨l, rfl, hl⟩ := all_enc (fun e he => wt_entry he) es h2
  exact ⟨l, rfl, by rw [List.length_map] at h1; exact h1, hl⟩
theorem logOk_in {l : List Entry'} (h : l.length * 64 ≤ 140737488351232) (k : ∀ e ∈ l, EntryIn e) : LogOk l := ⟨by omega, fun e he => by have := (k e he).len; omega⟩
end AM
end Go.Proofs.Ytlioojekjnigiad
