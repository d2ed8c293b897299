/- What is leaned on: part 4. -/
import Derived.Test.YtlioojekjnigiadQ3
import Derived.Test.YtlioojekjnigiadRows
import Derived.WalkKit
import Derived.WalkSpells
import Derived.StillTactics
import Derived.Laws.Pointers
import Derived.Deep.RegionHeld3
import Derived.Deep.RegionLaw
import Derived.Deep.AppendLies
import Derived.Deep.QuietTactic
import Derived.Deep.DrawnRows
import Derived.BigQuiet
import Derived.RowKit3
import Derived.Laws.CopyRow
import Derived.Laws.OwnMore
import Derived.Lib.SliceRun
/- Pasts, heads and counts, as the program reckons them. -/
namespace Go.Proofs.Ytlioojekjnigiad.AM
set_option linter.unusedVariables false
set_option linter.unusedSimpArgs false

theorem drop_last {α : Type} {l : List α} {k : Nat} (hk : k < l.length) : l.drop (l.length - (k + 1)) = l[l.length - 1 - k] :: l.drop (l.length - k) := by
  rw [show l.length - (k + 1) = l.length - 1 - k by omega, List.drop_eq_getElem_cons (by omega), show l.length - 1 - k + 1 = l.length - k by omega]
theorem pastFold_len (p : Entry' → Bool) : ∀ {l : List Entry'}, (∀ e ∈ l, e.links.length ≤ 6) → (pastFold p l).length ≤ 6 * l.length
  | [], _ => Nat.le_refl _
  | e :: t, h => by
    have ih := pastFold_len p (l := t) fun x hx => h x (by simp [hx])
    have h6 := h e (by simp)
    unfold pastFold
    split
    · have := joinIds_len e.links (pastFold p t)
      simp only [List.length_cons]
      omega
    · simp only [List.length_cons]
      omega
set_option maxHeartbeats 0 in
theorem pastOf_ok {cl : Nat} {ds : List D} {p : Entry' → Bool} (l : List Entry') (hl : l.length ≤ 40) (h6 : ∀ e ∈ l, e.links.length ≤ 6) (hcl : ∀ e ∈ l, PCall Try.prog cl [e.arg, .dat (.ptr ds)] (dBool (p e))) :
    PCall Try.prog 50 [.dat (.list (l.map Entry'.enc)), .fn (.func cl) [] [.dat (.ptr ds)]] (.dat (.list ((sortIds (pastFold p l)).map Id.enc))) := by
  refine pcall_intro tab_all tab_mixed Try.func50 (by kernel_rfl) Try.ntmps50 rfl ?_
  conv => whnf
  refine LoopOk.hide fun Q1 hQ1 => ?_
  refine LoopOk.mk (fun m s => ∃ k, k + m = l.length ∧ s = ⟨[(6, dInt ((l.length : Int) - 1 - k)), (0, .dat (.list (l.map Entry'.enc))), (1, .fn (.func cl) [] [.dat (.ptr ds)]), (5, .row 0)], 1, [(0, .rows 33 2 ((pastFold p (l.drop (l.length - k))).map Id.enc) true)]⟩) l.length ((Into.row 5 33 2 rfl).trans fun s' hs' => by
    subst hs'
    exact Into.mono (Into.to [0] [(6, dInt ((l.length : Int) - 1 - (0 : Nat))), (0, .dat (.list (l.map Entry'.enc))), (1, .fn (.func cl) [] [.dat (.ptr ds)]), (5, .row 0)] [(0, .rows 33 2 ((pastFold p (l.drop (l.length - 0))).map Id.enc) true)] ⟨.same (congrArg dInt (by rw [wrap_id (by simp; omega) (by simp; omega)]; simp)), .same rfl, .same rfl, .same rfl, trivial⟩ ⟨⟨rfl, rfl, rfl, by rw [List.drop_of_length_le (by omega)]; rfl⟩, trivial⟩ rfl rfl) fun s' h => ⟨0, by omega, h⟩) ?_
  rintro m s ⟨k, hk, rfl⟩
  conv => whnf
  repeat (first | (refine Conf.mk (by kernel_rfl) ?_; conv => whnf) | (refine SeqOk.go ?_; conv => whnf))
  refine ⟨fun h => ?_, fun h => ?_⟩
  · have hk' : k < l.length := by simp at h; omega
    have hsub : ((l.length : Int) - 1 - k) = ((l.length - 1 - k : Nat) : Int) := by omega
    have hlt : l.length - 1 - k < l.length := by omega
    have hfl := pastFold_len p (l := l.drop (l.length - k)) fun e he => h6 e (List.mem_of_mem_drop he)
    rw [List.length_drop] at hfl
    have hst : pastFold p (l.drop (l.length - (k + 1))) = if p l[l.length - 1 - k] || (pastFold p (l.drop (l.length - k))).any (isId2 l[l.length - 1 - k].id) then joinIds (pastFold p (l.drop (l.length - k))) l[l.length - 1 - k].links else pastFold p (l.drop (l.length - k)) := by
      rw [drop_last hk']
      rfl
    conv => whnf
    repeat (first | (refine Conf.mk (by kernel_rfl) ?_; conv => whnf) | (refine SeqOk.go ?_; conv => whnf))
    refine AtIdx.ofMap' _ hsub hlt rfl ?_
    conv => whnf
    repeat (first | (refine Conf.mk (by kernel_rfl) ?_; conv => whnf) | (refine SeqOk.go ?_; conv => whnf))
    refine .look _ _ (hcl _ (List.getElem_mem hlt)) rfl rfl ?_
    conv => whnf
    repeat (first | (refine Conf.mk (by kernel_rfl) ?_; conv => whnf) | (refine SeqOk.go ?_; conv => whnf))
    refine ⟨fun h3 => ?_, fun h3 => ?_⟩
    · have hc : (p l[l.length - 1 - k] || (pastFold p (l.drop (l.length - k))).any (isId2 l[l.length - 1 - k].id)) = true := by rw [h3]; rfl
      conv => whnf
      repeat (first | (refine Conf.mk (by kernel_rfl) ?_; conv => whnf) | (refine SeqOk.go ?_; conv => whnf))
      refine AtIdx.ofMap' _ hsub hlt rfl ?_
      conv => whnf
      repeat (first | (refine Conf.mk (by kernel_rfl) ?_; conv => whnf) | (refine SeqOk.go ?_; conv => whnf))
      refine .eff [0] _ _ _ _ 1 (join_ok _ _ (by omega) (by have := h6 _ (List.getElem_mem hlt); omega)) rfl rfl rfl rfl rfl ?_
      conv => whnf
      repeat (first | (refine Conf.mk (by kernel_rfl) ?_; conv => whnf) | (refine SeqOk.go ?_; conv => whnf))
      refine Into.mono (Into.to [1] [(6, dInt ((l.length : Int) - 1 - (k + 1 : Nat))), (0, .dat (.list (l.map Entry'.enc))), (1, .fn (.func cl) [] [.dat (.ptr ds)]), (5, .row 0)] [(0, .rows 33 2 ((pastFold p (l.drop (l.length - (k + 1)))).map Id.enc) true)] ⟨.same (congrArg dInt (by rw [wrap_id (by omega) (by omega)]; omega)), .same rfl, .same rfl, .same rfl, trivial⟩ ⟨⟨rfl, rfl, rfl, ?_⟩, trivial⟩ rfl rfl) fun s' h => ⟨m - 1, by omega, k + 1, by omega, h⟩
      rw [hst, if_pos hc]
    · conv => whnf
      repeat (first | (refine Conf.mk (by kernel_rfl) ?_; conv => whnf) | (refine SeqOk.go ?_; conv => whnf))
      refine AtIdx.ofMap' _ hsub hlt rfl ?_
      conv => whnf
      repeat (first | (refine Conf.mk (by kernel_rfl) ?_; conv => whnf) | (refine SeqOk.go ?_; conv => whnf))
      refine .look _ _ (containsId_ok l[l.length - 1 - k].id (pastFold p (l.drop (l.length - k))) (by omega)) rfl rfl ?_
      conv => whnf
      repeat (first | (refine Conf.mk (by kernel_rfl) ?_; conv => whnf) | (refine SeqOk.go ?_; conv => whnf))
      refine ⟨fun h4 => ?_, fun h4 => ?_⟩
      · have hc : (p l[l.length - 1 - k] || (pastFold p (l.drop (l.length - k))).any (isId2 l[l.length - 1 - k].id)) = true := by rw [h3, h4]; rfl
        conv => whnf
        repeat (first | (refine Conf.mk (by kernel_rfl) ?_; conv => whnf) | (refine SeqOk.go ?_; conv => whnf))
        refine AtIdx.ofMap' _ hsub hlt rfl ?_
        conv => whnf
        repeat (first | (refine Conf.mk (by kernel_rfl) ?_; conv => whnf) | (refine SeqOk.go ?_; conv => whnf))
        refine .eff [0] _ _ _ _ 1 (join_ok _ _ (by omega) (by have := h6 _ (List.getElem_mem hlt); omega)) rfl rfl rfl rfl rfl ?_
        conv => whnf
        repeat (first | (refine Conf.mk (by kernel_rfl) ?_; conv => whnf) | (refine SeqOk.go ?_; conv => whnf))
        refine Into.mono (Into.to [1] [(6, dInt ((l.length : Int) - 1 - (k + 1 : Nat))), (0, .dat (.list (l.map Entry'.enc))), (1, .fn (.func cl) [] [.dat (.ptr ds)]), (5, .row 0)] [(0, .rows 33 2 ((pastFold p (l.drop (l.length - (k + 1)))).map Id.enc) true)] ⟨.same (congrArg dInt (by rw [wrap_id (by omega) (by omega)]; omega)), .same rfl, .same rfl, .same rfl, trivial⟩ ⟨⟨rfl, rfl, rfl, ?_⟩, trivial⟩ rfl rfl) fun s' h => ⟨m - 1, by omega, k + 1, by omega, h⟩
        rw [hst, if_pos hc]
      · conv => whnf
        repeat (first | (refine Conf.mk (by kernel_rfl) ?_; conv => whnf) | (refine SeqOk.go ?_; conv => whnf))
        refine Into.mono (Into.to [0] [(6, dInt ((l.length : Int) - 1 - (k + 1 : Nat))), (0, .dat (.list (l.map Entry'.enc))), (1, .fn (.func cl) [] [.dat (.ptr ds)]), (5, .row 0)] [(0, .rows 33 2 ((pastFold p (l.drop (l.length - (k + 1)))).map Id.enc) true)] ⟨.same (congrArg dInt (by rw [wrap_id (by omega) (by omega)]; omega)), .same rfl, .same rfl, .same rfl, trivial⟩ ⟨⟨rfl, rfl, rfl, ?_⟩, trivial⟩ rfl rfl) fun s' h => ⟨m - 1, by omega, k + 1, by omega, h⟩
        rw [hst, if_neg (by rw [h3, h4]; simp)]
  · have hk' : k = l.length := by simp at h; omega
    subst hk'
    conv => whnf
    repeat (first | (refine Conf.mk (by kernel_rfl) ?_; conv => whnf) | (refine SeqOk.go ?_; conv => whnf))
    subst hQ1
    conv => whnf
    have hfl := pastFold_len p h6
    rw [show l.length - l.length = 0 by omega, List.drop_zero]
    refine .eff [0] _ _ _ _ 0 (sortFunc_ok _ (by omega)) rfl rfl rfl rfl rfl ?_
    conv => whnf
    repeat (first | (refine Conf.mk (by kernel_rfl) ?_; conv => whnf) | (refine SeqOk.go ?_; conv => whnf))
    exact Ret.to rfl
set_option maxHeartbeats 0 in
theorem idsOf_ok {cl : Nat} {d1 d2 : List D} {p : Entry' → Bool} (l : List Entry') (hl : l.length ≤ 40) (hcl : ∀ e ∈ l, PCall Try.prog cl [e.arg, .dat (.ptr d1), .dat (.ptr d2)] (dBool (p e))) :
    PCall Try.prog 65 [.dat (.list (l.map Entry'.enc)), .fn (.func cl) [] [.dat (.ptr d1), .dat (.ptr d2)]] (.dat (.list ((sortIds ((l.filter p).map (·.id))).map Id.enc))) := by
  refine pcall_intro tab_all tab_mixed Try.func65 (by kernel_rfl) Try.ntmps65 rfl ?_
  conv => whnf
  refine LoopOk.hide fun Q1 hQ1 => ?_
  refine LoopOk.mk (fun m s => ∃ k, k + m = l.length ∧ s = ⟨[(10, dInt k), (9, dInt (l.map Entry'.enc).length), (8, .dat (.list (l.map Entry'.enc))), (1, .fn (.func cl) [] [.dat (.ptr d1), .dat (.ptr d2)]), (5, .row 0)], 1, [(0, .rows 33 2 ((((l.take k).filter p).map (·.id)).map Id.enc) true)]⟩) l.length ((Into.row 5 33 2 rfl).trans fun s' hs' => by
    subst hs'
    exact Into.mono (Into.to [0] [(10, dInt (0 : Nat)), (9, dInt (l.map Entry'.enc).length), (8, .dat (.list (l.map Entry'.enc))), (1, .fn (.func cl) [] [.dat (.ptr d1), .dat (.ptr d2)]), (5, .row 0)] [(0, .rows 33 2 ((((l.take 0).filter p).map (·.id)).map Id.enc) true)] (by repeat (first | exact trivial | refine ⟨.same (congrArg dInt (wrap_up (by omega))), ?_⟩ | refine ⟨.same rfl, ?_⟩ | refine ⟨.any _, ?_⟩)) ⟨⟨rfl, rfl, rfl, rfl⟩, trivial⟩ rfl rfl) fun s' h => ⟨0, by omega, h⟩) ?_
  rintro m s ⟨k, hk, rfl⟩
  conv => whnf
  repeat (first | (refine Conf.mk (by kernel_rfl) ?_; conv => whnf) | (refine SeqOk.go ?_; conv => whnf))
  refine ⟨fun h => ?_, fun h => ?_⟩
  · have hk' : k < l.length := by simpa using h
    have hst := filter_snoc p (List.getElem?_eq_getElem hk')
    have hfl := List.length_filter_le p (l.take k)
    rw [List.length_take] at hfl
    conv => whnf
    repeat (first | (refine Conf.mk (by kernel_rfl) ?_; conv => whnf) | (refine SeqOk.go ?_; conv => whnf))
    refine AtIdx.ofMap hk' rfl ?_
    conv => whnf
    repeat (first | (refine Conf.mk (by kernel_rfl) ?_; conv => whnf) | (refine SeqOk.go ?_; conv => whnf))
    refine .look _ _ (hcl _ (List.getElem_mem hk')) rfl rfl ?_
    conv => whnf
    repeat (first | (refine Conf.mk (by kernel_rfl) ?_; conv => whnf) | (refine SeqOk.go ?_; conv => whnf))
    refine ⟨fun h3 => ?_, fun h3 => ?_⟩
    · rw [if_pos h3] at hst
      conv => whnf
      repeat (first | (refine Conf.mk (by kernel_rfl) ?_; conv => whnf) | (refine SeqOk.go ?_; conv => whnf))
      refine ⟨by simp [Id.enc], by simp; omega, ?_⟩
      conv => whnf
      repeat (first | (refine Conf.mk (by kernel_rfl) ?_; conv => whnf) | (refine SeqOk.go ?_; conv => whnf))
      refine Into.mono (Into.to [3] [(10, dInt (k + 1 : Nat)), (9, dInt (l.map Entry'.enc).length), (8, .dat (.list (l.map Entry'.enc))), (1, .fn (.func cl) [] [.dat (.ptr d1), .dat (.ptr d2)]), (5, .row 0)] [(0, .rows 33 2 ((((l.take (k + 1)).filter p).map (·.id)).map Id.enc) true)] (by repeat (first | exact trivial | refine ⟨.same (congrArg dInt (wrap_up (by omega))), ?_⟩ | refine ⟨.same rfl, ?_⟩ | refine ⟨.any _, ?_⟩)) ⟨⟨rfl, rfl, rfl, ?_⟩, trivial⟩ rfl rfl) fun s' h => ⟨m - 1, by omega, k + 1, by omega, h⟩
      rw [hst, List.map_append, List.map_append]
      rfl
    · rw [if_neg (by simp [h3]), List.append_nil] at hst
      conv => whnf
      repeat (first | (refine Conf.mk (by kernel_rfl) ?_; conv => whnf) | (refine SeqOk.go ?_; conv => whnf))
      refine Into.mono (Into.to [0] [(10, dInt (k + 1 : Nat)), (9, dInt (l.map Entry'.enc).length), (8, .dat (.list (l.map Entry'.enc))), (1, .fn (.func cl) [] [.dat (.ptr d1), .dat (.ptr d2)]), (5, .row 0)] [(0, .rows 33 2 ((((l.take (k + 1)).filter p).map (·.id)).map Id.enc) true)] (by repeat (first | exact trivial | refine ⟨.same (congrArg dInt (wrap_up (by omega))), ?_⟩ | refine ⟨.same rfl, ?_⟩ | refine ⟨.any _, ?_⟩)) ⟨⟨rfl, rfl, rfl, ?_⟩, trivial⟩ rfl rfl) fun s' h => ⟨m - 1, by omega, k + 1, by omega, h⟩
      rw [hst]
  · have hk' : l.length ≤ k := by simpa using h
    rw [List.take_of_length_le hk']
    conv => whnf
    repeat (first | (refine Conf.mk (by kernel_rfl) ?_; conv => whnf) | (refine SeqOk.go ?_; conv => whnf))
    subst hQ1
    conv => whnf
    have hfl := List.length_filter_le p l
    refine .eff [0] _ _ _ _ 0 (sortFunc_ok _ (by rw [List.length_map]; omega)) rfl rfl rfl rfl rfl ?_
    conv => whnf
    repeat (first | (refine Conf.mk (by kernel_rfl) ?_; conv => whnf) | (refine SeqOk.go ?_; conv => whnf))
    exact Ret.to rfl
theorem past1_ok (x : Id) (e : Entry') : PCall Try.prog 51 [e.arg, .dat (.ptr x.enc)] (dBool (isThe x e)) := by
  refine pcall_intro tab_all tab_mixed Try.func51 (by kernel_rfl) Try.ntmps51 rfl ?_
  conv => whnf
  exact Ret.bool rfl
theorem heads1_ok (c : Int) (e : Entry') : PCall Try.prog 64 [e.arg, .dat (.ptr [.int .i64 c])] (dBool (bothOf e.colors c)) := by
  refine pcall_intro tab_all tab_mixed Try.func64 (by kernel_rfl) Try.ntmps64 rfl ?_
  conv => whnf
  exact Ret.bool rfl
theorem heads2_ok (c : Int) (past : List Id) (hp : past.length ≤ 1000) (e : Entry') : PCall Try.prog 66 [e.arg, .dat (.ptr [.fn (.func 64) [] [.ptr [.int .i64 c]]]), .dat (.ptr [.list (past.map Id.enc)])] (dBool (bothOf e.colors c && !past.any (isId2 e.id))) := by
  refine pcall_intro tab_all tab_mixed Try.func66 (by kernel_rfl) Try.ntmps66 rfl ?_
  conv => whnf
  refine .look _ _ (heads1_ok c e) rfl rfl ?_
  conv => whnf
  repeat (first | (refine Conf.mk (by kernel_rfl) ?_; conv => whnf) | (refine SeqOk.go ?_; conv => whnf))
  refine ⟨fun h3 => ?_, fun h3 => ?_⟩
  · conv => whnf
    repeat (first | (refine Conf.mk (by kernel_rfl) ?_; conv => whnf) | (refine SeqOk.go ?_; conv => whnf))
    refine .look _ _ (containsId_ok e.id past (by omega)) rfl rfl ?_
    conv => whnf
    repeat (first | (refine Conf.mk (by kernel_rfl) ?_; conv => whnf) | (refine SeqOk.go ?_; conv => whnf))
    exact Ret.bool (by rw [h3, Bool.true_and])
  · conv => whnf
    repeat (first | (refine Conf.mk (by kernel_rfl) ?_; conv => whnf) | (refine SeqOk.go ?_; conv => whnf))
    exact Ret.bool (by rw [h3, Bool.false_and])
end Go.Proofs.Ytlioojekjnigiad.AM
/- Logs: the calls of package dag, and what must be in any case. -/
namespace Go.Proofs.Ytlioojekjnigiad.AM
set_option linter.unusedVariables false
set_option linter.unusedSimpArgs false

theorem BoolCase.yes {b : Bool} {t f : Prop} (h : b = true) (k : t) : BoolCase b t f := ⟨fun _ => k, fun h' => (by rw [h] at h'; cases h')⟩
theorem BoolCase.no {b : Bool} {t f : Prop} (h : b = false) (k : f) : BoolCase b t f := ⟨fun h' => (by rw [h] at h'; cases h'), fun _ => k⟩
/-- A bool that is known. -/
theorem PCall.kb {P : Program} {f : FuncId} {args : List AVal} {b : Bool} (h : PCall P f args (dBool b)) : PCall P f args (.kb b) := by
  refine ⟨h.1, fun r A w vs hr hc hs hv => (h.2 r A w vs hr hc hs hv).mono fun e w' he => ?_⟩
  obtain ⟨v, r', A', x, H', n', rfl, ⟨rfl, rfl, rfl⟩, k1, k2, k3, k4, k5, k6, k7⟩ := he
  refine ⟨v, r', A', .kb b, [], 0, rfl, ⟨rfl, rfl, rfl⟩, k1, k2, k3, k4, ?_, k6, k7⟩
  cases k5 with | dat hh => cases hh; exact .kb b
def LA (l : List Entry') : AVal := .dat (.list (l.map Entry'.enc))
def IA (l : List Id) : AVal := .dat (.list (l.map Id.enc))
def pastErr (l : List Entry') (x : Id) : Int := if logErr l = 0 then (if l.any (isThe x) = true then 0 else 5) else logErr l
def pastAns (l : List Entry') (x : Id) : List Id := if pastErr l x = 0 then pastOfId l x else []
theorem pastErr_ok {l : List Entry'} {x : Id} (h : pastErr l x = 0) : Right l ∧ ∃ e ∈ l, e.id = x := by
  unfold pastErr at h
  split at h
  · rename_i h1
    split at h
    · rename_i h2; exact ⟨right_iff.1 h1, any_isThe.1 h2⟩
    · simp at h
  · rename_i h1; exact absurd h h1
set_option maxHeartbeats 0 in
theorem past_ok (l : List Entry') (hl : LogOk l) (x : Id) : PCall Try.prog 19 [.dat (.list (l.map Entry'.enc)), x.arg] (.tup [.dat (.list ((pastAns l x).map Id.enc)), dInt (pastErr l x)]) := by
  refine pcall_intro tab_all tab_mixed Try.func19 (by kernel_rfl) Try.ntmps19 rfl ?_
  conv => whnf
  refine .data _ _ (dagCheck_ok l hl) rfl ?_
  conv => whnf
  repeat (first | (refine Conf.mk (by kernel_rfl) ?_; conv => whnf) | (refine SeqOk.go ?_; conv => whnf))
  refine ⟨fun h1 => ?_, fun h1 => ?_⟩
  · have h1 : logErr l ≠ 0 := by simpa using h1
    have he : pastErr l x = logErr l := by unfold pastErr; rw [if_neg h1]
    have ha : pastAns l x = [] := by unfold pastAns; rw [he, if_neg h1]
    conv => whnf
    repeat (first | (refine Conf.mk (by kernel_rfl) ?_; conv => whnf) | (refine SeqOk.go ?_; conv => whnf))
    exact Ret.to (by rw [he, ha]; rfl)
  · have h1 : logErr l = 0 := by simpa using h1
    have hr := right_iff.1 h1
    conv => whnf
    repeat (first | (refine Conf.mk (by kernel_rfl) ?_; conv => whnf) | (refine SeqOk.go ?_; conv => whnf))
    refine .look _ _ (has_ok x l hl.len) rfl rfl ?_
    conv => whnf
    repeat (first | (refine Conf.mk (by kernel_rfl) ?_; conv => whnf) | (refine SeqOk.go ?_; conv => whnf))
    refine ⟨fun h2 => ?_, fun h2 => ?_⟩
    · have h2 : l.any (isThe x) = false := (Bool.not_eq_true' _).mp h2
      have he : pastErr l x = 5 := by unfold pastErr; rw [if_pos h1, h2]; rfl
      have ha : pastAns l x = [] := by unfold pastAns; rw [he]; rfl
      conv => whnf
      repeat (first | (refine Conf.mk (by kernel_rfl) ?_; conv => whnf) | (refine SeqOk.go ?_; conv => whnf))
      exact Ret.to (by rw [he, ha]; rfl)
    · have h2 : l.any (isThe x) = true := (Bool.not_eq_false' (b := l.any (isThe x))).mp h2
      have he : pastErr l x = 0 := by unfold pastErr; rw [if_pos h1, if_pos h2]
      have ha : pastAns l x = pastOfId l x := by unfold pastAns; rw [he]; rfl
      conv => whnf
      repeat (first | (refine Conf.mk (by kernel_rfl) ?_; conv => whnf) | (refine SeqOk.go ?_; conv => whnf))
      refine .keep [0] _ _ (pastOf_ok l hr.len (fun e he => hr.six he) fun e _ => past1_ok x e) rfl rfl rfl rfl ?_
      conv => whnf
      repeat (first | (refine Conf.mk (by kernel_rfl) ?_; conv => whnf) | (refine SeqOk.go ?_; conv => whnf))
      exact Ret.to (by rw [he, ha]; rfl)
def colErr (l : List Entry') (c : Int) : Int := if logErr l = 0 then (if c < 1 ∨ 7 < c then 3 else 0) else logErr l
def headsAns (l : List Entry') (c : Int) : List Id := if colErr l c = 0 then headsOf c l else []
theorem colErr_ok {l : List Entry'} {c : Int} (h : colErr l c = 0) : Right l ∧ 1 ≤ c ∧ c ≤ 7 := by
  unfold colErr at h
  split at h
  · rename_i h1
    split at h
    · simp at h
    · rename_i h2; exact ⟨right_iff.1 h1, by omega⟩
  · rename_i h1; exact absurd h h1
set_option maxHeartbeats 0 in
theorem heads_ok (l : List Entry') (hl : LogOk l) (c : Int) : PCall Try.prog 34 [.dat (.list (l.map Entry'.enc)), dInt c] (.tup [.dat (.list ((headsAns l c).map Id.enc)), dInt (colErr l c)]) := by
  refine pcall_intro tab_all tab_mixed Try.func34 (by kernel_rfl) Try.ntmps34 rfl ?_
  conv => whnf
  refine .data _ _ (dagCheck_ok l hl) rfl ?_
  conv => whnf
  repeat (first | (refine Conf.mk (by kernel_rfl) ?_; conv => whnf) | (refine SeqOk.go ?_; conv => whnf))
  refine ⟨fun h1 => ?_, fun h1 => ?_⟩
  · have h1 : logErr l ≠ 0 := by simpa using h1
    have he : colErr l c = logErr l := by unfold colErr; rw [if_neg h1]
    have ha : headsAns l c = [] := by unfold headsAns; rw [he, if_neg h1]
    conv => whnf
    repeat (first | (refine Conf.mk (by kernel_rfl) ?_; conv => whnf) | (refine SeqOk.go ?_; conv => whnf))
    exact Ret.to (by rw [he, ha]; rfl)
  · have h1 : logErr l = 0 := by simpa using h1
    have hr := right_iff.1 h1
    conv => whnf
    repeat (first | (refine Conf.mk (by kernel_rfl) ?_; conv => whnf) | (refine SeqOk.go ?_; conv => whnf))
    refine ⟨fun h2 => ?_, fun h2 => ?_⟩
    · have hc : c < 1 ∨ 7 < c := .inl (by simpa using h2)
      have he : colErr l c = 3 := by unfold colErr; rw [if_pos h1, if_pos hc]
      have ha : headsAns l c = [] := by unfold headsAns; rw [he]; rfl
      conv => whnf
      repeat (first | (refine Conf.mk (by kernel_rfl) ?_; conv => whnf) | (refine SeqOk.go ?_; conv => whnf))
      exact Ret.to (by rw [he, ha]; rfl)
    · have h2 : ¬ c < 1 := by simpa using h2
      conv => whnf
      repeat (first | (refine Conf.mk (by kernel_rfl) ?_; conv => whnf) | (refine SeqOk.go ?_; conv => whnf))
      refine ⟨fun h3 => ?_, fun h3 => ?_⟩
      · have hc : c < 1 ∨ 7 < c := .inr (by simpa using h3)
        have he : colErr l c = 3 := by unfold colErr; rw [if_pos h1, if_pos hc]
        have ha : headsAns l c = [] := by unfold headsAns; rw [he]; rfl
        conv => whnf
        repeat (first | (refine Conf.mk (by kernel_rfl) ?_; conv => whnf) | (refine SeqOk.go ?_; conv => whnf))
        exact Ret.to (by rw [he, ha]; rfl)
      · have h3 : ¬ 7 < c := by simpa using h3
        have he : colErr l c = 0 := by unfold colErr; rw [if_pos h1, if_neg (by omega)]
        have ha : headsAns l c = headsOf c l := by unfold headsAns; rw [he]; rfl
        conv => whnf
        repeat (first | (refine Conf.mk (by kernel_rfl) ?_; conv => whnf) | (refine SeqOk.go ?_; conv => whnf))
        refine .keep [0, 1] _ _ (pastOf_ok l hr.len (fun e he => hr.six he) fun e _ => heads1_ok c e) rfl rfl rfl rfl ?_
        conv => whnf
        repeat (first | (refine Conf.mk (by kernel_rfl) ?_; conv => whnf) | (refine SeqOk.go ?_; conv => whnf))
        have hfl := pastFold_len (fun e => bothOf e.colors c) (l := l) fun e he => hr.six he
        have hll := hr.len
        refine .keep [2] _ _ (idsOf_ok l hr.len fun e _ => heads2_ok c (sortIds (pastFold (fun e => bothOf e.colors c) l)) (by rw [sortIds_len]; omega) e) rfl rfl rfl rfl ?_
        conv => whnf
        repeat (first | (refine Conf.mk (by kernel_rfl) ?_; conv => whnf) | (refine SeqOk.go ?_; conv => whnf))
        refine Ret.to ?_
        rw [he, ha]
        have : (fun e : Entry' => bothOf e.colors c && !(sortIds (pastFold (fun e => bothOf e.colors c) l)).any (isId2 e.id)) = fun e => bothOf e.colors c && !(pastFold (fun e => bothOf e.colors c) l).any (isId2 e.id) := funext fun e => by
          congr 2
          rw [Bool.eq_iff_iff, any_isId2, any_isId2, mem_sortIds]
        rw [this]
        rfl
def cntv (r : Int) (l : List Entry') : Int := if logErr l = 0 then (cnt r l : Int) else 0
def countA (l : List Entry') : AVal := vecA (cntv 0 l) (cntv 1 l)
set_option maxHeartbeats 0 in
theorem Count_ok (l : List Entry') (hl : LogOk l) : PCall Try.prog 35 [.dat (.list (l.map Entry'.enc))] (.tup [countA l, dInt (logErr l)]) := by
  refine pcall_intro tab_all tab_mixed Try.func35 (by kernel_rfl) Try.ntmps35 rfl ?_
  conv => whnf
  refine .data _ _ (dagCheck_ok l hl) rfl ?_
  conv => whnf
  repeat (first | (refine Conf.mk (by kernel_rfl) ?_; conv => whnf) | (refine SeqOk.go ?_; conv => whnf))
  refine ⟨fun h1 => ?_, fun h1 => ?_⟩
  · have h1 : logErr l ≠ 0 := by simpa using h1
    conv => whnf
    repeat (first | (refine Conf.mk (by kernel_rfl) ?_; conv => whnf) | (refine SeqOk.go ?_; conv => whnf))
    exact Ret.to (by unfold countA cntv; rw [if_neg h1, if_neg h1]; rfl)
  · have h1 : logErr l = 0 := by simpa using h1
    have hr := right_iff.1 h1
    conv => whnf
    repeat (first | (refine Conf.mk (by kernel_rfl) ?_; conv => whnf) | (refine SeqOk.go ?_; conv => whnf))
    refine .data _ _ (count_ok l hl.len hr.regs) rfl ?_
    conv => whnf
    repeat (first | (refine Conf.mk (by kernel_rfl) ?_; conv => whnf) | (refine SeqOk.go ?_; conv => whnf))
    exact Ret.to (by unfold countA cntv; rw [if_pos h1, if_pos h1, h1]; rfl)
theorem id_ok (r n : Int) : PCall Try.prog 33 [dInt r, dInt n] (Id.arg ⟨r, n⟩) := by
  refine pcall_intro tab_all tab_mixed Try.func33 (by kernel_rfl) Try.ntmps33 rfl ?_
  conv => whnf
  exact Ret.to rfl
def someLog : List Entry' := [⟨⟨0, 1⟩, 1, ⟨#[112, 117, 116, 32, 97, 32, 120]⟩, []⟩, ⟨⟨1, 1⟩, 3, ⟨#[112, 117, 116, 32, 97, 32, 121]⟩, []⟩, ⟨⟨0, 2⟩, 3, ⟨#[100, 114, 111, 112, 32, 97]⟩, [⟨0, 1⟩]⟩, ⟨⟨1, 2⟩, 2, ⟨#[112, 117, 116, 32, 98, 32, 122]⟩, [⟨0, 2⟩, ⟨1, 1⟩]⟩]
set_option maxHeartbeats 0 in
theorem entries_ok : PCall Try.prog 32 [] (.dat (.list (someLog.map Entry'.enc))) := by
  refine pcall_intro tab_all tab_mixed Try.func32 (by kernel_rfl) Try.ntmps32 rfl ?_
  conv => whnf
  refine .data _ _ (id_ok _ _) rfl ?_
  conv => whnf
  repeat (first | (refine Conf.mk (by kernel_rfl) ?_; conv => whnf) | (refine SeqOk.go ?_; conv => whnf))
  refine .data _ _ (id_ok _ _) rfl ?_
  conv => whnf
  repeat (first | (refine Conf.mk (by kernel_rfl) ?_; conv => whnf) | (refine SeqOk.go ?_; conv => whnf))
  refine .data _ _ (id_ok _ _) rfl ?_
  conv => whnf
  repeat (first | (refine Conf.mk (by kernel_rfl) ?_; conv => whnf) | (refine SeqOk.go ?_; conv => whnf))
  refine .data _ _ (id_ok _ _) rfl ?_
  conv => whnf
  repeat (first | (refine Conf.mk (by kernel_rfl) ?_; conv => whnf) | (refine SeqOk.go ?_; conv => whnf))
  refine .data _ _ (id_ok _ _) rfl ?_
  conv => whnf
  repeat (first | (refine Conf.mk (by kernel_rfl) ?_; conv => whnf) | (refine SeqOk.go ?_; conv => whnf))
  refine .data _ _ (id_ok _ _) rfl ?_
  conv => whnf
  repeat (first | (refine Conf.mk (by kernel_rfl) ?_; conv => whnf) | (refine SeqOk.go ?_; conv => whnf))
  refine .data _ _ (id_ok _ _) rfl ?_
  conv => whnf
  repeat (first | (refine Conf.mk (by kernel_rfl) ?_; conv => whnf) | (refine SeqOk.go ?_; conv => whnf))
  exact Ret.to rfl
theorem someLog_ok : LogOk someLog := ⟨by decide, by decide⟩
theorem someLog_right : logErr someLog = 0 := by kernel_rfl
theorem same_ok (a : List Id) (h : a.length ≤ 140737488355328) : PCall Try.prog 12 [.dat (.list (a.map Id.enc)), .dat (.list (a.map Id.enc))] (.kb true) := by
  have := (sameIds_ok a a h).kb
  rwa [sameIds_iff.2 rfl] at this
set_option maxHeartbeats 0 in
theorem dagBegun_ok : PCall Try.prog 10 [] (dBool true) := by
  have p1 : pastErr someLog ⟨1, 2⟩ = 0 := by kernel_rfl
  have p2 : pastAns someLog ⟨1, 2⟩ = [⟨0, 1⟩, ⟨0, 2⟩, ⟨1, 1⟩] := by kernel_rfl
  have q1 : colErr someLog 1 = 0 := by kernel_rfl
  have q2 : headsAns someLog 1 = [⟨0, 2⟩, ⟨1, 1⟩] := by kernel_rfl
  have r1 : countA someLog = vecA 2 2 := by kernel_rfl
  have hp := past_ok someLog someLog_ok ⟨1, 2⟩
  have hh := heads_ok someLog someLog_ok 1
  have hc := Count_ok someLog someLog_ok
  have hk := dagCheck_ok someLog someLog_ok
  rw [p1, p2] at hp
  rw [q1, q2] at hh
  rw [r1, someLog_right] at hc
  rw [someLog_right] at hk
  refine pcall_intro tab_all tab_mixed Try.func10 (by kernel_rfl) Try.ntmps10 rfl ?_
  conv => whnf
  refine .data _ _ entries_ok rfl ?_
  conv => whnf
  repeat (first | (refine Conf.mk (by kernel_rfl) ?_; conv => whnf) | (refine SeqOk.go ?_; conv => whnf))
  refine .data _ _ (id_ok _ _) rfl ?_
  conv => whnf
  repeat (first | (refine Conf.mk (by kernel_rfl) ?_; conv => whnf) | (refine SeqOk.go ?_; conv => whnf))
  refine .data _ _ hp rfl ?_
  conv => whnf
  repeat (first | (refine Conf.mk (by kernel_rfl) ?_; conv => whnf) | (refine SeqOk.go ?_; conv => whnf))
  refine .data _ _ entries_ok rfl ?_
  conv => whnf
  repeat (first | (refine Conf.mk (by kernel_rfl) ?_; conv => whnf) | (refine SeqOk.go ?_; conv => whnf))
  refine .data _ _ hh rfl ?_
  conv => whnf
  repeat (first | (refine Conf.mk (by kernel_rfl) ?_; conv => whnf) | (refine SeqOk.go ?_; conv => whnf))
  refine .data _ _ entries_ok rfl ?_
  conv => whnf
  repeat (first | (refine Conf.mk (by kernel_rfl) ?_; conv => whnf) | (refine SeqOk.go ?_; conv => whnf))
  refine .data _ _ hc rfl ?_
  conv => whnf
  repeat (first | (refine Conf.mk (by kernel_rfl) ?_; conv => whnf) | (refine SeqOk.go ?_; conv => whnf))
  refine .data _ _ entries_ok rfl ?_
  conv => whnf
  repeat (first | (refine Conf.mk (by kernel_rfl) ?_; conv => whnf) | (refine SeqOk.go ?_; conv => whnf))
  refine .data _ _ hk rfl ?_
  conv => whnf
  repeat (first | (refine Conf.mk (by kernel_rfl) ?_; conv => whnf) | (refine SeqOk.go ?_; conv => whnf))
  refine BoolCase.yes rfl ?_
  conv => whnf
  repeat (first | (refine Conf.mk (by kernel_rfl) ?_; conv => whnf) | (refine SeqOk.go ?_; conv => whnf))
  refine BoolCase.yes rfl ?_
  conv => whnf
  repeat (first | (refine Conf.mk (by kernel_rfl) ?_; conv => whnf) | (refine SeqOk.go ?_; conv => whnf))
  refine BoolCase.yes rfl ?_
  conv => whnf
  repeat (first | (refine Conf.mk (by kernel_rfl) ?_; conv => whnf) | (refine SeqOk.go ?_; conv => whnf))
  refine BoolCase.yes rfl ?_
  conv => whnf
  repeat (first | (refine Conf.mk (by kernel_rfl) ?_; conv => whnf) | (refine SeqOk.go ?_; conv => whnf))
  refine .data _ _ (id_ok _ _) rfl ?_
  conv => whnf
  repeat (first | (refine Conf.mk (by kernel_rfl) ?_; conv => whnf) | (refine SeqOk.go ?_; conv => whnf))
  refine .data _ _ (id_ok _ _) rfl ?_
  conv => whnf
  repeat (first | (refine Conf.mk (by kernel_rfl) ?_; conv => whnf) | (refine SeqOk.go ?_; conv => whnf))
  refine .data _ _ (id_ok _ _) rfl ?_
  conv => whnf
  repeat (first | (refine Conf.mk (by kernel_rfl) ?_; conv => whnf) | (refine SeqOk.go ?_; conv => whnf))
  refine .look _ _ (same_ok [⟨0, 1⟩, ⟨0, 2⟩, ⟨1, 1⟩] (by decide)) rfl rfl ?_
  conv => whnf
  repeat (first | (refine Conf.mk (by kernel_rfl) ?_; conv => whnf) | (refine SeqOk.go ?_; conv => whnf))
  refine .data _ _ (id_ok _ _) rfl ?_
  conv => whnf
  repeat (first | (refine Conf.mk (by kernel_rfl) ?_; conv => whnf) | (refine SeqOk.go ?_; conv => whnf))
  refine .data _ _ (id_ok _ _) rfl ?_
  conv => whnf
  repeat (first | (refine Conf.mk (by kernel_rfl) ?_; conv => whnf) | (refine SeqOk.go ?_; conv => whnf))
  refine .look _ _ (same_ok [⟨0, 2⟩, ⟨1, 1⟩] (by decide)) rfl rfl ?_
  conv => whnf
  repeat (first | (refine Conf.mk (by kernel_rfl) ?_; conv => whnf) | (refine SeqOk.go ?_; conv => whnf))
  exact Ret.bool rfl
end Go.Proofs.Ytlioojekjnigiad.AM
/- Logs: what the document says of them, called. -/
namespace Go.Proofs.Ytlioojekjnigiad.AM
set_option linter.unusedVariables false
set_option linter.unusedSimpArgs false

theorem SeqOk.cut' {N : Nat} {a b : (X → St → Prop) → St → Prop} {Q : X → St → Prop} {s : St} (s1 : St) (ha : a (fun e s' => match e with
      | .normal => Into N s' fun s2 => s2 = s1
      | .exit id => Q (.exit id) s'
      | .ret => Q .ret s') s) (hb : b Q s1) : SeqOk N a b Q s := .cut (fun s2 => s2 = s1) ha fun s2 h => by rw [h]; exact hb
end Go.Proofs.Ytlioojekjnigiad.AM
/- Logs: pasts of what is past. -/
namespace Go.Proofs.Ytlioojekjnigiad.AM
set_option linter.unusedVariables false
set_option linter.unusedSimpArgs false

theorem past_in {l : List Entry'} (hr : Right l) {x : Id} (h : ∃ e ∈ l, e.id = x) : PCall Try.prog 19 [.dat (.list (l.map Entry'.enc)), x.arg] (.tup [.dat (.list ((pastOfId l x).map Id.enc)), dInt 0]) := by
  have he : pastErr l x = 0 := by unfold pastErr; rw [if_pos (right_iff.2 hr), if_pos (any_isThe.2 h)]
  have ha : pastAns l x = pastOfId l x := by unfold pastAns; rw [if_pos he]
  have := past_ok l hr.logOk x
  rwa [he, ha] at this
theorem pastOfId_len {l : List Entry'} (hr : Right l) (x : Id) : (pastOfId l x).length ≤ 240 := by
  have := pastFold_len (isThe x) fun e he => hr.six he
  have := hr.len
  unfold pastOfId
  rw [sortIds_len]
  omega
theorem checkRight {l : List Entry'} (hr : Right l) : PCall Try.prog 36 [.dat (.list (l.map Entry'.enc))] (dInt 0) := by
  have := dagCheck_ok l hr.logOk
  rwa [right_iff.2 hr] at this
theorem lt_of_cast {i n : Nat} (h : decide ((i : Int) < (n : Int)) = true) : i < n := by simpa using h
theorem ge_of_cast {i n : Nat} (h : decide ((i : Int) < (n : Int)) = false) : n ≤ i := by simpa using h
theorem lt_of_len {α : Type} {enc : α → List D} {l : List α} {i : Nat} (h : decide ((i : Int) < ((l.map enc).length : Int)) = true) : i < l.length := by simpa using h
theorem ge_of_len {α : Type} {enc : α → List D} {l : List α} {i : Nat} (h : decide ((i : Int) < ((l.map enc).length : Int)) = false) : l.length ≤ i := by simpa using h
end Go.Proofs.Ytlioojekjnigiad.AM
/- Logs: their beginnings. -/
namespace Go.Proofs.Ytlioojekjnigiad.AM
set_option linter.unusedVariables false
set_option linter.unusedSimpArgs false

theorem cnt_all {l : List Entry'} (h : ∀ e ∈ l, e.id.r = 0 ∨ e.id.r = 1) : cnt 0 l + cnt 1 l = l.length := by
  induction l with
  | nil => rfl
  | cons e t ih =>
    have := ih fun x hx => h x (by simp [hx])
    unfold cnt at *
    rw [List.countP_cons, List.countP_cons, List.length_cons]
    rcases h e (by simp) with h1 | h1 <;> simp [h1] <;> omega
theorem cnt_mono (r : Int) {l : List Entry'} {i n : Nat} (h : i ≤ n) : cnt r (l.take i) ≤ cnt r (l.take n) := by
  unfold cnt
  exact (List.take_sublist_take_left h).countP_le
/-- Pasts in a beginning are as in the whole. -/
theorem past_part {l : List Entry'} (hr : Right l) {n i : Nat} (hi : i < n) (hil : i < l.length) : pastOfId (l.take n) l[i].id = pastOfId l l[i].id := by
  have hrt := hr.take n
  refine sorted_ext (pastOfId_sorted _ _) (pastOfId_sorted _ _) fun y => ?_
  rw [mem_pastOfId hrt, mem_pastOfId hr]
  refine ⟨fun h => h.mono fun e he => List.mem_of_mem_take he, fun h => ?_⟩
  obtain ⟨j, hj, _, _, h5⟩ := h.ahead hr i hil rfl
  exact h5.mono fun e he => (List.take_subset_take_left l (by omega)) he
end Go.Proofs.Ytlioojekjnigiad.AM
/- Plain: sites. -/
namespace Go.Proofs.Ytlioojekjnigiad.AM
set_option linter.unusedVariables false
set_option linter.unusedSimpArgs false

structure Site' where
  region : Int
  log : List Entry'
  waits : List Entry'
/-- May an entry stand right behind a log? -/
def readyP (l : List Entry') (e : Entry') : Bool := decide (e.id.n = (cnt e.id.r l : Int) + 1) && e.links.all fun x => l.any (isThe x)
def settleN : Nat → List Entry' → List Entry' → List Entry' × List Entry'
  | 0, l, w => (l, w)
  | n + 1, l, w => match isIdx (readyP l) w 0 with
    | none => (l, w)
    | some i => match w[i]? with
      | none => (l, w)
      | some e => settleN n (l ++ [e]) (w.eraseIdx i)
def settle (l w : List Entry') : List Entry' × List Entry' := settleN w.length l w
theorem isIdx_first {α : Type} {p : α → Bool} : ∀ {l : List α} {i j : Nat}, isIdx p l i = some j → ∀ k (hk : k < l.length), i + k < j → p l[k] = false
  | [], i, j, h, k, hk, _ => by simp at hk
  | a :: t, i, j, h, k, hk, hkj => by
    unfold isIdx at h
    split at h
    · obtain rfl : i = j := by simpa using h
      omega
    · rename_i hp
      match k with
      | 0 => simpa using hp
      | k + 1 => exact isIdx_first h k (by simpa using hk) (by omega)
theorem settle_none {l w : List Entry'} (h : isIdx (readyP l) w 0 = none) : settle l w = (l, w) := by
  unfold settle
  cases w with
  | nil => rfl
  | cons e t => simp only [List.length_cons, settleN, h]
theorem settle_some {l w : List Entry'} {i : Nat} (h : isIdx (readyP l) w 0 = some i) (hi : i < w.length) : settle l w = settle (l ++ [w[i]]) (w.eraseIdx i) := by
  unfold settle
  rw [List.length_eraseIdx_of_lt hi]
  obtain ⟨n, hn⟩ : ∃ n, w.length = n + 1 := ⟨w.length - 1, by omega⟩
  rw [hn]
  simp only [settleN, h, List.getElem?_eq_getElem hi, Nat.add_sub_cancel]
theorem readyP_behind {l : List Entry'} {e : Entry'} (he : e.err = 0) (hn : ∀ x ∈ l, x.id ≠ e.id) (h : readyP l e = true) : Behind l e := by
  unfold readyP at h
  rw [Bool.and_eq_true, decide_eq_true_eq, List.all_eq_true] at h
  exact ⟨he, hn, h.1, fun y hy => any_isThe.1 (h.2 y hy)⟩
/-- Numbers of a region of a right log: 1, 2, .. -/
theorem Right.num_le {l : List Entry'} (hr : Right l) {e : Entry'} (he : e ∈ l) : 1 ≤ e.id.n ∧ e.id.n ≤ (cnt e.id.r l : Int) := by
  obtain ⟨i, hi, rfl⟩ := List.getElem_of_mem he
  have h1 := (hr.get hi).num
  have h2 := cnt_succ l[i].id.r hi
  simp only [beq_self_eq_true, if_true] at h2
  have h3 : cnt l[i].id.r (l.take (i + 1)) ≤ cnt l[i].id.r l := (List.take_sublist (i + 1) l).countP_le
  omega
theorem Right.cnt_twenty {l : List Entry'} (hr : Right l) (r : Int) : cnt r l ≤ 20 := by
  rcases Nat.eq_zero_or_pos (cnt r l) with h | h
  · omega
  · -- the last of that region
    have key : ∀ k, k ≤ l.length → 0 < cnt r (l.take k) → ∃ e ∈ l, e.id.r = r ∧ e.id.n = (cnt r (l.take k) : Int) := by
      intro k
      induction k with
      | zero => intro _ h; simp [cnt] at h
      | succ k ih =>
        intro hk hc
        have hs := cnt_succ r (l := l) (i := k) hk
        by_cases hx : l[k].id.r = r
        · rw [if_pos (by simp [hx])] at hs
          refine ⟨l[k], List.getElem_mem hk, hx, ?_⟩
          have := (hr.get hk).num
          rw [hx] at this
          omega
        · rw [if_neg (by simp [hx])] at hs
          obtain ⟨e, he, h1, h2⟩ := ih (by omega) (by omega)
          exact ⟨e, he, h1, by omega⟩
    obtain ⟨e, he, h1, h2⟩ := key l.length (Nat.le_refl _) (by rw [List.take_of_length_le (Nat.le_refl _)]; exact h)
    rw [List.take_of_length_le (Nat.le_refl _)] at h2
    have hok := hr.ok he
    simp [Id.ok] at hok
    omega
/-- A right log with one more. -/
theorem Right.snoc {l : List Entry'} (hr : Right l) {e : Entry'} (h : Behind l e) : Right (l ++ [e]) := by
  have hat : ∀ a x b, l ++ [e] = a ++ x :: b → Behind a x := fun a x b hh => by
    rcases List.append_eq_append_iff.1 hh with ⟨c, h1, h2⟩ | ⟨c, h1, h2⟩
    · cases c with
      | nil =>
        simp only [List.append_nil, List.nil_append, List.cons.injEq] at h1 h2
        rw [h1, ← h2.1]; exact h
      | cons y c =>
        simp at h2
    · cases c with
      | nil =>
        simp only [List.append_nil, List.nil_append, List.cons.injEq] at h1 h2
        rw [← h1, h2.1]; exact h
      | cons y c =>
        simp only [List.cons_append, List.cons.injEq] at h2
        obtain ⟨rfl, _⟩ := h2
        exact hr.at' a x c h1
  refine ⟨?_, hat⟩
  have hok := ok_of_err h.err
  simp [Id.ok] at hok
  have h0 := cnt_all (l := l ++ [e]) fun x hx => by
    rcases List.mem_append.1 hx with hx | hx
    · exact hr.regs x hx
    · have : x = e := by simpa using hx
      rw [this]; exact r_of_ok (ok_of_err h.err)
  have a0 := hr.cnt_twenty 0
  have a1 := hr.cnt_twenty 1
  have hnum := h.num
  have s0 : cnt 0 (l ++ [e]) = cnt 0 l + if e.id.r == 0 then 1 else 0 := by simp [cnt, List.countP_append, List.countP_cons]
  have s1 : cnt 1 (l ++ [e]) = cnt 1 l + if e.id.r == 1 then 1 else 0 := by simp [cnt, List.countP_append, List.countP_cons]
  rcases r_of_ok (ok_of_err h.err) with hr0 | hr0
  · rw [hr0] at hnum s0 s1
    simp at s0 s1
    omega
  · rw [hr0] at hnum s0 s1
    simp at s0 s1
    omega
end Go.Proofs.Ytlioojekjnigiad.AM
/- Logs: pasts of one that is a row of one's own. -/
namespace Go.Proofs.Ytlioojekjnigiad.AM
set_option linter.unusedVariables false
set_option linter.unusedSimpArgs false
set_option maxHeartbeats 0 in
theorem pastOfOwn_ok {cl : Nat} {p : Entry' → Bool} (c : Int) (l : List Entry') (hl : l.length ≤ 40) (h6 : ∀ e ∈ l, e.links.length ≤ 6) (hcl : ∀ e ∈ l, PCall Try.prog cl [e.arg, .dat (.ptr [.int .i64 c])] (dBool (p e))) :
    ECall Try.prog 50 [.row 0, .fn (.func cl) [] [.ptr 1 0]] [(0, .rows 35 5 (l.map Entry'.enc) true), (1, .vars 3 1 [dInt c] true)] 2 (.dat (.list ((sortIds (pastFold p l)).map Id.enc))) [(0, .rows 35 5 (l.map Entry'.enc) true), (1, .vars 3 1 [dInt c] true)] 0 := by
  refine acall_intro tab_all tab_mixed Try.func50 (by kernel_rfl) Try.ntmps50 rfl ?_
  conv => whnf
  refine LoopOk.hide fun Q1 hQ1 => ?_
  refine LoopOk.mk (fun m s => ∃ k, k + m = l.length ∧ s = ⟨[(6, dInt ((l.length : Int) - 1 - k)), (0, .row 0), (1, .fn (.func cl) [] [.ptr 1 0]), (5, .row 2)], 3, [(0, .rows 35 5 (l.map Entry'.enc) true), (1, .vars 3 1 [dInt c] true), (2, .rows 33 2 ((pastFold p (l.drop (l.length - k))).map Id.enc) true)]⟩) l.length ((Into.row 5 33 2 rfl).trans fun s' hs' => by
    subst hs'
    exact Into.mono (Into.to [0, 1, 2] [(6, dInt ((l.length : Int) - 1 - (0 : Nat))), (0, .row 0), (1, .fn (.func cl) [] [.ptr 1 0]), (5, .row 2)] [(0, .rows 35 5 (l.map Entry'.enc) true), (1, .vars 3 1 [dInt c] true), (2, .rows 33 2 ((pastFold p (l.drop (l.length - 0))).map Id.enc) true)] ⟨.same (congrArg dInt (by rw [wrap_id (by simp; omega) (by simp; omega)]; simp)), .same rfl, .same rfl, .same rfl, trivial⟩ ⟨⟨rfl, rfl, rfl, rfl⟩, ⟨rfl, rfl, rfl, .same rfl, rfl, trivial⟩, ⟨rfl, rfl, rfl, by rw [List.drop_of_length_le (by omega)]; rfl⟩, trivial⟩ rfl rfl) fun s' h => ⟨0, by omega, h⟩) ?_
  rintro m s ⟨k, hk, rfl⟩
  conv => whnf
  repeat (first | (refine Conf.mk (by kernel_rfl) ?_; conv => whnf) | (refine SeqOk.go ?_; conv => whnf))
  refine ⟨fun h => ?_, fun h => ?_⟩
  · have hk' : k < l.length := by simp at h; omega
    have hsub : ((l.length : Int) - 1 - k) = ((l.length - 1 - k : Nat) : Int) := by omega
    have hlt : l.length - 1 - k < l.length := by omega
    have hfl := pastFold_len p (l := l.drop (l.length - k)) fun e he => h6 e (List.mem_of_mem_drop he)
    rw [List.length_drop] at hfl
    have hst : pastFold p (l.drop (l.length - (k + 1))) = if p l[l.length - 1 - k] || (pastFold p (l.drop (l.length - k))).any (isId2 l[l.length - 1 - k].id) then joinIds (pastFold p (l.drop (l.length - k))) l[l.length - 1 - k].links else pastFold p (l.drop (l.length - k)) := by
      rw [drop_last hk']
      rfl
    conv => whnf
    repeat (first | (refine Conf.mk (by kernel_rfl) ?_; conv => whnf) | (refine SeqOk.go ?_; conv => whnf))
    refine AtIdx.ofMap' _ hsub hlt rfl ?_
    conv => whnf
    repeat (first | (refine Conf.mk (by kernel_rfl) ?_; conv => whnf) | (refine SeqOk.go ?_; conv => whnf))
    refine .mk _ (by rw [List.getElem?_map, List.getElem?_eq_getElem hlt]; rfl) ?_
    conv => whnf
    repeat (first | (refine Conf.mk (by kernel_rfl) ?_; conv => whnf) | (refine SeqOk.go ?_; conv => whnf))
    refine .look _ _ (hcl _ (List.getElem_mem hlt)) rfl rfl ?_
    conv => whnf
    repeat (first | (refine Conf.mk (by kernel_rfl) ?_; conv => whnf) | (refine SeqOk.go ?_; conv => whnf))
    refine ⟨fun h3 => ?_, fun h3 => ?_⟩
    · have hc : (p l[l.length - 1 - k] || (pastFold p (l.drop (l.length - k))).any (isId2 l[l.length - 1 - k].id)) = true := by rw [h3]; rfl
      conv => whnf
      repeat (first | (refine Conf.mk (by kernel_rfl) ?_; conv => whnf) | (refine SeqOk.go ?_; conv => whnf))
      refine AtIdx.ofMap' _ hsub hlt rfl ?_
      conv => whnf
      repeat (first | (refine Conf.mk (by kernel_rfl) ?_; conv => whnf) | (refine SeqOk.go ?_; conv => whnf))
      refine .mk _ (by rw [List.getElem?_map, List.getElem?_eq_getElem hlt]; rfl) ?_
      conv => whnf
      repeat (first | (refine Conf.mk (by kernel_rfl) ?_; conv => whnf) | (refine SeqOk.go ?_; conv => whnf))
      refine .eff [2] _ _ _ _ 1 (join_ok _ _ (by omega) (by have := h6 _ (List.getElem_mem hlt); omega)) rfl rfl rfl rfl rfl ?_
      conv => whnf
      repeat (first | (refine Conf.mk (by kernel_rfl) ?_; conv => whnf) | (refine SeqOk.go ?_; conv => whnf))
      refine Into.mono (Into.to [0, 1, 3] [(6, dInt ((l.length : Int) - 1 - (k + 1 : Nat))), (0, .row 0), (1, .fn (.func cl) [] [.ptr 1 0]), (5, .row 2)] [(0, .rows 35 5 (l.map Entry'.enc) true), (1, .vars 3 1 [dInt c] true), (2, .rows 33 2 ((pastFold p (l.drop (l.length - (k + 1)))).map Id.enc) true)] ⟨.same (congrArg dInt (by rw [wrap_id (by omega) (by omega)]; omega)), .same rfl, .same rfl, .same rfl, trivial⟩ ⟨⟨rfl, rfl, rfl, rfl⟩, ⟨rfl, rfl, rfl, .same rfl, rfl, trivial⟩, ⟨rfl, rfl, rfl, ?_⟩, trivial⟩ rfl rfl) fun s' h => ⟨m - 1, by omega, k + 1, by omega, h⟩
      rw [hst, if_pos hc]
    · conv => whnf
      repeat (first | (refine Conf.mk (by kernel_rfl) ?_; conv => whnf) | (refine SeqOk.go ?_; conv => whnf))
      refine AtIdx.ofMap' _ hsub hlt rfl ?_
      conv => whnf
      repeat (first | (refine Conf.mk (by kernel_rfl) ?_; conv => whnf) | (refine SeqOk.go ?_; conv => whnf))
      refine .mk _ (by rw [List.getElem?_map, List.getElem?_eq_getElem hlt]; rfl) ?_
      conv => whnf
      repeat (first | (refine Conf.mk (by kernel_rfl) ?_; conv => whnf) | (refine SeqOk.go ?_; conv => whnf))
      refine .look _ _ (containsId_ok l[l.length - 1 - k].id (pastFold p (l.drop (l.length - k))) (by omega)) rfl rfl ?_
      conv => whnf
      repeat (first | (refine Conf.mk (by kernel_rfl) ?_; conv => whnf) | (refine SeqOk.go ?_; conv => whnf))
      refine ⟨fun h4 => ?_, fun h4 => ?_⟩
      · have hc : (p l[l.length - 1 - k] || (pastFold p (l.drop (l.length - k))).any (isId2 l[l.length - 1 - k].id)) = true := by rw [h3, h4]; rfl
        conv => whnf
        repeat (first | (refine Conf.mk (by kernel_rfl) ?_; conv => whnf) | (refine SeqOk.go ?_; conv => whnf))
        refine AtIdx.ofMap' _ hsub hlt rfl ?_
        conv => whnf
        repeat (first | (refine Conf.mk (by kernel_rfl) ?_; conv => whnf) | (refine SeqOk.go ?_; conv => whnf))
        refine .mk _ (by rw [List.getElem?_map, List.getElem?_eq_getElem hlt]; rfl) ?_
        conv => whnf
        repeat (first | (refine Conf.mk (by kernel_rfl) ?_; conv => whnf) | (refine SeqOk.go ?_; conv => whnf))
        refine .eff [2] _ _ _ _ 1 (join_ok _ _ (by omega) (by have := h6 _ (List.getElem_mem hlt); omega)) rfl rfl rfl rfl rfl ?_
        conv => whnf
        repeat (first | (refine Conf.mk (by kernel_rfl) ?_; conv => whnf) | (refine SeqOk.go ?_; conv => whnf))
        refine Into.mono (Into.to [0, 1, 3] [(6, dInt ((l.length : Int) - 1 - (k + 1 : Nat))), (0, .row 0), (1, .fn (.func cl) [] [.ptr 1 0]), (5, .row 2)] [(0, .rows 35 5 (l.map Entry'.enc) true), (1, .vars 3 1 [dInt c] true), (2, .rows 33 2 ((pastFold p (l.drop (l.length - (k + 1)))).map Id.enc) true)] ⟨.same (congrArg dInt (by rw [wrap_id (by omega) (by omega)]; omega)), .same rfl, .same rfl, .same rfl, trivial⟩ ⟨⟨rfl, rfl, rfl, rfl⟩, ⟨rfl, rfl, rfl, .same rfl, rfl, trivial⟩, ⟨rfl, rfl, rfl, ?_⟩, trivial⟩ rfl rfl) fun s' h => ⟨m - 1, by omega, k + 1, by omega, h⟩
        rw [hst, if_pos hc]
      · conv => whnf
        repeat (first | (refine Conf.mk (by kernel_rfl) ?_; conv => whnf) | (refine SeqOk.go ?_; conv => whnf))
        refine Into.mono (Into.to [0, 1, 2] [(6, dInt ((l.length : Int) - 1 - (k + 1 : Nat))), (0, .row 0), (1, .fn (.func cl) [] [.ptr 1 0]), (5, .row 2)] [(0, .rows 35 5 (l.map Entry'.enc) true), (1, .vars 3 1 [dInt c] true), (2, .rows 33 2 ((pastFold p (l.drop (l.length - (k + 1)))).map Id.enc) true)] ⟨.same (congrArg dInt (by rw [wrap_id (by omega) (by omega)]; omega)), .same rfl, .same rfl, .same rfl, trivial⟩ ⟨⟨rfl, rfl, rfl, rfl⟩, ⟨rfl, rfl, rfl, .same rfl, rfl, trivial⟩, ⟨rfl, rfl, rfl, ?_⟩, trivial⟩ rfl rfl) fun s' h => ⟨m - 1, by omega, k + 1, by omega, h⟩
        rw [hst, if_neg (by rw [h3, h4]; simp)]
  · have hk' : k = l.length := by simp at h; omega
    subst hk'
    conv => whnf
    repeat (first | (refine Conf.mk (by kernel_rfl) ?_; conv => whnf) | (refine SeqOk.go ?_; conv => whnf))
    subst hQ1
    conv => whnf
    have hfl := pastFold_len p h6
    rw [show l.length - l.length = 0 by omega, List.drop_zero]
    refine .eff [2] _ _ _ _ 0 (sortFunc_ok _ (by omega)) rfl rfl rfl rfl rfl ?_
    conv => whnf
    repeat (first | (refine Conf.mk (by kernel_rfl) ?_; conv => whnf) | (refine SeqOk.go ?_; conv => whnf))
    exact .mk [2] [0, 1] (.dat (.list ((sortIds (pastFold p l)).map Id.enc))) [(0, .rows 35 5 (l.map Entry'.enc) true), (1, .vars 3 1 [dInt c] true)] rfl (.data rfl) ⟨⟨rfl, rfl, rfl, rfl⟩, ⟨rfl, rfl, rfl, .same rfl, rfl, trivial⟩, trivial⟩ rfl rfl ⟨rfl, rfl, rfl⟩
set_option maxHeartbeats 0 in
theorem idsOfOwn_ok {cl : Nat} {p : Entry' → Bool} (c : Int) (past : List Id) (l : List Entry') (hl : l.length ≤ 40) (hcl : ∀ e ∈ l, PCall Try.prog cl [e.arg, .dat (.ptr [.fn (.func 64) [] [.ptr [.int .i64 c]]]), .dat (.ptr [.list (past.map Id.enc)])] (dBool (p e))) :
    ECall Try.prog 65 [.row 0, .fn (.func cl) [] [.ptr 2 0, .ptr 3 0]] [(0, .rows 35 5 (l.map Entry'.enc) true), (1, .vars 3 1 [dInt c] true), (2, .vars 84 1 [.fn (.func 64) [] [.ptr 1 0]] true), (3, .vars 23 1 [.dat (.list (past.map Id.enc))] true)] 4 (.dat (.list ((sortIds ((l.filter p).map (·.id))).map Id.enc))) [(0, .rows 35 5 (l.map Entry'.enc) true), (1, .vars 3 1 [dInt c] true), (2, .vars 84 1 [.fn (.func 64) [] [.ptr 1 0]] true), (3, .vars 23 1 [.dat (.list (past.map Id.enc))] true)] 0 := by
  refine acall_intro tab_all tab_mixed Try.func65 (by kernel_rfl) Try.ntmps65 rfl ?_
  conv => whnf
  refine LoopOk.hide fun Q1 hQ1 => ?_
  refine LoopOk.mk (fun m s => ∃ k, k + m = l.length ∧ s = ⟨[(10, dInt k), (9, dInt (l.map Entry'.enc).length), (8, .row 0), (1, .fn (.func cl) [] [.ptr 2 0, .ptr 3 0]), (5, .row 4)], 5, [(0, .rows 35 5 (l.map Entry'.enc) true), (1, .vars 3 1 [dInt c] true), (2, .vars 84 1 [.fn (.func 64) [] [.ptr 1 0]] true), (3, .vars 23 1 [.dat (.list (past.map Id.enc))] true), (4, .rows 33 2 ((((l.take k).filter p).map (·.id)).map Id.enc) true)]⟩) l.length ((Into.row 5 33 2 rfl).trans fun s' hs' => by
    subst hs'
    exact Into.mono (Into.to [0, 1, 2, 3, 4] [(10, dInt (0 : Nat)), (9, dInt (l.map Entry'.enc).length), (8, .row 0), (1, .fn (.func cl) [] [.ptr 2 0, .ptr 3 0]), (5, .row 4)] [(0, .rows 35 5 (l.map Entry'.enc) true), (1, .vars 3 1 [dInt c] true), (2, .vars 84 1 [.fn (.func 64) [] [.ptr 1 0]] true), (3, .vars 23 1 [.dat (.list (past.map Id.enc))] true), (4, .rows 33 2 ((((l.take 0).filter p).map (·.id)).map Id.enc) true)] (by repeat (first | exact trivial | refine ⟨.same (congrArg dInt (wrap_up (by omega))), ?_⟩ | refine ⟨.same rfl, ?_⟩ | refine ⟨.any _, ?_⟩)) ⟨⟨rfl, rfl, rfl, rfl⟩, ⟨rfl, rfl, rfl, .same rfl, rfl, trivial⟩, ⟨rfl, rfl, rfl, .same rfl, rfl, trivial⟩, ⟨rfl, rfl, rfl, .same rfl, rfl, trivial⟩, ⟨rfl, rfl, rfl, rfl⟩, trivial⟩ rfl rfl) fun s' h => ⟨0, by omega, h⟩) ?_
  rintro m s ⟨k, hk, rfl⟩
  conv => whnf
  repeat (first | (refine Conf.mk (by kernel_rfl) ?_; conv => whnf) | (refine SeqOk.go ?_; conv => whnf))
  refine ⟨fun h => ?_, fun h => ?_⟩
  · have hk' : k < l.length := by simpa using h
    have hst := filter_snoc p (List.getElem?_eq_getElem hk')
    have hfl := List.length_filter_le p (l.take k)
    rw [List.length_take] at hfl
    conv => whnf
    repeat (first | (refine Conf.mk (by kernel_rfl) ?_; conv => whnf) | (refine SeqOk.go ?_; conv => whnf))
    refine AtIdx.ofMap hk' rfl ?_
    conv => whnf
    repeat (first | (refine Conf.mk (by kernel_rfl) ?_; conv => whnf) | (refine SeqOk.go ?_; conv => whnf))
    refine .mk _ (by rw [List.getElem?_map, List.getElem?_eq_getElem hk']; rfl) ?_
    conv => whnf
    repeat (first | (refine Conf.mk (by kernel_rfl) ?_; conv => whnf) | (refine SeqOk.go ?_; conv => whnf))
    refine .look _ _ (hcl _ (List.getElem_mem hk')) rfl rfl ?_
    conv => whnf
    repeat (first | (refine Conf.mk (by kernel_rfl) ?_; conv => whnf) | (refine SeqOk.go ?_; conv => whnf))
    refine ⟨fun h3 => ?_, fun h3 => ?_⟩
    · rw [if_pos h3] at hst
      conv => whnf
      repeat (first | (refine Conf.mk (by kernel_rfl) ?_; conv => whnf) | (refine SeqOk.go ?_; conv => whnf))
      refine ⟨by simp [Id.enc], by simp; omega, ?_⟩
      conv => whnf
      repeat (first | (refine Conf.mk (by kernel_rfl) ?_; conv => whnf) | (refine SeqOk.go ?_; conv => whnf))
      refine Into.mono (Into.to [0, 1, 2, 3, 7] [(10, dInt (k + 1 : Nat)), (9, dInt (l.map Entry'.enc).length), (8, .row 0), (1, .fn (.func cl) [] [.ptr 2 0, .ptr 3 0]), (5, .row 4)] [(0, .rows 35 5 (l.map Entry'.enc) true), (1, .vars 3 1 [dInt c] true), (2, .vars 84 1 [.fn (.func 64) [] [.ptr 1 0]] true), (3, .vars 23 1 [.dat (.list (past.map Id.enc))] true), (4, .rows 33 2 ((((l.take (k + 1)).filter p).map (·.id)).map Id.enc) true)] (by repeat (first | exact trivial | refine ⟨.same (congrArg dInt (wrap_up (by omega))), ?_⟩ | refine ⟨.same rfl, ?_⟩ | refine ⟨.any _, ?_⟩)) ⟨⟨rfl, rfl, rfl, rfl⟩, ⟨rfl, rfl, rfl, .same rfl, rfl, trivial⟩, ⟨rfl, rfl, rfl, .same rfl, rfl, trivial⟩, ⟨rfl, rfl, rfl, .same rfl, rfl, trivial⟩, ⟨rfl, rfl, rfl, ?_⟩, trivial⟩ rfl rfl) fun s' h => ⟨m - 1, by omega, k + 1, by omega, h⟩
      rw [hst, List.map_append, List.map_append]
      rfl
    · rw [if_neg (by simp [h3]), List.append_nil] at hst
      conv => whnf
      repeat (first | (refine Conf.mk (by kernel_rfl) ?_; conv => whnf) | (refine SeqOk.go ?_; conv => whnf))
      refine Into.mono (Into.to [0, 1, 2, 3, 4] [(10, dInt (k + 1 : Nat)), (9, dInt (l.map Entry'.enc).length), (8, .row 0), (1, .fn (.func cl) [] [.ptr 2 0, .ptr 3 0]), (5, .row 4)] [(0, .rows 35 5 (l.map Entry'.enc) true), (1, .vars 3 1 [dInt c] true), (2, .vars 84 1 [.fn (.func 64) [] [.ptr 1 0]] true), (3, .vars 23 1 [.dat (.list (past.map Id.enc))] true), (4, .rows 33 2 ((((l.take (k + 1)).filter p).map (·.id)).map Id.enc) true)] (by repeat (first | exact trivial | refine ⟨.same (congrArg dInt (wrap_up (by omega))), ?_⟩ | refine ⟨.same rfl, ?_⟩ | refine ⟨.any _, ?_⟩)) ⟨⟨rfl, rfl, rfl, rfl⟩, ⟨rfl, rfl, rfl, .same rfl, rfl, trivial⟩, ⟨rfl, rfl, rfl, .same rfl, rfl, trivial⟩, ⟨rfl, rfl, rfl, .same rfl, rfl, trivial⟩, ⟨rfl, rfl, rfl, ?_⟩, trivial⟩ rfl rfl) fun s' h => ⟨m - 1, by omega, k + 1, by omega, h⟩
      rw [hst]
  · have hk' : l.length ≤ k := by simpa using h
    rw [List.take_of_length_le hk']
    conv => whnf
    repeat (first | (refine Conf.mk (by kernel_rfl) ?_; conv => whnf) | (refine SeqOk.go ?_; conv => whnf))
    subst hQ1
    conv => whnf
    have hfl := List.length_filter_le p l
    refine .eff [4] _ _ _ _ 0 (sortFunc_ok _ (by rw [List.length_map]; omega)) rfl rfl rfl rfl rfl ?_
    conv => whnf
    repeat (first | (refine Conf.mk (by kernel_rfl) ?_; conv => whnf) | (refine SeqOk.go ?_; conv => whnf))
    exact .mk [4] [0, 1, 2, 3] (.dat (.list ((sortIds ((l.filter p).map (·.id))).map Id.enc))) [(0, .rows 35 5 (l.map Entry'.enc) true), (1, .vars 3 1 [dInt c] true), (2, .vars 84 1 [.fn (.func 64) [] [.ptr 1 0]] true), (3, .vars 23 1 [.dat (.list (past.map Id.enc))] true)] rfl (.data rfl) ⟨⟨rfl, rfl, rfl, rfl⟩, ⟨rfl, rfl, rfl, .same rfl, rfl, trivial⟩, ⟨rfl, rfl, rfl, .same rfl, rfl, trivial⟩, ⟨rfl, rfl, rfl, .same rfl, rfl, trivial⟩, trivial⟩ rfl rfl ⟨rfl, rfl, rfl⟩
end Go.Proofs.Ytlioojekjnigiad.AM
/- One more in the midst of a row of one's own, told as a call. -/
namespace Go.Proofs.Ytlioojekjnigiad.AM
open Go.RowKit
set_option linter.unusedVariables false
set_option linter.unusedSimpArgs false

theorem get_two {e0 e1 : Entry} {h : Nat} : Heap.get [(0, e0), (1, e1)] h = if h = 0 then e0 else if h = 1 then e1 else .dead := by
  match h with
  | 0 => rfl
  | 1 => rfl
  | h + 2 => rfl
theorem get_three {e : Entry} {h : Nat} : Heap.get [(0, .dead), (1, .dead), (2, e)] h = if h = 2 then e else .dead := by
  match h with
  | 0 => rfl
  | 1 => rfl
  | 2 => rfl
  | h + 3 => rfl
/-- The cells of a row that is one's own. -/
theorem row_cells {k : Nat} {cur : Array Value} {es : List (List D)} {A : View} (hs : ∀ e ∈ es, e.length = k) (hle : es.length * k ≤ cur.size)
    (h6 : ∀ i e, es[i]? = some e → ∀ j d, e[j]? = some d → Rep A (cur.getD (i * k + j) undef) d) : ∀ u ∈ cur.toList.take (es.length * k), u.oneCell' = true := fun u hu => by
  obtain ⟨p, hp, rfl⟩ := List.mem_take_iff_getElem.1 hu
  have hp2 : p < es.length * k := by omega
  have hk0 : 0 < k := by
    rcases Nat.eq_zero_or_pos k with h | h
    · subst h; simp at hp2
    · exact h
  have hi : p / k < es.length := Nat.div_lt_of_lt_mul (by rw [Nat.mul_comm]; exact hp2)
  have hm : p % k < k := Nat.mod_lt _ hk0
  have hd : (es[p / k])[p % k]? = some ((es[p / k])[p % k]'(by rw [hs _ (List.getElem_mem hi)]; exact hm)) := List.getElem?_eq_getElem _
  have := (h6 (p / k) es[p / k] (List.getElem?_eq_getElem hi) (p % k) _ hd).one
  rw [Nat.mul_comm, Nat.div_add_mod] at this
  have hpc : p < cur.size := by omega
  rw [Array.getD_eq_getD_getElem?, Array.getElem?_eq_getElem hpc, Option.getD_some] at this
  simpa using this
theorem acall_insert {P : Program} {f T k : Nat} (hk0 : 0 < k) (hcall : callable P f = true) (es : List (List D)) (x : List D) (i : Nat) (hi : i < es.length) (hn : es.length ≤ 1000)
    (hins : ∀ (n i : Nat) (v : Value) (cs xs : List Value) (vb vc : Nat) (xv : Array Value) (w : World), w.ownsRow 0 T k v n cs → w.heap[vb]? = some (.cells xv T (0, 0)) → v.ownBlock ≠ some vb → xs.length = k → xv.toList.take k = xs → xv.size = vc * k → 1 ≤ vc → (∀ u ∈ xs, u.oneCell' = true) → (∀ u ∈ cs, u.oneCell' = true) → n ≤ 1000 → i ≤ n →
      Calls P f #[v, .int .i64 i, .slice (some ⟨vb, 0, none⟩) 1 vc] w fun e w' => ∃ g cap, e = .returned (.slice (some ⟨g, 0, none⟩) (n + 1) cap) ∧ w'.ownsRow 0 T k (.slice (some ⟨g, 0, none⟩) (n + 1) cap) (n + 1) (cs.take (i * k) ++ xs ++ cs.drop (i * k)) ∧ w.grownBy w' v.ownBlock ∧ (v.ownBlock = some g ∨ w.heap.size ≤ g)) :
    ECall P f [.row 0, .dat (.int .i64 i), .row 1] [(0, .rows T k es true), (1, .rows T k [x] true)] 2 (.row 2) [(0, .dead), (1, .dead), (2, .rows T k (es.take i ++ x :: es.drop i) true)] 1 := by
  refine ⟨hcall, fun r A w vs hr hc hs hv => ?_⟩
  obtain ⟨v0, v1, v2, rfl⟩ : ∃ v0 v1 v2, vs = #[v0, v1, v2] := by
    match vs, hs with
    | ⟨[v0, v1, v2]⟩, _ => exact ⟨v0, v1, v2, rfl⟩
  have h0 : VRel r A v0 (.row 0) := hv 0 _ rfl
  have h1 : VRel r A v1 (.dat (.int .i64 i)) := hv 1 _ rfl
  have h2 : VRel r A v2 (.row 1) := hv 2 _ rfl
  obtain rfl : v1 = .int .i64 i := by
    cases h1 with | dat hr => cases hr; rfl
  have e0 := hc.ent 0
  have e1 := hc.ent 1
  rw [get_two, if_pos rfl] at e0
  rw [get_two, if_neg (by decide), if_pos rfl] at e1
  obtain ⟨k0, ⟨q1, q2⟩ | ⟨g, cap, cur, a1, a2, a3, a4, a5, a6, a7⟩⟩ := e0
  · subst q2; simp at hi
  obtain ⟨k1, ⟨q1, q2⟩ | ⟨vb, vc, xv, b1, b2, b3, b4, b5, b6, b7⟩⟩ := e1
  · cases q2
  cases h0 with
  | rowNil _ a ha hb => rw [hb] at a1; cases a1
  | row _ b n cap' hb =>
  rw [hb] at a1
  simp only [Option.some.injEq, Loc.mk.injEq] at a1
  obtain ⟨rfl, rfl, rfl⟩ := a1
  cases h2 with
  | rowNil _ a ha hb2 => rw [hb2] at b1; cases b1
  | row _ b2' n2 cap2 hb2 =>
  rw [hb2] at b1
  simp only [Option.some.injEq, Loc.mk.injEq, List.length_singleton] at b1
  obtain ⟨rfl, rfl, rfl⟩ := b1
  have hxl : x.length = k := k1 x (by simp)
  have hne : b ≠ b2' := fun e => by
    have := hc.dis 0 1 b rfl rfl (by simp [Rho.blk, hb]) (by simp [Rho.blk, hb2, e])
    cases this
  have hlen : es.length * k ≤ cur.size := by rw [a3]; exact Nat.mul_le_mul_right _ a5
  have hvlen : 1 * k ≤ xv.size := by rw [b3]; exact Nat.mul_le_mul_right _ b5
  rw [Nat.one_mul] at hvlen
  let cs := cur.toList.take (es.length * k)
  let xs := xv.toList.take k
  have hcsl : cs.length = es.length * k := by simp [cs]; omega
  have hxsl : xs.length = k := by simp [xs]; omega
  have hown : w.ownsRow 0 T k (.slice (some ⟨b, 0, none⟩) es.length cap') es.length cs := ⟨hcsl, .inr ⟨b, cap', cur, rfl, Nat.zero_le _, a2, a5, a4, a3, rfl⟩⟩
  refine (hins es.length i _ cs xs b2' cap2 xv w hown b2 (fun e => hne (by simpa [Value.ownBlock] using e)) hxsl rfl b3 b5 (fun u hu => ?_) (fun u hu => row_cells k0 hlen a6 u hu) hn (by omega)).mono fun e w' he => ?_
  · have := row_cells (es := [x]) k1 (by simpa using hvlen) b6 u
    simp only [List.length_singleton, Nat.one_mul] at this
    exact this hu
  obtain ⟨g', cap3, rfl, ho, hgr, hat⟩ := he
  obtain ⟨hol, ⟨q1, _⟩ | ⟨g2, cap4, cur', q1, _, hg', hle', hcm', hsz', ht'⟩⟩ := ho
  · cases q1
  simp only [Value.slice.injEq, Option.some.injEq, Addr.mk.injEq, and_true, true_and] at q1
  obtain ⟨rfl, rfl⟩ := q1
  have hr2 : r 2 = none := hr 2 (Nat.le_refl _)
  have hsub := Rho.set_sub (l := ⟨some g', es.length + 1, cap3⟩) hr2
  have hlb : ∀ x, LiveB r (Heap.get [(0, .rows T k es true), (1, .rows T k [x] true)]) b := fun x => ⟨0, rfl, by simp [Rho.blk, hb]⟩
  have hAg : ∀ o, A g' o = none := fun o => by
    rcases hat with e | e
    · have : b = g' := by simpa [Value.ownBlock] using e
      rw [← this]; exact a7 o
    · cases hA : A g' o with
      | none => rfl
      | some v => have := hc.view_lt hA; omega
  have hfr : Fr w A w' A (fun x => x = b) := ⟨hgr.os, hgr.tape, hgr.output, hgr.size, fun y hy hny => hgr.block y hy (by simpa [Value.ownBlock] using hny), Sub.refl A, fun _ _ _ => rfl⟩
  have hnew : (es.take i ++ x :: es.drop i).length = es.length + 1 := by simp; omega
  refine ⟨_, r.set 2 ⟨some g', es.length + 1, cap3⟩, A, .row 2, _, 3, rfl, ⟨rfl, rfl, rfl⟩, by decide, fun h hh => Rho.set_ne (by omega), fun h hh => (Rho.set_ne (by omega)).trans (hr h (by omega)), ⟨fun b3 o v hA => ?_, fun h => ?_, fun h h' b3 hl hl' _ _ => ?_⟩, .row 2 g' _ cap3 Rho.set_same, hfr.weaken fun y hy => by rw [hy]; exact hlb x, fun b3 hb3 => ?_⟩
  · have hv3 := hc.view b3 o v hA
    have hny : b3 ≠ b := fun e => by rw [e, a7] at hA; cases hA
    rw [← hv3]
    exact World.cell?_of_block (w := w) (hfr.block b3 (cell_lt' hv3) hny)
  · rw [get_three]
    by_cases hh : h = 2
    · subst hh
      rw [if_pos rfl]
      refine ⟨fun e he => ?_, .inr ⟨g', cap3, cur', by rw [Rho.set_same, hnew], hg', hsz', hcm', by rw [hnew]; exact hle', fun i' e he j d hd => ?_, hAg⟩⟩
      · rcases List.mem_append.1 he with he | he
        · exact k0 e (List.mem_of_mem_take he)
        · rcases List.mem_cons.1 he with rfl | he
          · exact hxl
          · exact k0 e (List.mem_of_mem_drop he)
      · have hi' : i' < es.length + 1 := by rw [← hnew]; exact (List.getElem?_eq_some_iff.1 he).1
        have hel : e.length = k := by
          rcases List.mem_append.1 (List.mem_of_getElem? he) with he | he
          · exact k0 e (List.mem_of_mem_take he)
          · rcases List.mem_cons.1 he with rfl | he
            · exact hxl
            · exact k0 e (List.mem_of_mem_drop he)
        have hj : j < k := by rw [← hel]; exact (List.getElem?_eq_some_iff.1 hd).1
        have hpos : i' * k + j < (es.length + 1) * k := by
          have h5 : (i' + 1) * k ≤ (es.length + 1) * k := Nat.mul_le_mul_right _ hi'
          rw [Nat.add_mul, Nat.one_mul] at h5
          omega
        have hcell : cur'.getD (i' * k + j) undef = ((cs.take (i * k) ++ xs ++ cs.drop (i * k))[i' * k + j]?).getD undef := by
          rw [← ht', List.getElem?_take, if_pos hpos, Array.getElem?_toList, Array.getD_eq_getD_getElem?]
        rw [hcell]
        have hti : (cs.take (i * k)).length = i * k := by
          rw [List.length_take, hcsl]
          exact Nat.min_eq_left (Nat.mul_le_mul_right _ (by omega))
        have csg : ∀ p, p < es.length * k → cs[p]? = cur[p]? := fun p hp => by
          simp only [cs]
          rw [List.getElem?_take, if_pos hp, Array.getElem?_toList]
        rcases Nat.lt_trichotomy i' i with hlt | heq | hgt
        · rw [List.getElem?_append_left (by simp; omega)] at he
          rw [List.getElem?_take, if_pos hlt] at he
          have hp1 : i' * k + j < i * k := by
            have h5 : (i' + 1) * k ≤ i * k := Nat.mul_le_mul_right _ hlt
            rw [Nat.add_mul, Nat.one_mul] at h5
            omega
          rw [List.append_assoc, List.getElem?_append_left (by rw [hti]; exact hp1), List.getElem?_take, if_pos hp1, csg _ (Nat.lt_of_lt_of_le hp1 (Nat.mul_le_mul_right _ (by omega))), ← Array.getD_eq_getD_getElem?]
          exact a6 i' e he j d hd
        · subst heq
          rw [List.getElem?_append_right (by simp; omega)] at he
          have : i' - (es.take i').length = 0 := by simp; omega
          rw [this] at he
          obtain rfl : x = e := by simpa using he
          rw [List.append_assoc, List.getElem?_append_right (by rw [hti]; omega), hti, show i' * k + j - i' * k = j by omega, List.getElem?_append_left (by rw [hxsl]; exact hj)]
          simp only [xs]
          rw [List.getElem?_take, if_pos hj, Array.getElem?_toList, ← Array.getD_eq_getD_getElem?]
          have := b6 0 x rfl j d hd
          rwa [Nat.zero_mul, Nat.zero_add] at this
        · rw [List.getElem?_append_right (by simp; omega)] at he
          have hsub1 : i' - (es.take i).length = (i' - 1 - i) + 1 := by simp; omega
          rw [hsub1, List.getElem?_cons_succ, List.getElem?_drop, show i + (i' - 1 - i) = i' - 1 by omega] at he
          have hp2 : i * k + k ≤ i' * k + j := by
            have h5 : (i + 1) * k ≤ i' * k := Nat.mul_le_mul_right _ hgt
            rw [Nat.add_mul, Nat.one_mul] at h5
            omega
          have hp3 : i' * k + j - k = (i' - 1) * k + j := by
            rw [Nat.sub_mul, Nat.one_mul]
            have h5 : 1 * k ≤ i' * k := Nat.mul_le_mul_right _ (by omega)
            rw [Nat.one_mul] at h5
            omega
          have h7 : (es.length + 1) * k = es.length * k + k := by rw [Nat.add_mul, Nat.one_mul]
          have h9 : (i' - 1) * k + j < es.length * k := by
            have h5 : 1 * k ≤ i' * k := Nat.mul_le_mul_right _ (by omega)
            rw [Nat.one_mul] at h5
            omega
          rw [List.getElem?_append_right (by rw [List.length_append, hti, hxsl]; exact hp2), List.length_append, hti, hxsl, List.getElem?_drop, show i * k + (i' * k + j - (i * k + k)) = i' * k + j - k by omega, hp3, csg _ h9, ← Array.getD_eq_getD_getElem?]
          exact a6 (i' - 1) e he j d hd
    · rw [if_neg hh]; trivial
  · rw [get_three] at hl hl'
    by_cases hh : h = 2
    · by_cases hh' : h' = 2
      · rw [hh, hh']
      · rw [if_neg hh'] at hl'; cases hl'
    · rw [if_neg hh] at hl; cases hl
  · obtain ⟨h, hl, hbb⟩ := hb3
    rw [get_three] at hl
    by_cases hh : h = 2
    · subst hh
      obtain rfl : g' = b3 := by simpa [Rho.blk, Rho.set_same] using hbb
      rcases hat with e | e
      · have : b = g' := by simpa [Value.ownBlock] using e
        rw [← this]; exact .inl (hlb x)
      · exact .inr e
    · rw [if_neg hh] at hl; cases hl
end Go.Proofs.Ytlioojekjnigiad.AM
/- Orders: what must be of ids that are handed in; orders or not. -/
namespace Go.Proofs.Ytlioojekjnigiad.AM
set_option linter.unusedVariables false
set_option linter.unusedSimpArgs false

def idsLoop (l : List Entry') (ahead : List Id) : List Id → Int
  | [] => 0
  | x :: t => if l.any (isThe x) = false then 5 else if hasId ahead x = true then 6 else idsLoop l (ahead ++ [x]) t
def idsErr (l : List Entry') (ids : List Id) : Int := if logErr l = 0 then idsLoop l [] ids else logErr l
theorem idsLoop_iff {l : List Entry'} : ∀ {t ahead : List Id}, idsLoop l ahead t = 0 ↔ (∀ x ∈ t, ∃ e ∈ l, e.id = x) ∧ (∀ x ∈ t, x ∉ ahead) ∧ t.Nodup
  | [], ahead => by simp [idsLoop]
  | x :: t, ahead => by
    unfold idsLoop
    by_cases h1 : l.any (isThe x) = false
    · rw [if_pos h1]
      refine ⟨fun h => by simp at h, fun h => ?_⟩
      have := any_isThe.2 (h.1 x (by simp))
      rw [h1] at this; cases this
    · rw [if_neg h1]
      have h1' : ∃ e ∈ l, e.id = x := any_isThe.1 (by simpa using h1)
      by_cases h2 : hasId ahead x = true
      · rw [if_pos h2]
        refine ⟨fun h => by simp at h, fun h => absurd (hasId_iff.1 h2) (h.2.1 x (by simp))⟩
      · rw [if_neg h2, idsLoop_iff (t := t)]
        have h2' : x ∉ ahead := fun h => h2 (hasId_iff.2 h)
        constructor
        · rintro ⟨k1, k2, k3⟩
          refine ⟨fun y hy => ?_, fun y hy => ?_, List.nodup_cons.2 ⟨fun hx => k2 x hx (by simp), k3⟩⟩
          · rcases List.mem_cons.1 hy with rfl | hy
            · exact h1'
            · exact k1 y hy
          · rcases List.mem_cons.1 hy with rfl | hy
            · exact h2'
            · exact fun hh => k2 y hy (by simp [hh])
        · rintro ⟨k1, k2, k3⟩
          rw [List.nodup_cons] at k3
          refine ⟨fun y hy => k1 y (by simp [hy]), fun y hy hm => ?_, k3.2⟩
          rcases List.mem_append.1 hm with hm | hm
          · exact k2 y (by simp [hy]) hm
          · simp only [List.mem_singleton] at hm
            subst hm
            exact k3.1 hy
theorem idsErr_ok {l : List Entry'} {ids : List Id} (h : idsErr l ids = 0) : Right l ∧ (∀ x ∈ ids, ∃ e ∈ l, e.id = x) ∧ ids.Nodup := by
  unfold idsErr at h
  split at h
  · rename_i h1
    obtain ⟨k1, _, k3⟩ := idsLoop_iff.1 h
    exact ⟨right_iff.1 h1, k1, k3⟩
  · rename_i h1; exact absurd h h1
theorem nodup_len : ∀ {a b : List Id}, a.Nodup → (∀ x ∈ a, x ∈ b) → a.length ≤ b.length
  | [], b, _, _ => Nat.zero_le _
  | x :: t, b, h, hs => by
    rw [List.nodup_cons] at h
    have hx := hs x (by simp)
    have := nodup_len (a := t) (b := b.erase x) h.2 fun y hy => (List.mem_erase_of_ne (fun e => h.1 (by rw [← e]; exact hy))).2 (hs y (by simp [hy]))
    rw [List.length_erase_of_mem hx] at this
    have := List.length_pos_of_mem hx
    simp only [List.length_cons]
    omega
/-- Ids of a log, each once, are no more than it. -/
theorem ids_len {l : List Entry'} {ids : List Id} (h1 : ∀ x ∈ ids, ∃ e ∈ l, e.id = x) (h2 : ids.Nodup) : ids.length ≤ l.length := by
  have := nodup_len (b := l.map (·.id)) h2 fun x hx => by
    obtain ⟨e, he, rfl⟩ := h1 x hx
    exact List.mem_map_of_mem he
  simpa using this
theorem check1_ok (x : Id) (e : Entry') : PCall Try.prog 70 [e.arg, .dat (.ptr x.enc)] (dBool (isThe x e)) := by
  refine pcall_intro tab_all tab_mixed Try.func70 (by kernel_rfl) Try.ntmps70 rfl ?_
  conv => whnf
  exact Ret.bool rfl
set_option maxHeartbeats 0 in
theorem orderCheck_ok (l : List Entry') (hl : LogOk l) (ids : List Id) (hi : ids.length ≤ 140737488355327) : PCall Try.prog 37 [.dat (.list (l.map Entry'.enc)), .dat (.list (ids.map Id.enc))] (dInt (idsErr l ids)) := by
  refine pcall_cut tab_all tab_mixed Try.func37 (by kernel_rfl) Try.ntmps37 rfl ?_
  conv => whnf
  conv => whnf
  repeat (first | (refine Conf.mk (by kernel_rfl) ?_; conv => whnf) | (refine SeqOk.go ?_; conv => whnf))
  refine .data _ _ (dagCheck_ok l hl) rfl ?_
  conv => whnf
  repeat (first | (refine Conf.mk (by kernel_rfl) ?_; conv => whnf) | (refine SeqOk.go ?_; conv => whnf))
  by_cases h0 : logErr l = 0
  · have he : idsErr l ids = idsLoop l [] ids := by unfold idsErr; rw [if_pos h0]
    refine BoolCase.no (by rw [h0]; rfl) ?_
    conv => whnf
    repeat (first | (refine Conf.mk (by kernel_rfl) ?_; conv => whnf) | (refine SeqOk.go ?_; conv => whnf))
    refine LoopOk.hide fun Q1 hQ1 => ?_
    refine LoopOk.mk (fun m s => ∃ i, i + m = ids.length ∧ idsErr l ids = idsLoop l (ids.take i) (ids.drop i) ∧ s = ⟨[(15, dInt i), (14, dInt (ids.map Id.enc).length), (13, .dat (.list (ids.map Id.enc))), (0, .dat (.list (l.map Entry'.enc))), (1, .dat (.list (ids.map Id.enc)))], 0, []⟩) ids.length (Into.mono (Into.to [] [(15, dInt (0 : Nat)), (14, dInt (ids.map Id.enc).length), (13, .dat (.list (ids.map Id.enc))), (0, .dat (.list (l.map Entry'.enc))), (1, .dat (.list (ids.map Id.enc)))] [] (by repeat (first | exact trivial | refine ⟨.same (congrArg dInt (wrap_up (by omega))), ?_⟩ | refine ⟨.same rfl, ?_⟩ | refine ⟨.any _, ?_⟩)) trivial rfl rfl) fun s' h => ⟨0, by omega, he, h⟩) ?_
    rintro m s ⟨i, him, hp, rfl⟩
    conv => whnf
    repeat (first | (refine Conf.mk (by kernel_rfl) ?_; conv => whnf) | (refine SeqOk.go ?_; conv => whnf))
    refine ⟨fun h => ?_, fun h => ?_⟩
    · have hi' := lt_of_len h
      rw [List.drop_eq_getElem_cons hi', idsLoop] at hp
      conv => whnf
      repeat (first | (refine Conf.mk (by kernel_rfl) ?_; conv => whnf) | (refine SeqOk.go ?_; conv => whnf))
      refine AtIdx.ofMap hi' rfl ?_
      conv => whnf
      repeat (first | (refine Conf.mk (by kernel_rfl) ?_; conv => whnf) | (refine SeqOk.go ?_; conv => whnf))
      refine .look _ _ (containsFunc_entry hl.len fun e _ => check1_ok ids[i] e) rfl rfl ?_
      conv => whnf
      repeat (first | (refine Conf.mk (by kernel_rfl) ?_; conv => whnf) | (refine SeqOk.go ?_; conv => whnf))
      refine ⟨fun h2 => ?_, fun h2 => ?_⟩
      · have h2 : l.any (isThe ids[i]) = false := (Bool.not_eq_true' _).mp h2
        conv => whnf
        repeat (first | (refine Conf.mk (by kernel_rfl) ?_; conv => whnf) | (refine SeqOk.go ?_; conv => whnf))
        subst hQ1
        conv => whnf
        exact Ret.int (by rw [hp, if_pos h2])
      · have h2 : l.any (isThe ids[i]) = true := (Bool.not_eq_false' (b := l.any (isThe ids[i]))).mp h2
        rw [if_neg (by simp [h2])] at hp
        conv => whnf
        repeat (first | (refine Conf.mk (by kernel_rfl) ?_; conv => whnf) | (refine SeqOk.go ?_; conv => whnf))
        refine .mk 0 i rfl rfl (Nat.zero_le _) (by simp; omega) ?_
        rw [List.map_take.symm]
        conv => whnf
        repeat (first | (refine Conf.mk (by kernel_rfl) ?_; conv => whnf) | (refine SeqOk.go ?_; conv => whnf))
        refine .look _ _ (containsId_ok ids[i] (ids.take i) (by rw [List.length_take]; omega)) rfl rfl ?_
        conv => whnf
        repeat (first | (refine Conf.mk (by kernel_rfl) ?_; conv => whnf) | (refine SeqOk.go ?_; conv => whnf))
        refine ⟨fun h3 => ?_, fun h3 => ?_⟩
        · have h3 : hasId (ids.take i) ids[i] = true := hasId_iff.2 (any_isId2.1 h3)
          conv => whnf
          repeat (first | (refine Conf.mk (by kernel_rfl) ?_; conv => whnf) | (refine SeqOk.go ?_; conv => whnf))
          subst hQ1
          conv => whnf
          exact Ret.int (by rw [hp, if_pos h3])
        · have h3 : ¬ hasId (ids.take i) ids[i] = true := fun k => by
            have := any_isId2.2 (hasId_iff.1 k)
            rw [h3] at this; cases this
          rw [if_neg h3, ← take_snoc hi'] at hp
          conv => whnf
          repeat (first | (refine Conf.mk (by kernel_rfl) ?_; conv => whnf) | (refine SeqOk.go ?_; conv => whnf))
          exact Into.mono (Into.to [] [(15, dInt (i + 1 : Nat)), (14, dInt (ids.map Id.enc).length), (13, .dat (.list (ids.map Id.enc))), (0, .dat (.list (l.map Entry'.enc))), (1, .dat (.list (ids.map Id.enc)))] [] (by repeat (first | exact trivial | refine ⟨.same (congrArg dInt (wrap_up (by omega))), ?_⟩ | refine ⟨.same rfl, ?_⟩ | refine ⟨.any _, ?_⟩)) trivial rfl rfl) fun s' h => ⟨m - 1, by omega, i + 1, by omega, hp, h⟩
    · have hi' := ge_of_len h
      conv => whnf
      repeat (first | (refine Conf.mk (by kernel_rfl) ?_; conv => whnf) | (refine SeqOk.go ?_; conv => whnf))
      subst hQ1
      conv => whnf
      exact Ret.int (by rw [hp, List.drop_eq_nil_of_le hi']; rfl)
  · have he : idsErr l ids = logErr l := by unfold idsErr; rw [if_neg h0]
    refine BoolCase.yes (by simpa using h0) ?_
    conv => whnf
    repeat (first | (refine Conf.mk (by kernel_rfl) ?_; conv => whnf) | (refine SeqOk.go ?_; conv => whnf))
    exact Ret.int (by rw [he])
end Go.Proofs.Ytlioojekjnigiad.AM
/- Orders: is it one; may one come. -/
namespace Go.Proofs.Ytlioojekjnigiad.AM
set_option linter.unusedVariables false
set_option linter.unusedSimpArgs false
theorem map_drop' {α β : Type} {f : α → β} {l : List α} {i : Nat} : (l.map f).drop i = (l.drop i).map f := by rw [List.map_drop]
theorem map_take' {α β : Type} {f : α → β} {l : List α} {i : Nat} : (l.map f).take i = (l.take i).map f := by rw [List.map_take]
set_option maxHeartbeats 0 in
theorem indexFunc_id {cl : Nat} {ds : List D} {ids : List Id} {p : Id → Bool} (hl : ids.length ≤ 140737488355327) (hcl : ∀ x ∈ ids, PCall Try.prog cl [x.arg, .dat (.ptr ds)] (dBool (p x))) :
    PCall Try.prog 74 [.dat (.list (ids.map Id.enc)), .fn (.func cl) [] [.dat (.ptr ds)]] (dInt (idxOf (isIdx p ids 0))) := by
  refine pcall_cut tab_all tab_mixed Try.func74 (by kernel_rfl) Try.ntmps74 rfl ?_
  conv => whnf
  conv => whnf
  repeat (first | (refine Conf.mk (by kernel_rfl) ?_; conv => whnf) | (refine SeqOk.go ?_; conv => whnf))
  refine LoopOk.hide fun Q1 hQ1 => ?_
  refine LoopOk.mk (fun m s => ∃ i, i + m = ids.length ∧ isIdx p ids 0 = isIdx p (ids.drop i) i ∧ s = ⟨[(8, dInt i), (7, dInt (ids.map Id.enc).length), (1, .fn (.func cl) [] [.dat (.ptr ds)]), (0, .dat (.list (ids.map Id.enc)))], 0, []⟩) ids.length (Into.mono (Into.to [] [(8, dInt (0 : Nat)), (7, dInt (ids.map Id.enc).length), (1, .fn (.func cl) [] [.dat (.ptr ds)]), (0, .dat (.list (ids.map Id.enc)))] [] (by repeat (first | exact trivial | refine ⟨.same (congrArg dInt (wrap_up (by omega))), ?_⟩ | refine ⟨.same rfl, ?_⟩ | refine ⟨.any _, ?_⟩)) trivial rfl rfl) fun s' h => ⟨0, by omega, rfl, h⟩) ?_
  rintro m s ⟨i, hi, hp, rfl⟩
  conv => whnf
  repeat (first | (refine Conf.mk (by kernel_rfl) ?_; conv => whnf) | (refine SeqOk.go ?_; conv => whnf))
  refine ⟨fun h => ?_, fun h => ?_⟩
  · have hi' := lt_of_len h
    rw [List.drop_eq_getElem_cons hi'] at hp
    conv => whnf
    repeat (first | (refine Conf.mk (by kernel_rfl) ?_; conv => whnf) | (refine SeqOk.go ?_; conv => whnf))
    refine AtIdx.ofMap hi' rfl ?_
    conv => whnf
    repeat (first | (refine Conf.mk (by kernel_rfl) ?_; conv => whnf) | (refine SeqOk.go ?_; conv => whnf))
    refine .look _ _ (hcl ids[i] (List.getElem_mem hi')) rfl rfl ?_
    conv => whnf
    repeat (first | (refine Conf.mk (by kernel_rfl) ?_; conv => whnf) | (refine SeqOk.go ?_; conv => whnf))
    refine ⟨fun h => ?_, fun h => ?_⟩
    · conv => whnf
      repeat (first | (refine Conf.mk (by kernel_rfl) ?_; conv => whnf) | (refine SeqOk.go ?_; conv => whnf))
      subst hQ1
      conv => whnf
      exact Ret.int (by rw [hp]; simp [isIdx, h, idxOf])
    · conv => whnf
      repeat (first | (refine Conf.mk (by kernel_rfl) ?_; conv => whnf) | (refine SeqOk.go ?_; conv => whnf))
      exact Into.mono (Into.to [] [(8, dInt (i + 1 : Nat)), (7, dInt (ids.map Id.enc).length), (1, .fn (.func cl) [] [.dat (.ptr ds)]), (0, .dat (.list (ids.map Id.enc)))] [] (by repeat (first | exact trivial | refine ⟨.same (congrArg dInt (wrap_up (by omega))), ?_⟩ | refine ⟨.same rfl, ?_⟩ | refine ⟨.any _, ?_⟩)) trivial rfl rfl) fun s' h' => ⟨m - 1, by omega, i + 1, by omega, by rw [hp]; simp [isIdx, h], h'⟩
  · conv => whnf
    repeat (first | (refine Conf.mk (by kernel_rfl) ?_; conv => whnf) | (refine SeqOk.go ?_; conv => whnf))
    subst hQ1
    conv => whnf
    exact Ret.int (by rw [hp, List.drop_eq_nil_of_le (ge_of_len h)]; rfl)
theorem containsFunc_id {cl : Nat} {ds : List D} {ids : List Id} {p : Id → Bool} (hl : ids.length ≤ 140737488355327) (hcl : ∀ x ∈ ids, PCall Try.prog cl [x.arg, .dat (.ptr ds)] (dBool (p x))) :
    PCall Try.prog 43 [.dat (.list (ids.map Id.enc)), .fn (.func cl) [] [.dat (.ptr ds)]] (dBool (ids.any p)) := by
  refine pcall_intro tab_all tab_mixed Try.func43 (by kernel_rfl) Try.ntmps43 rfl ?_
  conv => whnf
  refine .look _ _ (indexFunc_id hl hcl) rfl rfl ?_
  conv => whnf
  exact Ret.bool (by rw [← idx_any p ids 0])
theorem orderPastOf_ok (l : List Entry') (hl : LogOk l) (x : Id) : PCall Try.prog 42 [.dat (.list (l.map Entry'.enc)), x.arg] (.dat (.list ((pastAns l x).map Id.enc))) := by
  refine pcall_intro tab_all tab_mixed Try.func42 (by kernel_rfl) Try.ntmps42 rfl ?_
  conv => whnf
  refine .data _ _ (past_ok l hl x) rfl ?_
  conv => whnf
  repeat (first | (refine Conf.mk (by kernel_rfl) ?_; conv => whnf) | (refine SeqOk.go ?_; conv => whnf))
  exact Ret.to rfl
theorem orderPast_in {l : List Entry'} (hr : Right l) {x : Id} (h : ∃ e ∈ l, e.id = x) : PCall Try.prog 42 [.dat (.list (l.map Entry'.enc)), x.arg] (.dat (.list ((pastOfId l x).map Id.enc))) := by
  refine pcall_intro tab_all tab_mixed Try.func42 (by kernel_rfl) Try.ntmps42 rfl ?_
  conv => whnf
  refine .data _ _ (past_in hr h) rfl ?_
  conv => whnf
  repeat (first | (refine Conf.mk (by kernel_rfl) ?_; conv => whnf) | (refine SeqOk.go ?_; conv => whnf))
  exact Ret.to rfl
theorem is1_ok (past : List Id) (hp : past.length ≤ 140737488355328) (x : Id) : PCall Try.prog 44 [x.arg, .dat (.ptr [.list (past.map Id.enc)])] (dBool (past.any (isId2 x))) := by
  refine pcall_intro tab_all tab_mixed Try.func44 (by kernel_rfl) Try.ntmps44 rfl ?_
  conv => whnf
  refine .look _ _ (containsId_ok x past hp) rfl rfl ?_
  conv => whnf
  repeat (first | (refine Conf.mk (by kernel_rfl) ?_; conv => whnf) | (refine SeqOk.go ?_; conv => whnf))
  exact Ret.bool rfl
theorem all_not (t past : List Id) : t.all (fun y => !hasId past y) = !(t.any fun x => past.any (isId2 x)) := by
  have e : (fun x => past.any (isId2 x)) = hasId past := funext fun x => by rw [Bool.eq_iff_iff, any_isId2, hasId_iff]
  rw [e]
  induction t with
  | nil => rfl
  | cons x t ih => rw [List.all_cons, List.any_cons, ih, Bool.not_or]
def isAns (l : List Entry') (ids : List Id) : Bool := decide (idsErr l ids = 0) && isOrder l ids
set_option maxHeartbeats 0 in
theorem Is_ok (l : List Entry') (hl : LogOk l) (ids : List Id) (hi : ids.length ≤ 140737488355326) : PCall Try.prog 13 [.dat (.list (l.map Entry'.enc)), .dat (.list (ids.map Id.enc))] (.tup [dBool (isAns l ids), dInt (idsErr l ids)]) := by
  refine pcall_cut tab_all tab_mixed Try.func13 (by kernel_rfl) Try.ntmps13 rfl ?_
  conv => whnf
  conv => whnf
  repeat (first | (refine Conf.mk (by kernel_rfl) ?_; conv => whnf) | (refine SeqOk.go ?_; conv => whnf))
  refine .data _ _ (orderCheck_ok l hl ids (by omega)) rfl ?_
  conv => whnf
  repeat (first | (refine Conf.mk (by kernel_rfl) ?_; conv => whnf) | (refine SeqOk.go ?_; conv => whnf))
  by_cases h0 : idsErr l ids = 0
  · obtain ⟨hr, hin, hnd⟩ := idsErr_ok h0
    have ha : isAns l ids = isOrder l ids := by unfold isAns; rw [h0]; rfl
    refine BoolCase.no (by rw [h0]; rfl) ?_
    conv => whnf
    repeat (first | (refine Conf.mk (by kernel_rfl) ?_; conv => whnf) | (refine SeqOk.go ?_; conv => whnf))
    refine LoopOk.hide fun Q1 hQ1 => ?_
    refine LoopOk.mk (fun m s => ∃ i, i + m = ids.length ∧ isOrder l ids = isOrder l (ids.drop i) ∧ s = ⟨[(18, dInt i), (17, dInt (ids.map Id.enc).length), (16, .dat (.list (ids.map Id.enc))), (0, .dat (.list (l.map Entry'.enc))), (1, .dat (.list (ids.map Id.enc)))], 0, []⟩) ids.length (Into.mono (Into.to [] [(18, dInt (0 : Nat)), (17, dInt (ids.map Id.enc).length), (16, .dat (.list (ids.map Id.enc))), (0, .dat (.list (l.map Entry'.enc))), (1, .dat (.list (ids.map Id.enc)))] [] (by repeat (first | exact trivial | refine ⟨.same (congrArg dInt (wrap_up (by omega))), ?_⟩ | refine ⟨.same rfl, ?_⟩ | refine ⟨.any _, ?_⟩)) trivial rfl rfl) fun s' h => ⟨0, by omega, rfl, h⟩) ?_
    rintro m s ⟨i, him, hp, rfl⟩
    conv => whnf
    repeat (first | (refine Conf.mk (by kernel_rfl) ?_; conv => whnf) | (refine SeqOk.go ?_; conv => whnf))
    refine ⟨fun h => ?_, fun h => ?_⟩
    · have hi' := lt_of_len h
      have hpl := pastOfId_len hr ids[i]
      rw [List.drop_eq_getElem_cons hi', isOrder] at hp
      conv => whnf
      repeat (first | (refine Conf.mk (by kernel_rfl) ?_; conv => whnf) | (refine SeqOk.go ?_; conv => whnf))
      refine AtIdx.ofMap hi' rfl ?_
      conv => whnf
      repeat (first | (refine Conf.mk (by kernel_rfl) ?_; conv => whnf) | (refine SeqOk.go ?_; conv => whnf))
      refine .data _ _ (orderPast_in hr (hin _ (List.getElem_mem hi'))) rfl ?_
      conv => whnf
      repeat (first | (refine Conf.mk (by kernel_rfl) ?_; conv => whnf) | (refine SeqOk.go ?_; conv => whnf))
      refine .mk (i + 1) ids.length (by rw [wrap_id (by omega) (by omega)]; rfl) (by simp) (by omega) (by simp) ?_
      refine ⟨by simp [Id.enc], ?_⟩
      rw [map_drop']
      conv => whnf
      repeat (first | (refine Conf.mk (by kernel_rfl) ?_; conv => whnf) | (refine SeqOk.go ?_; conv => whnf))
      refine .look _ _ (containsFunc_id (by rw [List.length_drop]; omega) fun x _ => is1_ok (pastOfId l ids[i]) (by omega) x) rfl rfl ?_
      conv => whnf
      repeat (first | (refine Conf.mk (by kernel_rfl) ?_; conv => whnf) | (refine SeqOk.go ?_; conv => whnf))
      have hb := all_not (ids.drop (i + 1)) (pastOfId l ids[i])
      rw [hb] at hp
      refine ⟨fun h2 => ?_, fun h2 => ?_⟩
      · rw [h2] at hp
        conv => whnf
        repeat (first | (refine Conf.mk (by kernel_rfl) ?_; conv => whnf) | (refine SeqOk.go ?_; conv => whnf))
        subst hQ1
        conv => whnf
        exact Ret.to (by rw [ha, h0, hp]; rfl)
      · rw [h2, Bool.not_false, Bool.true_and] at hp
        conv => whnf
        repeat (first | (refine Conf.mk (by kernel_rfl) ?_; conv => whnf) | (refine SeqOk.go ?_; conv => whnf))
        exact Into.mono (Into.to [] [(18, dInt (i + 1 : Nat)), (17, dInt (ids.map Id.enc).length), (16, .dat (.list (ids.map Id.enc))), (0, .dat (.list (l.map Entry'.enc))), (1, .dat (.list (ids.map Id.enc)))] [] (by repeat (first | exact trivial | refine ⟨.same (congrArg dInt (wrap_up (by omega))), ?_⟩ | refine ⟨.same rfl, ?_⟩ | refine ⟨.any _, ?_⟩)) trivial rfl rfl) fun s' h => ⟨m - 1, by omega, i + 1, by omega, hp, h⟩
    · conv => whnf
      repeat (first | (refine Conf.mk (by kernel_rfl) ?_; conv => whnf) | (refine SeqOk.go ?_; conv => whnf))
      subst hQ1
      conv => whnf
      exact Ret.to (by rw [ha, h0, hp, List.drop_eq_nil_of_le (ge_of_len h)]; rfl)
  · have ha : isAns l ids = false := by unfold isAns; rw [decide_eq_false h0]; rfl
    refine BoolCase.yes (by simpa using h0) ?_
    conv => whnf
    repeat (first | (refine Conf.mk (by kernel_rfl) ?_; conv => whnf) | (refine SeqOk.go ?_; conv => whnf))
    exact Ret.to (by rw [ha]; rfl)
end Go.Proofs.Ytlioojekjnigiad.AM
/- Sites: what is there, what is ready; the same ones. -/
namespace Go.Proofs.Ytlioojekjnigiad.AM
set_option linter.unusedVariables false
set_option linter.unusedSimpArgs false

def Site'.arg (s : Site') : AVal := .agg [dInt s.region, .dat (.list (s.log.map Entry'.enc)), .dat (.list (s.waits.map Entry'.enc))]
theorem siteHas1_ok (x : Id) (e : Entry') : PCall Try.prog 101 [e.arg, .dat (.ptr x.enc)] (dBool (isThe x e)) := by
  refine pcall_intro tab_all tab_mixed Try.func101 (by kernel_rfl) Try.ntmps101 rfl ?_
  conv => whnf
  exact Ret.bool rfl
theorem siteHas_ok (x : Id) (l : List Entry') (hl : l.length ≤ 140737488355328) : PCall Try.prog 87 [.dat (.list (l.map Entry'.enc)), x.arg] (dBool (l.any (isThe x))) := by
  refine pcall_intro tab_all tab_mixed Try.func87 (by kernel_rfl) Try.ntmps87 rfl ?_
  conv => whnf
  refine .look _ _ (containsFunc_entry hl fun e _ => siteHas1_ok x e) rfl rfl ?_
  conv => whnf
  exact Ret.bool rfl
set_option maxHeartbeats 0 in
theorem siteCount_ok (l : List Entry') (hl : l.length ≤ 140737488355328) (r : Int) : PCall Try.prog 95 [.dat (.list (l.map Entry'.enc)), dInt r] (dInt (cnt r l)) := by
  refine pcall_intro tab_all tab_mixed Try.func95 (by kernel_rfl) Try.ntmps95 rfl ?_
  conv => whnf
  refine LoopOk.mk (fun m s => ∃ i, i + m = l.length ∧ s = ⟨[(10, dInt i), (9, dInt (l.map Entry'.enc).length), (8, (.dat (.list (l.map Entry'.enc)))), (1, dInt r), (5, dInt (cnt r (l.take i)))], 0, []⟩) l.length (Into.mono (Into.to [] [(10, dInt (0 : Nat)), (9, dInt (l.map Entry'.enc).length), (8, (.dat (.list (l.map Entry'.enc)))), (1, dInt r), (5, dInt (cnt r (l.take 0)))] [] (by repeat (first | exact trivial | refine ⟨.same (congrArg dInt (wrap_up (by omega))), ?_⟩ | refine ⟨.same rfl, ?_⟩ | refine ⟨.any _, ?_⟩)) trivial rfl rfl) fun s' h => ⟨0, by omega, h⟩) ?_
  rintro m s ⟨i, hi, rfl⟩
  conv => whnf
  repeat (first | (refine Conf.mk (by kernel_rfl) ?_; conv => whnf) | (refine SeqOk.go ?_; conv => whnf))
  refine ⟨fun h => ?_, fun h => ?_⟩
  · have hil := lt_of_len h
    have hs := cnt_succ r hil
    have hc := cnt_le r (l.take i)
    rw [List.length_take] at hc
    conv => whnf
    repeat (first | (refine Conf.mk (by kernel_rfl) ?_; conv => whnf) | (refine SeqOk.go ?_; conv => whnf))
    refine AtIdx.ofMap hil rfl ?_
    conv => whnf
    repeat (first | (refine Conf.mk (by kernel_rfl) ?_; conv => whnf) | (refine SeqOk.go ?_; conv => whnf))
    refine ⟨fun h1 => ?_, fun h1 => ?_⟩
    · have h1 : (l[i].id.r == r) = true := h1
      rw [if_pos h1] at hs
      conv => whnf
      repeat (first | (refine Conf.mk (by kernel_rfl) ?_; conv => whnf) | (refine SeqOk.go ?_; conv => whnf))
      exact Into.mono (Into.to [] [(10, dInt (i + 1 : Nat)), (9, dInt (l.map Entry'.enc).length), (8, (.dat (.list (l.map Entry'.enc)))), (1, dInt r), (5, dInt (cnt r (l.take (i + 1))))] [] ⟨.same (congrArg dInt (wrap_up (by omega))), .same rfl, .same rfl, .same rfl, .same (by rw [hs]; exact congrArg dInt (wrap_up (by omega))), trivial⟩ trivial rfl rfl) fun s' h => ⟨m - 1, by omega, i + 1, by omega, h⟩
    · have h1 : (l[i].id.r == r) = false := h1
      rw [if_neg (by rw [h1]; decide)] at hs
      conv => whnf
      repeat (first | (refine Conf.mk (by kernel_rfl) ?_; conv => whnf) | (refine SeqOk.go ?_; conv => whnf))
      exact Into.mono (Into.to [] [(10, dInt (i + 1 : Nat)), (9, dInt (l.map Entry'.enc).length), (8, (.dat (.list (l.map Entry'.enc)))), (1, dInt r), (5, dInt (cnt r (l.take (i + 1))))] [] ⟨.same (congrArg dInt (wrap_up (by omega))), .same rfl, .same rfl, .same rfl, .same (by rw [hs]; rfl), trivial⟩ trivial rfl rfl) fun s' h => ⟨m - 1, by omega, i + 1, by omega, h⟩
  · have hil := ge_of_len h
    conv => whnf
    repeat (first | (refine Conf.mk (by kernel_rfl) ?_; conv => whnf) | (refine SeqOk.go ?_; conv => whnf))
    refine Ret.int ?_
    rw [List.take_of_length_le hil]
theorem siteReady1_ok (l : List Entry') (hl : l.length ≤ 140737488355328) (x : Id) : PCall Try.prog 103 [x.arg, .dat (.ptr [.list (l.map Entry'.enc)])] (dBool (!l.any (isThe x))) := by
  refine pcall_intro tab_all tab_mixed Try.func103 (by kernel_rfl) Try.ntmps103 rfl ?_
  conv => whnf
  refine .look _ _ (siteHas_ok x l hl) rfl rfl ?_
  conv => whnf
  repeat (first | (refine Conf.mk (by kernel_rfl) ?_; conv => whnf) | (refine SeqOk.go ?_; conv => whnf))
  exact Ret.bool rfl
theorem not_any_not {α : Type} (p : α → Bool) : ∀ l : List α, (!l.any fun x => !p x) = l.all p
  | [] => rfl
  | x :: t => by simp only [List.any_cons, List.all_cons, ← not_any_not p t, Bool.not_or, Bool.not_not]
set_option maxHeartbeats 0 in
theorem siteReady_ok (l : List Entry') (hl : l.length ≤ 1000) (e : Entry') (he : e.links.length ≤ 140737488355327) : PCall Try.prog 92 [.dat (.list (l.map Entry'.enc)), e.arg] (dBool (readyP l e)) := by
  have hc := cnt_le e.id.r l
  refine pcall_intro tab_all tab_mixed Try.func92 (by kernel_rfl) Try.ntmps92 rfl ?_
  conv => whnf
  conv => whnf
  repeat (first | (refine Conf.mk (by kernel_rfl) ?_; conv => whnf) | (refine SeqOk.go ?_; conv => whnf))
  refine .data _ _ (siteCount_ok l (by omega) e.id.r) rfl ?_
  conv => whnf
  repeat (first | (refine Conf.mk (by kernel_rfl) ?_; conv => whnf) | (refine SeqOk.go ?_; conv => whnf))
  have hw : IntKind.i64.wrap ((cnt e.id.r l : Int) + 1) = (cnt e.id.r l : Int) + 1 := wrap_id (by omega) (by omega)
  refine ⟨fun h => ?_, fun h => ?_⟩
  · have h : e.id.n ≠ (cnt e.id.r l : Int) + 1 := by
      rw [hw] at h
      simpa using h
    conv => whnf
    repeat (first | (refine Conf.mk (by kernel_rfl) ?_; conv => whnf) | (refine SeqOk.go ?_; conv => whnf))
    refine Ret.bool ?_
    unfold readyP
    rw [decide_eq_false h]
    rfl
  · have h : e.id.n = (cnt e.id.r l : Int) + 1 := by
      rw [hw] at h
      simpa using h
    conv => whnf
    repeat (first | (refine Conf.mk (by kernel_rfl) ?_; conv => whnf) | (refine SeqOk.go ?_; conv => whnf))
    refine .look _ _ (containsFunc_id he fun x _ => siteReady1_ok l (by omega) x) rfl rfl ?_
    conv => whnf
    repeat (first | (refine Conf.mk (by kernel_rfl) ?_; conv => whnf) | (refine SeqOk.go ?_; conv => whnf))
    refine Ret.bool ?_
    unfold readyP
    rw [decide_eq_true h, not_any_not]
    rfl
def sameE (a b : Entry') : Bool := isThe b.id a && (a.colors == b.colors && (decide (a.text = b.text) && sameIds a.links b.links))
theorem sameE_iff {a b : Entry'} : sameE a b = true ↔ a = b := by
  unfold sameE
  simp only [Bool.and_eq_true, isThe_iff, beq_iff_eq, decide_eq_true_eq, sameIds_iff]
  constructor
  · rintro ⟨h1, h2, h3, h4⟩
    cases a; cases b
    simp only at h1 h2 h3 h4
    rw [h1, h2, h3, h4]
  · rintro rfl
    exact ⟨rfl, rfl, rfl, rfl⟩
def sameL : List Entry' → List Entry' → Bool
  | [], [] => true
  | a :: t, b :: u => sameE a b && sameL t u
  | _, _ => false
theorem sameL_iff : ∀ {a b : List Entry'}, sameL a b = true ↔ a = b
  | [], [] => by simp [sameL]
  | [], b :: u => by simp [sameL]
  | a :: t, [] => by simp [sameL]
  | a :: t, b :: u => by simp [sameL, sameE_iff, sameL_iff (a := t) (b := u)]
set_option maxHeartbeats 0 in
theorem sameEntry_ok (a b : Entry') (ha : a.links.length ≤ 140737488355328) : PCall Try.prog 28 [a.arg, b.arg] (dBool (sameE a b)) := by
  refine pcall_intro tab_all tab_mixed Try.func28 (by kernel_rfl) Try.ntmps28 rfl ?_
  conv => whnf
  refine ⟨fun h1 => ?_, fun h1 => ?_⟩
  · have h1 : isThe b.id a = true := h1
    conv => whnf
    repeat (first | (refine Conf.mk (by kernel_rfl) ?_; conv => whnf) | (refine SeqOk.go ?_; conv => whnf))
    refine ⟨fun h2 => ?_, fun h2 => ?_⟩
    · have h2 : (a.colors == b.colors) = true := h2
      conv => whnf
      repeat (first | (refine Conf.mk (by kernel_rfl) ?_; conv => whnf) | (refine SeqOk.go ?_; conv => whnf))
      refine ⟨fun h3 => ?_, fun h3 => ?_⟩
      · have h3 : decide (a.text = b.text) = true := h3
        conv => whnf
        repeat (first | (refine Conf.mk (by kernel_rfl) ?_; conv => whnf) | (refine SeqOk.go ?_; conv => whnf))
        refine .data _ _ (sameIds_ok a.links b.links ha) rfl ?_
        conv => whnf
        repeat (first | (refine Conf.mk (by kernel_rfl) ?_; conv => whnf) | (refine SeqOk.go ?_; conv => whnf))
        exact Ret.bool (by unfold sameE; rw [h1, h2, h3]; rfl)
      · have h3 : decide (a.text = b.text) = false := h3
        conv => whnf
        repeat (first | (refine Conf.mk (by kernel_rfl) ?_; conv => whnf) | (refine SeqOk.go ?_; conv => whnf))
        exact Ret.bool (by unfold sameE; rw [h1, h2, h3]; rfl)
    · have h2 : (a.colors == b.colors) = false := h2
      conv => whnf
      repeat (first | (refine Conf.mk (by kernel_rfl) ?_; conv => whnf) | (refine SeqOk.go ?_; conv => whnf))
      exact Ret.bool (by unfold sameE; rw [h1, h2]; rfl)
  · have h1 : isThe b.id a = false := h1
    conv => whnf
    repeat (first | (refine Conf.mk (by kernel_rfl) ?_; conv => whnf) | (refine SeqOk.go ?_; conv => whnf))
    exact Ret.bool (by unfold sameE; rw [h1]; rfl)
theorem sameL_len : ∀ {a b : List Entry'}, a.length ≠ b.length → sameL a b = false := fun {a b} h => by
  rw [Bool.eq_false_iff]
  intro k
  exact h (by rw [sameL_iff.1 k])
set_option maxHeartbeats 0 in
theorem sameLog_ok (a b : List Entry') (ha : LogOk a) : PCall Try.prog 30 [.dat (.list (a.map Entry'.enc)), .dat (.list (b.map Entry'.enc))] (dBool (sameL a b)) := by
  have hlen := ha.len
  refine pcall_intro tab_all tab_mixed Try.func30 (by kernel_rfl) Try.ntmps30 rfl ?_
  conv => whnf
  conv => whnf
  repeat (first | (refine Conf.mk (by kernel_rfl) ?_; conv => whnf) | (refine SeqOk.go ?_; conv => whnf))
  refine ⟨fun h => ?_, fun h => ?_⟩
  · have h : a.length ≠ b.length := by simp at h; omega
    conv => whnf
    repeat (first | (refine Conf.mk (by kernel_rfl) ?_; conv => whnf) | (refine SeqOk.go ?_; conv => whnf))
    exact Ret.bool (sameL_len h).symm
  · have h : a.length = b.length := by simp at h; omega
    conv => whnf
    repeat (first | (refine Conf.mk (by kernel_rfl) ?_; conv => whnf) | (refine SeqOk.go ?_; conv => whnf))
    refine LoopOk.hide fun Q1 hQ1 => ?_
    refine LoopOk.mk (fun m s => ∃ i, i + m = a.length ∧ sameL a b = sameL (a.drop i) (b.drop i) ∧ s = ⟨[(5, dInt i), (0, .dat (.list (a.map Entry'.enc))), (1, .dat (.list (b.map Entry'.enc)))], 0, []⟩) a.length (Into.mono (Into.to [] [(5, dInt (0 : Nat)), (0, .dat (.list (a.map Entry'.enc))), (1, .dat (.list (b.map Entry'.enc)))] [] (by repeat (first | exact trivial | refine ⟨.same (congrArg dInt (wrap_up (by omega))), ?_⟩ | refine ⟨.same rfl, ?_⟩ | refine ⟨.any _, ?_⟩)) trivial rfl rfl) fun s' h => ⟨0, by omega, rfl, h⟩) ?_
    rintro m s ⟨i, him, hp, rfl⟩
    conv => whnf
    repeat (first | (refine Conf.mk (by kernel_rfl) ?_; conv => whnf) | (refine SeqOk.go ?_; conv => whnf))
    refine ⟨fun h3 => ?_, fun h3 => ?_⟩
    · have hia := lt_of_len h3
      have hib : i < b.length := by omega
      rw [List.drop_eq_getElem_cons hia, List.drop_eq_getElem_cons hib, sameL] at hp
      conv => whnf
      repeat (first | (refine Conf.mk (by kernel_rfl) ?_; conv => whnf) | (refine SeqOk.go ?_; conv => whnf))
      refine AtIdx.ofMap hia rfl ?_
      conv => whnf
      repeat (first | (refine Conf.mk (by kernel_rfl) ?_; conv => whnf) | (refine SeqOk.go ?_; conv => whnf))
      refine AtIdx.ofMap hib rfl ?_
      conv => whnf
      repeat (first | (refine Conf.mk (by kernel_rfl) ?_; conv => whnf) | (refine SeqOk.go ?_; conv => whnf))
      refine .data _ _ (sameEntry_ok a[i] b[i] (ha.links _ (List.getElem_mem hia))) rfl ?_
      conv => whnf
      repeat (first | (refine Conf.mk (by kernel_rfl) ?_; conv => whnf) | (refine SeqOk.go ?_; conv => whnf))
      refine ⟨fun h4 => ?_, fun h4 => ?_⟩
      · have h4 : sameE a[i] b[i] = false := by rw [← Bool.not_eq_true']; exact h4
        conv => whnf
        repeat (first | (refine Conf.mk (by kernel_rfl) ?_; conv => whnf) | (refine SeqOk.go ?_; conv => whnf))
        subst hQ1
        conv => whnf
        exact Ret.bool (by rw [hp, h4]; rfl)
      · have h4 : sameE a[i] b[i] = true := by rw [← Bool.not_eq_false']; exact h4
        rw [h4, Bool.true_and] at hp
        conv => whnf
        repeat (first | (refine Conf.mk (by kernel_rfl) ?_; conv => whnf) | (refine SeqOk.go ?_; conv => whnf))
        exact Into.mono (Into.to [] [(5, dInt (i + 1 : Nat)), (0, .dat (.list (a.map Entry'.enc))), (1, .dat (.list (b.map Entry'.enc)))] [] (by repeat (first | exact trivial | refine ⟨.same (congrArg dInt (wrap_up (by omega))), ?_⟩ | refine ⟨.same rfl, ?_⟩ | refine ⟨.any _, ?_⟩)) trivial rfl rfl) fun s' h => ⟨m - 1, by omega, i + 1, by omega, hp, h⟩
    · have hia := ge_of_len h3
      conv => whnf
      repeat (first | (refine Conf.mk (by kernel_rfl) ?_; conv => whnf) | (refine SeqOk.go ?_; conv => whnf))
      subst hQ1
      conv => whnf
      refine Ret.bool ?_
      rw [hp, List.drop_eq_nil_of_le hia, List.drop_eq_nil_of_le (by omega)]
      rfl
def sameS (a b : Site') : Bool := (a.region == b.region) && (sameL a.log b.log && sameL a.waits b.waits)
theorem sameS_iff {a b : Site'} : sameS a b = true ↔ a = b := by
  unfold sameS
  simp only [Bool.and_eq_true, beq_iff_eq, sameL_iff]
  constructor
  · rintro ⟨h1, h2, h3⟩
    cases a; cases b
    simp only at h1 h2 h3
    rw [h1, h2, h3]
  · rintro rfl
    exact ⟨rfl, rfl, rfl⟩
structure SiteOk (s : Site') : Prop where
  log : LogOk s.log
  waits : LogOk s.waits
set_option maxHeartbeats 0 in
theorem sameSite_ok (a b : Site') (ha : SiteOk a) : PCall Try.prog 31 [a.arg, b.arg] (dBool (sameS a b)) := by
  refine pcall_intro tab_all tab_mixed Try.func31 (by kernel_rfl) Try.ntmps31 rfl ?_
  conv => whnf
  refine ⟨fun h1 => ?_, fun h1 => ?_⟩
  · have h1 : (a.region == b.region) = true := h1
    conv => whnf
    repeat (first | (refine Conf.mk (by kernel_rfl) ?_; conv => whnf) | (refine SeqOk.go ?_; conv => whnf))
    refine .data _ _ (sameLog_ok a.log b.log ha.log) rfl ?_
    conv => whnf
    repeat (first | (refine Conf.mk (by kernel_rfl) ?_; conv => whnf) | (refine SeqOk.go ?_; conv => whnf))
    refine ⟨fun h2 => ?_, fun h2 => ?_⟩
    · have h2 : sameL a.log b.log = true := h2
      conv => whnf
      repeat (first | (refine Conf.mk (by kernel_rfl) ?_; conv => whnf) | (refine SeqOk.go ?_; conv => whnf))
      refine .data _ _ (sameLog_ok a.waits b.waits ha.waits) rfl ?_
      conv => whnf
      repeat (first | (refine Conf.mk (by kernel_rfl) ?_; conv => whnf) | (refine SeqOk.go ?_; conv => whnf))
      exact Ret.bool (by unfold sameS; rw [h1, h2]; rfl)
    · have h2 : sameL a.log b.log = false := h2
      conv => whnf
      repeat (first | (refine Conf.mk (by kernel_rfl) ?_; conv => whnf) | (refine SeqOk.go ?_; conv => whnf))
      exact Ret.bool (by unfold sameS; rw [h1, h2]; rfl)
  · have h1 : (a.region == b.region) = false := h1
    conv => whnf
    repeat (first | (refine Conf.mk (by kernel_rfl) ?_; conv => whnf) | (refine SeqOk.go ?_; conv => whnf))
    exact Ret.bool (by unfold sameS; rw [h1]; rfl)
end Go.Proofs.Ytlioojekjnigiad.AM
/- Logs: Heads of one that is a row of one's own; sites: the next entry of a site's own. -/
namespace Go.Proofs.Ytlioojekjnigiad.AM
set_option linter.unusedVariables false
set_option linter.unusedSimpArgs false
set_option maxHeartbeats 0 in
theorem headsOwn_ok (l : List Entry') (hr : Right l) (c : Int) : ECall Try.prog 34 [.row 0, dInt c] [(0, .rows 35 5 (l.map Entry'.enc) true)] 1 (.tup [.dat (.list ((headsAns l c).map Id.enc)), dInt (colErr l c)]) [(0, .rows 35 5 (l.map Entry'.enc) true)] 0 := by
  have h1 := right_iff.2 hr
  have hll := hr.len
  have hch := dagCheck_ok l hr.logOk
  rw [h1] at hch
  refine acall_intro tab_all tab_mixed Try.func34 (by kernel_rfl) Try.ntmps34 rfl ?_
  conv => whnf
  refine .look _ _ hch rfl rfl ?_
  conv => whnf
  repeat (first | (refine Conf.mk (by kernel_rfl) ?_; conv => whnf) | (refine SeqOk.go ?_; conv => whnf))
  refine BoolCase.no rfl ?_
  conv => whnf
  repeat (first | (refine Conf.mk (by kernel_rfl) ?_; conv => whnf) | (refine SeqOk.go ?_; conv => whnf))
  refine ⟨fun h2 => ?_, fun h2 => ?_⟩
  · have hc : c < 1 ∨ 7 < c := .inl (by simpa using h2)
    have he : colErr l c = 3 := by unfold colErr; rw [if_pos h1, if_pos hc]
    have ha : headsAns l c = [] := by unfold headsAns; rw [he]; rfl
    conv => whnf
    repeat (first | (refine Conf.mk (by kernel_rfl) ?_; conv => whnf) | (refine SeqOk.go ?_; conv => whnf))
    exact .mk [] [0] (.tup [.dat (.list []), dInt 3]) [(0, .rows 35 5 (l.map Entry'.enc) true)] rfl (.tups ⟨.data rfl, .same rfl, trivial⟩) ⟨⟨rfl, rfl, rfl, rfl⟩, trivial⟩ rfl rfl ⟨by rw [he, ha]; rfl, rfl, rfl⟩
  · have h2 : ¬ c < 1 := by simpa using h2
    conv => whnf
    repeat (first | (refine Conf.mk (by kernel_rfl) ?_; conv => whnf) | (refine SeqOk.go ?_; conv => whnf))
    refine ⟨fun h3 => ?_, fun h3 => ?_⟩
    · have hc : c < 1 ∨ 7 < c := .inr (by simpa using h3)
      have he : colErr l c = 3 := by unfold colErr; rw [if_pos h1, if_pos hc]
      have ha : headsAns l c = [] := by unfold headsAns; rw [he]; rfl
      conv => whnf
      repeat (first | (refine Conf.mk (by kernel_rfl) ?_; conv => whnf) | (refine SeqOk.go ?_; conv => whnf))
      exact .mk [] [0] (.tup [.dat (.list []), dInt 3]) [(0, .rows 35 5 (l.map Entry'.enc) true)] rfl (.tups ⟨.data rfl, .same rfl, trivial⟩) ⟨⟨rfl, rfl, rfl, rfl⟩, trivial⟩ rfl rfl ⟨by rw [he, ha]; rfl, rfl, rfl⟩
    · have h3 : ¬ 7 < c := by simpa using h3
      have he : colErr l c = 0 := by unfold colErr; rw [if_pos h1, if_neg (by omega)]
      have ha : headsAns l c = headsOf c l := by unfold headsAns; rw [he]; rfl
      conv => whnf
      repeat (first | (refine Conf.mk (by kernel_rfl) ?_; conv => whnf) | (refine SeqOk.go ?_; conv => whnf))
      refine .eff [0, 1] _ _ _ _ 0 (pastOfOwn_ok c l hr.len (fun e he => hr.six he) fun e _ => heads1_ok c e) rfl rfl rfl rfl rfl ?_
      conv => whnf
      repeat (first | (refine Conf.mk (by kernel_rfl) ?_; conv => whnf) | (refine SeqOk.go ?_; conv => whnf))
      have hfl := pastFold_len (fun e => bothOf e.colors c) (l := l) fun e he => hr.six he
      refine .eff [0, 1, 2, 3] _ _ _ _ 0 (idsOfOwn_ok c (sortIds (pastFold (fun e => bothOf e.colors c) l)) l hr.len fun e _ => heads2_ok c (sortIds (pastFold (fun e => bothOf e.colors c) l)) (by rw [sortIds_len]; omega) e) rfl rfl rfl rfl rfl ?_
      conv => whnf
      repeat (first | (refine Conf.mk (by kernel_rfl) ?_; conv => whnf) | (refine SeqOk.go ?_; conv => whnf))
      have hq : (fun e : Entry' => bothOf e.colors c && !(sortIds (pastFold (fun e => bothOf e.colors c) l)).any (isId2 e.id)) = fun e => bothOf e.colors c && !(pastFold (fun e => bothOf e.colors c) l).any (isId2 e.id) := funext fun e => by
        congr 2
        rw [Bool.eq_iff_iff, any_isId2, any_isId2, mem_sortIds]
      rw [hq]
      exact .mk [] [0] (.tup [.dat (.list ((headsOf c l).map Id.enc)), dInt 0]) [(0, .rows 35 5 (l.map Entry'.enc) true)] rfl (.tups ⟨.same rfl, .same rfl, trivial⟩) ⟨⟨rfl, rfl, rfl, rfl⟩, trivial⟩ rfl rfl ⟨by rw [he, ha], rfl, rfl⟩
def zeroE : Entry' := ⟨⟨0, 0⟩, 0, ByteArray.empty, []⟩
/-- The next entry of a region's own. -/
def newE (r : Int) (l : List Entry') (c : Int) (t : ByteArray) : Entry' := ⟨⟨r, (cnt r l : Int) + 1⟩, c, t, headsOf c l⟩
def nextErr (r : Int) (l : List Entry') (c : Int) (t : ByteArray) : Int :=
  if c < 1 ∨ 7 < c then 3 else if 12 < t.size ∨ 20 < cnt r l + 1 ∨ 6 < (headsOf c l).length then 2 else 0
def nextE (r : Int) (l : List Entry') (c : Int) (t : ByteArray) : Entry' := if nextErr r l c t = 0 then newE r l c t else zeroE
set_option maxHeartbeats 0 in
theorem next_ok (r : Int) (log ws : List Entry') (hr : Right log) (c : Int) (t : ByteArray) : ECall Try.prog 77 [.ptr 0 0, dInt c, .dat (.str t)] [(0, .vars 79 3 [dInt r, .row 1, .row 2] true), (1, .rows 35 5 (log.map Entry'.enc) true), (2, .rows 35 5 (ws.map Entry'.enc) true)] 3 (.tup [(nextE r log c t).arg, dInt (nextErr r log c t)]) [(0, .vars 79 3 [dInt r, .row 1, .row 2] true), (1, .rows 35 5 (log.map Entry'.enc) true), (2, .rows 35 5 (ws.map Entry'.enc) true)] 0 := by
  have h1 := right_iff.2 hr
  have hll := hr.len
  have hcl := cnt_le r log
  have hho := headsOwn_ok log hr c
  refine acall_intro tab_all tab_mixed Try.func77 (by kernel_rfl) Try.ntmps77 rfl ?_
  conv => whnf
  by_cases hc : c < 1 ∨ 7 < c
  · have he : colErr log c = 3 := by unfold colErr; rw [if_pos h1, if_pos hc]
    have hE : nextErr r log c t = 3 := by unfold nextErr; rw [if_pos hc]
    have hA : nextE r log c t = zeroE := by unfold nextE; rw [hE]; rfl
    rw [he] at hho
    refine .eff [1] _ _ _ _ 0 hho rfl rfl rfl rfl rfl ?_
    conv => whnf
    repeat (first | (refine Conf.mk (by kernel_rfl) ?_; conv => whnf) | (refine SeqOk.go ?_; conv => whnf))
    refine BoolCase.yes rfl ?_
    conv => whnf
    repeat (first | (refine Conf.mk (by kernel_rfl) ?_; conv => whnf) | (refine SeqOk.go ?_; conv => whnf))
    exact .mk [] [0, 1, 2] (.tup [zeroE.arg, dInt 3]) [(0, .vars 79 3 [dInt r, .row 1, .row 2] true), (1, .rows 35 5 (log.map Entry'.enc) true), (2, .rows 35 5 (ws.map Entry'.enc) true)] rfl (.tups ⟨.aggs ⟨.same rfl, .same rfl, .same rfl, .same rfl, .data rfl, trivial⟩, .same rfl, trivial⟩) ⟨⟨rfl, rfl, rfl, .same rfl, rfl, .same rfl, rfl, .same rfl, rfl, trivial⟩, ⟨rfl, rfl, rfl, rfl⟩, ⟨rfl, rfl, rfl, rfl⟩, trivial⟩ rfl rfl ⟨by rw [hE, hA], rfl, rfl⟩
  · have he : colErr log c = 0 := by unfold colErr; rw [if_pos h1, if_neg hc]
    have ha : headsAns log c = headsOf c log := by unfold headsAns; rw [he]; rfl
    rw [he, ha] at hho
    refine .eff [1] _ _ _ _ 0 hho rfl rfl rfl rfl rfl ?_
    conv => whnf
    repeat (first | (refine Conf.mk (by kernel_rfl) ?_; conv => whnf) | (refine SeqOk.go ?_; conv => whnf))
    refine BoolCase.no rfl ?_
    conv => whnf
    repeat (first | (refine Conf.mk (by kernel_rfl) ?_; conv => whnf) | (refine SeqOk.go ?_; conv => whnf))
    refine .look _ _ (siteCount_ok log (by omega) r) rfl rfl ?_
    conv => whnf
    repeat (first | (refine Conf.mk (by kernel_rfl) ?_; conv => whnf) | (refine SeqOk.go ?_; conv => whnf))
    refine ⟨fun h2 => ?_, fun h2 => ?_⟩
    · have hm : 12 < t.size ∨ 20 < cnt r log + 1 ∨ 6 < (headsOf c log).length := .inl (by simp at h2; omega)
      have hE : nextErr r log c t = 2 := by unfold nextErr; rw [if_neg hc, if_pos hm]
      have hA : nextE r log c t = zeroE := by unfold nextE; rw [hE]; rfl
      conv => whnf
      repeat (first | (refine Conf.mk (by kernel_rfl) ?_; conv => whnf) | (refine SeqOk.go ?_; conv => whnf))
      exact .mk [] [0, 1, 2] (.tup [zeroE.arg, dInt 2]) [(0, .vars 79 3 [dInt r, .row 1, .row 2] true), (1, .rows 35 5 (log.map Entry'.enc) true), (2, .rows 35 5 (ws.map Entry'.enc) true)] rfl (.tups ⟨.aggs ⟨.same rfl, .same rfl, .same rfl, .same rfl, .data rfl, trivial⟩, .same rfl, trivial⟩) ⟨⟨rfl, rfl, rfl, .same rfl, rfl, .same rfl, rfl, .same rfl, rfl, trivial⟩, ⟨rfl, rfl, rfl, rfl⟩, ⟨rfl, rfl, rfl, rfl⟩, trivial⟩ rfl rfl ⟨by rw [hE, hA], rfl, rfl⟩
    · have h2 : ¬ 12 < t.size := by simp at h2; omega
      conv => whnf
      repeat (first | (refine Conf.mk (by kernel_rfl) ?_; conv => whnf) | (refine SeqOk.go ?_; conv => whnf))
      refine ⟨fun h3 => ?_, fun h3 => ?_⟩
      · have hm : 12 < t.size ∨ 20 < cnt r log + 1 ∨ 6 < (headsOf c log).length := .inr (.inl (by rw [wrap_id (by omega) (by omega)] at h3; simp at h3; omega))
        have hE : nextErr r log c t = 2 := by unfold nextErr; rw [if_neg hc, if_pos hm]
        have hA : nextE r log c t = zeroE := by unfold nextE; rw [hE]; rfl
        conv => whnf
        repeat (first | (refine Conf.mk (by kernel_rfl) ?_; conv => whnf) | (refine SeqOk.go ?_; conv => whnf))
        exact .mk [] [0, 1, 2] (.tup [zeroE.arg, dInt 2]) [(0, .vars 79 3 [dInt r, .row 1, .row 2] true), (1, .rows 35 5 (log.map Entry'.enc) true), (2, .rows 35 5 (ws.map Entry'.enc) true)] rfl (.tups ⟨.aggs ⟨.same rfl, .same rfl, .same rfl, .same rfl, .data rfl, trivial⟩, .same rfl, trivial⟩) ⟨⟨rfl, rfl, rfl, .same rfl, rfl, .same rfl, rfl, .same rfl, rfl, trivial⟩, ⟨rfl, rfl, rfl, rfl⟩, ⟨rfl, rfl, rfl, rfl⟩, trivial⟩ rfl rfl ⟨by rw [hE, hA], rfl, rfl⟩
      · have h3 : ¬ 20 < cnt r log + 1 := by rw [wrap_id (by omega) (by omega)] at h3; simp at h3; omega
        conv => whnf
        repeat (first | (refine Conf.mk (by kernel_rfl) ?_; conv => whnf) | (refine SeqOk.go ?_; conv => whnf))
        refine ⟨fun h4 => ?_, fun h4 => ?_⟩
        · have hm : 12 < t.size ∨ 20 < cnt r log + 1 ∨ 6 < (headsOf c log).length := .inr (.inr (by simp at h4; omega))
          have hE : nextErr r log c t = 2 := by unfold nextErr; rw [if_neg hc, if_pos hm]
          have hA : nextE r log c t = zeroE := by unfold nextE; rw [hE]; rfl
          conv => whnf
          repeat (first | (refine Conf.mk (by kernel_rfl) ?_; conv => whnf) | (refine SeqOk.go ?_; conv => whnf))
          exact .mk [] [0, 1, 2] (.tup [zeroE.arg, dInt 2]) [(0, .vars 79 3 [dInt r, .row 1, .row 2] true), (1, .rows 35 5 (log.map Entry'.enc) true), (2, .rows 35 5 (ws.map Entry'.enc) true)] rfl (.tups ⟨.aggs ⟨.same rfl, .same rfl, .same rfl, .same rfl, .data rfl, trivial⟩, .same rfl, trivial⟩) ⟨⟨rfl, rfl, rfl, .same rfl, rfl, .same rfl, rfl, .same rfl, rfl, trivial⟩, ⟨rfl, rfl, rfl, rfl⟩, ⟨rfl, rfl, rfl, rfl⟩, trivial⟩ rfl rfl ⟨by rw [hE, hA], rfl, rfl⟩
        · have h4 : ¬ 6 < (headsOf c log).length := by simp at h4; omega
          have hE : nextErr r log c t = 0 := by unfold nextErr; rw [if_neg hc, if_neg (by simp only [not_or]; exact ⟨h2, h3, h4⟩)]
          have hA : nextE r log c t = newE r log c t := by unfold nextE; rw [hE]; rfl
          conv => whnf
          repeat (first | (refine Conf.mk (by kernel_rfl) ?_; conv => whnf) | (refine SeqOk.go ?_; conv => whnf))
          rw [wrap_id (by omega) (by omega)]
          exact .mk [] [0, 1, 2] (.tup [(newE r log c t).arg, dInt 0]) [(0, .vars 79 3 [dInt r, .row 1, .row 2] true), (1, .rows 35 5 (log.map Entry'.enc) true), (2, .rows 35 5 (ws.map Entry'.enc) true)] rfl (.same rfl) ⟨⟨rfl, rfl, rfl, .same rfl, rfl, .same rfl, rfl, .same rfl, rfl, trivial⟩, ⟨rfl, rfl, rfl, rfl⟩, ⟨rfl, rfl, rfl, rfl⟩, trivial⟩ rfl rfl ⟨by rw [hE, hA], rfl, rfl⟩
end Go.Proofs.Ytlioojekjnigiad.AM
/- Sites: what is wrong with one. -/
namespace Go.Proofs.Ytlioojekjnigiad.AM
set_option linter.unusedVariables false
set_option linter.unusedSimpArgs false

theorem siteRegion_ok (n : Int) : PCall Try.prog 52 [dInt n] (dBool (decide (n = 0) || decide (n = 1))) := by
  refine pcall_intro tab_all tab_mixed Try.func52 (by kernel_rfl) Try.ntmps52 rfl ?_
  conv => whnf
  refine ⟨fun h => ?_, fun h => ?_⟩
  · have h : n = 0 := by simpa using h
    conv => whnf
    exact Ret.bool (by simp [h])
  · have h : n ≠ 0 := by simpa using h
    conv => whnf
    exact Ret.bool (by simp only [h, decide_false, Bool.false_or]; rfl)
/-- Does a wait not stand behind the one ahead of it? -/
def badAhead (s : Site') (i : Nat) (x : Entry') : Bool := decide (0 < i) && !(match s.waits[i - 1]? with | some p => p.id.less x.id | none => true)
def waitErr (s : Site') (i : Nat) (x : Entry') : Int :=
  if x.err ≠ 0 then x.err else if (badAhead s i x || (decide (x.id.r = s.region) || (s.log.any (isThe x.id) || readyP s.log x))) = true then 4 else 0
def waitsFrom (s : Site') : Nat → List Entry' → Int
  | _, [] => 0
  | i, x :: t => if waitErr s i x ≠ 0 then waitErr s i x else waitsFrom s (i + 1) t
def siteErr (s : Site') : Int :=
  if s.region ≠ 0 ∧ s.region ≠ 1 then 3 else if logErr s.log ≠ 0 then logErr s.log else if 20 < s.waits.length then 2 else waitsFrom s 0 s.waits
set_option maxHeartbeats 0 in
theorem checkWait_ok (s : Site') (hs : SiteOk s) (hl : s.log.length ≤ 40) (i : Nat) (hi : i < s.waits.length) : PCall Try.prog 63 [s.arg, dInt i] (dInt (waitErr s i s.waits[i])) := by
  have hwl := hs.waits.len
  have hlk := hs.waits.links _ (List.getElem_mem hi)
  refine pcall_intro tab_all tab_mixed Try.func63 (by kernel_rfl) Try.ntmps63 rfl ?_
  conv => whnf
  refine AtIdx.ofMap hi rfl ?_
  conv => whnf
  repeat (first | (refine Conf.mk (by kernel_rfl) ?_; conv => whnf) | (refine SeqOk.go ?_; conv => whnf))
  refine .data _ _ (check_ok s.waits[i] hlk) rfl ?_
  conv => whnf
  repeat (first | (refine Conf.mk (by kernel_rfl) ?_; conv => whnf) | (refine SeqOk.go ?_; conv => whnf))
  refine ⟨fun h1 => ?_, fun h1 => ?_⟩
  · have h1 : s.waits[i].err ≠ 0 := by simpa using h1
    conv => whnf
    repeat (first | (refine Conf.mk (by kernel_rfl) ?_; conv => whnf) | (refine SeqOk.go ?_; conv => whnf))
    exact Ret.int (by unfold waitErr; rw [if_pos h1])
  · have h1 : s.waits[i].err = 0 := by simpa using h1
    have he : waitErr s i s.waits[i] = if (badAhead s i s.waits[i] || (decide (s.waits[i].id.r = s.region) || (s.log.any (isThe s.waits[i].id) || readyP s.log s.waits[i]))) = true then 4 else 0 := by unfold waitErr; rw [if_neg (by simp [h1])]
    by_cases h0 : 0 < i
    · refine BoolCase.yes (by simpa using h0) ?_
      have hi1 : i - 1 < s.waits.length := by omega
      have hp : s.waits[i - 1]? = some s.waits[i - 1] := List.getElem?_eq_getElem hi1
      have hba : badAhead s i s.waits[i] = !s.waits[i - 1].id.less s.waits[i].id := by unfold badAhead; rw [hp, decide_eq_true h0]; rfl
      conv => whnf
      repeat (first | (refine Conf.mk (by kernel_rfl) ?_; conv => whnf) | (refine SeqOk.go ?_; conv => whnf))
      refine AtIdx.ofMap' (i - 1) (wrap_down h0 (by omega)) hi1 rfl ?_
      conv => whnf
      repeat (first | (refine Conf.mk (by kernel_rfl) ?_; conv => whnf) | (refine SeqOk.go ?_; conv => whnf))
      refine .data _ _ (less_ok s.waits[i - 1].id s.waits[i].id) rfl ?_
      conv => whnf
      repeat (first | (refine Conf.mk (by kernel_rfl) ?_; conv => whnf) | (refine SeqOk.go ?_; conv => whnf))
      refine ⟨fun h2 => ?_, fun h2 => ?_⟩
      · have h2 : (!s.waits[i - 1].id.less s.waits[i].id) = true := h2
        conv => whnf
        repeat (first | (refine Conf.mk (by kernel_rfl) ?_; conv => whnf) | (refine SeqOk.go ?_; conv => whnf))
        exact Ret.int (by rw [he, hba, h2]; rfl)
      · have h2 : (!s.waits[i - 1].id.less s.waits[i].id) = false := h2
        have hb : badAhead s i s.waits[i] = false := by rw [hba, h2]
        conv => whnf
        repeat (first | (refine Conf.mk (by kernel_rfl) ?_; conv => whnf) | (refine SeqOk.go ?_; conv => whnf))
        refine ⟨fun h3 => ?_, fun h3 => ?_⟩
        · have h3 : s.waits[i].id.r = s.region := by simpa using h3
          conv => whnf
          repeat (first | (refine Conf.mk (by kernel_rfl) ?_; conv => whnf) | (refine SeqOk.go ?_; conv => whnf))
          exact Ret.int (by rw [he, hb, decide_eq_true h3]; rfl)
        · have h3 : s.waits[i].id.r ≠ s.region := by simpa using h3
          conv => whnf
          repeat (first | (refine Conf.mk (by kernel_rfl) ?_; conv => whnf) | (refine SeqOk.go ?_; conv => whnf))
          refine .data _ _ (siteHas_ok s.waits[i].id s.log (by omega)) rfl ?_
          conv => whnf
          repeat (first | (refine Conf.mk (by kernel_rfl) ?_; conv => whnf) | (refine SeqOk.go ?_; conv => whnf))
          refine ⟨fun h4 => ?_, fun h4 => ?_⟩
          · have h4 : s.log.any (isThe s.waits[i].id) = true := h4
            conv => whnf
            repeat (first | (refine Conf.mk (by kernel_rfl) ?_; conv => whnf) | (refine SeqOk.go ?_; conv => whnf))
            exact Ret.int (by rw [he, hb, decide_eq_false h3, h4]; rfl)
          · have h4 : s.log.any (isThe s.waits[i].id) = false := h4
            conv => whnf
            repeat (first | (refine Conf.mk (by kernel_rfl) ?_; conv => whnf) | (refine SeqOk.go ?_; conv => whnf))
            refine .data _ _ (siteReady_ok s.log (by omega) s.waits[i] (by have := (six_of h1).2; omega)) rfl ?_
            conv => whnf
            repeat (first | (refine Conf.mk (by kernel_rfl) ?_; conv => whnf) | (refine SeqOk.go ?_; conv => whnf))
            refine ⟨fun h5 => ?_, fun h5 => ?_⟩
            · have h5 : readyP s.log s.waits[i] = true := h5
              conv => whnf
              repeat (first | (refine Conf.mk (by kernel_rfl) ?_; conv => whnf) | (refine SeqOk.go ?_; conv => whnf))
              exact Ret.int (by rw [he, hb, decide_eq_false h3, h4, h5]; rfl)
            · have h5 : readyP s.log s.waits[i] = false := h5
              conv => whnf
              repeat (first | (refine Conf.mk (by kernel_rfl) ?_; conv => whnf) | (refine SeqOk.go ?_; conv => whnf))
              exact Ret.int (by rw [he, hb, decide_eq_false h3, h4, h5]; rfl)
    · have hb : badAhead s i s.waits[i] = false := by unfold badAhead; rw [decide_eq_false h0]; rfl
      refine BoolCase.no (by simpa using h0) ?_
      conv => whnf
      repeat (first | (refine Conf.mk (by kernel_rfl) ?_; conv => whnf) | (refine SeqOk.go ?_; conv => whnf))
      refine ⟨fun h3 => ?_, fun h3 => ?_⟩
      · have h3 : s.waits[i].id.r = s.region := by simpa using h3
        conv => whnf
        repeat (first | (refine Conf.mk (by kernel_rfl) ?_; conv => whnf) | (refine SeqOk.go ?_; conv => whnf))
        exact Ret.int (by rw [he, hb, decide_eq_true h3]; rfl)
      · have h3 : s.waits[i].id.r ≠ s.region := by simpa using h3
        conv => whnf
        repeat (first | (refine Conf.mk (by kernel_rfl) ?_; conv => whnf) | (refine SeqOk.go ?_; conv => whnf))
        refine .data _ _ (siteHas_ok s.waits[i].id s.log (by omega)) rfl ?_
        conv => whnf
        repeat (first | (refine Conf.mk (by kernel_rfl) ?_; conv => whnf) | (refine SeqOk.go ?_; conv => whnf))
        refine ⟨fun h4 => ?_, fun h4 => ?_⟩
        · have h4 : s.log.any (isThe s.waits[i].id) = true := h4
          conv => whnf
          repeat (first | (refine Conf.mk (by kernel_rfl) ?_; conv => whnf) | (refine SeqOk.go ?_; conv => whnf))
          exact Ret.int (by rw [he, hb, decide_eq_false h3, h4]; rfl)
        · have h4 : s.log.any (isThe s.waits[i].id) = false := h4
          conv => whnf
          repeat (first | (refine Conf.mk (by kernel_rfl) ?_; conv => whnf) | (refine SeqOk.go ?_; conv => whnf))
          refine .data _ _ (siteReady_ok s.log (by omega) s.waits[i] (by have := (six_of h1).2; omega)) rfl ?_
          conv => whnf
          repeat (first | (refine Conf.mk (by kernel_rfl) ?_; conv => whnf) | (refine SeqOk.go ?_; conv => whnf))
          refine ⟨fun h5 => ?_, fun h5 => ?_⟩
          · have h5 : readyP s.log s.waits[i] = true := h5
            conv => whnf
            repeat (first | (refine Conf.mk (by kernel_rfl) ?_; conv => whnf) | (refine SeqOk.go ?_; conv => whnf))
            exact Ret.int (by rw [he, hb, decide_eq_false h3, h4, h5]; rfl)
          · have h5 : readyP s.log s.waits[i] = false := h5
            conv => whnf
            repeat (first | (refine Conf.mk (by kernel_rfl) ?_; conv => whnf) | (refine SeqOk.go ?_; conv => whnf))
            exact Ret.int (by rw [he, hb, decide_eq_false h3, h4, h5]; rfl)
theorem waits_wrong {s : Site'} {i : Nat} (hi : i < s.waits.length) (h : waitErr s i s.waits[i] ≠ 0) : waitsFrom s i (s.waits.drop i) = waitErr s i s.waits[i] := by
  rw [List.drop_eq_getElem_cons hi, waitsFrom, if_pos h]
theorem waits_right {s : Site'} {i : Nat} (hi : i < s.waits.length) (h : waitErr s i s.waits[i] = 0) : waitsFrom s i (s.waits.drop i) = waitsFrom s (i + 1) (s.waits.drop (i + 1)) := by
  rw [List.drop_eq_getElem_cons hi, waitsFrom, if_neg (by simp [h])]
set_option maxHeartbeats 0 in
theorem siteCheck_ok (s : Site') (hs : SiteOk s) : PCall Try.prog 26 [s.arg] (dInt (siteErr s)) := by
  have hwl := hs.waits.len
  have hrg := siteRegion_ok s.region
  refine pcall_intro tab_all tab_mixed Try.func26 (by kernel_rfl) Try.ntmps26 rfl ?_
  conv => whnf
  by_cases h0 : s.region = 0 ∨ s.region = 1
  · rw [show (decide (s.region = 0) || decide (s.region = 1)) = true by simpa using h0] at hrg
    refine .data _ _ hrg.kb rfl ?_
    conv => whnf
    repeat (first | (refine Conf.mk (by kernel_rfl) ?_; conv => whnf) | (refine SeqOk.go ?_; conv => whnf))
    refine .data _ _ (dagCheck_ok s.log hs.log) rfl ?_
    conv => whnf
    repeat (first | (refine Conf.mk (by kernel_rfl) ?_; conv => whnf) | (refine SeqOk.go ?_; conv => whnf))
    refine ⟨fun h1 => ?_, fun h1 => ?_⟩
    · have h1 : logErr s.log ≠ 0 := by simpa using h1
      conv => whnf
      repeat (first | (refine Conf.mk (by kernel_rfl) ?_; conv => whnf) | (refine SeqOk.go ?_; conv => whnf))
      exact Ret.int (by unfold siteErr; rw [if_neg (by omega), if_pos h1])
    · have h1 : logErr s.log = 0 := by simpa using h1
      have hr := right_iff.1 h1
      have hll := hr.len
      conv => whnf
      repeat (first | (refine Conf.mk (by kernel_rfl) ?_; conv => whnf) | (refine SeqOk.go ?_; conv => whnf))
      refine ⟨fun h2 => ?_, fun h2 => ?_⟩
      · have h2 : 20 < s.waits.length := by simp at h2; omega
        conv => whnf
        repeat (first | (refine Conf.mk (by kernel_rfl) ?_; conv => whnf) | (refine SeqOk.go ?_; conv => whnf))
        exact Ret.int (by unfold siteErr; rw [if_neg (by omega), if_neg (by simp [h1]), if_pos h2])
      · have h2 : ¬ 20 < s.waits.length := by simp at h2; omega
        have he : siteErr s = waitsFrom s 0 s.waits := by unfold siteErr; rw [if_neg (by omega), if_neg (by simp [h1]), if_neg h2]
        conv => whnf
        repeat (first | (refine Conf.mk (by kernel_rfl) ?_; conv => whnf) | (refine SeqOk.go ?_; conv => whnf))
        refine LoopOk.hide fun Q1 hQ1 => ?_
        refine LoopOk.mk (fun m t => ∃ i, i + m = s.waits.length ∧ siteErr s = waitsFrom s i (s.waits.drop i) ∧ t = ⟨[(23, dInt i), (22, dInt (s.waits.map Entry'.enc).length), (1, .ptr 0 0)], 1, [(0, .vars 41 3 [dInt s.region, .dat (.list (s.log.map Entry'.enc)), .dat (.list (s.waits.map Entry'.enc))] true)]⟩) s.waits.length (Into.mono (Into.to [0] [(23, dInt (0 : Nat)), (22, dInt (s.waits.map Entry'.enc).length), (1, .ptr 0 0)] [(0, .vars 41 3 [dInt s.region, .dat (.list (s.log.map Entry'.enc)), .dat (.list (s.waits.map Entry'.enc))] true)] (by repeat (first | exact trivial | refine ⟨.same (congrArg dInt (wrap_up (by omega))), ?_⟩ | refine ⟨.same rfl, ?_⟩ | refine ⟨.any _, ?_⟩)) ⟨⟨rfl, rfl, rfl, .same rfl, rfl, .same rfl, rfl, .same rfl, rfl, trivial⟩, trivial⟩ rfl rfl) fun s' h => ⟨0, by omega, he, h⟩) ?_
        rintro m t ⟨i, him, hp, rfl⟩
        conv => whnf
        repeat (first | (refine Conf.mk (by kernel_rfl) ?_; conv => whnf) | (refine SeqOk.go ?_; conv => whnf))
        refine ⟨fun h3 => ?_, fun h3 => ?_⟩
        · have hi := lt_of_len h3
          conv => whnf
          repeat (first | (refine Conf.mk (by kernel_rfl) ?_; conv => whnf) | (refine SeqOk.go ?_; conv => whnf))
          refine .data _ _ (checkWait_ok s hs hll i hi) rfl ?_
          conv => whnf
          repeat (first | (refine Conf.mk (by kernel_rfl) ?_; conv => whnf) | (refine SeqOk.go ?_; conv => whnf))
          refine ⟨fun h4 => ?_, fun h4 => ?_⟩
          · have h4 : waitErr s i s.waits[i] ≠ 0 := by simpa using h4
            conv => whnf
            repeat (first | (refine Conf.mk (by kernel_rfl) ?_; conv => whnf) | (refine SeqOk.go ?_; conv => whnf))
            subst hQ1
            conv => whnf
            exact Ret.int (by rw [hp, waits_wrong hi h4])
          · have h4 : waitErr s i s.waits[i] = 0 := by simpa using h4
            rw [waits_right hi h4] at hp
            conv => whnf
            repeat (first | (refine Conf.mk (by kernel_rfl) ?_; conv => whnf) | (refine SeqOk.go ?_; conv => whnf))
            exact Into.mono (Into.to [0] [(23, dInt (i + 1 : Nat)), (22, dInt (s.waits.map Entry'.enc).length), (1, .ptr 0 0)] [(0, .vars 41 3 [dInt s.region, .dat (.list (s.log.map Entry'.enc)), .dat (.list (s.waits.map Entry'.enc))] true)] (by repeat (first | exact trivial | refine ⟨.same (congrArg dInt (wrap_up (by omega))), ?_⟩ | refine ⟨.same rfl, ?_⟩ | refine ⟨.any _, ?_⟩)) ⟨⟨rfl, rfl, rfl, .same rfl, rfl, .same rfl, rfl, .same rfl, rfl, trivial⟩, trivial⟩ rfl rfl) fun s' h => ⟨m - 1, by omega, i + 1, by omega, hp, h⟩
        · have hi := ge_of_len h3
          conv => whnf
          repeat (first | (refine Conf.mk (by kernel_rfl) ?_; conv => whnf) | (refine SeqOk.go ?_; conv => whnf))
          subst hQ1
          conv => whnf
          exact Ret.int (by rw [hp, List.drop_eq_nil_of_le hi]; rfl)
  · rw [show (decide (s.region = 0) || decide (s.region = 1)) = false by simpa using h0] at hrg
    refine .data _ _ hrg.kb rfl ?_
    conv => whnf
    repeat (first | (refine Conf.mk (by kernel_rfl) ?_; conv => whnf) | (refine SeqOk.go ?_; conv => whnf))
    exact Ret.int (by unfold siteErr; rw [if_pos (by omega)])
end Go.Proofs.Ytlioojekjnigiad.AM
/- Sites: what is wrong with one, as the document says. -/
namespace Go.Proofs.Ytlioojekjnigiad.AM
set_option linter.unusedVariables false
set_option linter.unusedSimpArgs false
set_option maxHeartbeats 0 in
theorem refReady_ok (l : List Entry') (hl : l.length ≤ 40) (hr : ∀ e ∈ l, e.id.r = 0 ∨ e.id.r = 1) (e : Entry') (he : e.links.length ≤ 140737488355327) (hreg : e.id.r = 0 ∨ e.id.r = 1) : PCall Try.prog 59 [.dat (.list (l.map Entry'.enc)), e.arg] (dBool (readyP l e)) := by
  have c0 := cnt_le 0 l
  have c1 := cnt_le 1 l
  refine pcall_intro tab_all tab_mixed Try.func59 (by kernel_rfl) Try.ntmps59 rfl ?_
  conv => whnf
  refine LoopOk.hide fun Q1 hQ1 => ?_
  refine LoopOk.mk (fun m s => ∃ i, i + m = e.links.length ∧ (e.links.all fun x => l.any (isThe x)) = ((e.links.drop i).all fun x => l.any (isThe x)) ∧ s = ⟨[(5, dInt i), (0, .dat (.list (l.map Entry'.enc))), (3, .ptr 0 0)], 1, [(0, .vars 35 5 [dInt e.id.r, dInt e.id.n, dInt e.colors, .dat (.str e.text), .dat (.list (e.links.map Id.enc))] true)]⟩) e.links.length (Into.mono (Into.to [0] [(5, dInt (0 : Nat)), (0, .dat (.list (l.map Entry'.enc))), (3, .ptr 0 0)] [(0, .vars 35 5 [dInt e.id.r, dInt e.id.n, dInt e.colors, .dat (.str e.text), .dat (.list (e.links.map Id.enc))] true)] (by repeat (first | exact trivial | refine ⟨.same (congrArg dInt (wrap_up (by omega))), ?_⟩ | refine ⟨.same rfl, ?_⟩ | refine ⟨.any _, ?_⟩)) ⟨⟨rfl, rfl, rfl, .same rfl, rfl, .same rfl, rfl, .same rfl, rfl, .same rfl, rfl, .same rfl, rfl, trivial⟩, trivial⟩ rfl rfl) fun s' h => ⟨0, by omega, rfl, h⟩) ?_
  rintro m s ⟨i, him, hp, rfl⟩
  conv => whnf
  repeat (first | (refine Conf.mk (by kernel_rfl) ?_; conv => whnf) | (refine SeqOk.go ?_; conv => whnf))
  refine ⟨fun h3 => ?_, fun h3 => ?_⟩
  · have hi := lt_of_len h3
    rw [List.drop_eq_getElem_cons hi, List.all_cons] at hp
    conv => whnf
    repeat (first | (refine Conf.mk (by kernel_rfl) ?_; conv => whnf) | (refine SeqOk.go ?_; conv => whnf))
    refine AtIdx.ofMap hi rfl ?_
    conv => whnf
    repeat (first | (refine Conf.mk (by kernel_rfl) ?_; conv => whnf) | (refine SeqOk.go ?_; conv => whnf))
    refine .data _ _ (entryAt_ok e.links[i] l (by omega)) rfl ?_
    conv => whnf
    repeat (first | (refine Conf.mk (by kernel_rfl) ?_; conv => whnf) | (refine SeqOk.go ?_; conv => whnf))
    refine ⟨fun h4 => ?_, fun h4 => ?_⟩
    · have h4 : l.any (isThe e.links[i]) = false := by
        rw [Bool.eq_false_iff]
        intro k
        have := entryAt_iff.2 k
        simp at h4
        omega
      conv => whnf
      repeat (first | (refine Conf.mk (by kernel_rfl) ?_; conv => whnf) | (refine SeqOk.go ?_; conv => whnf))
      subst hQ1
      conv => whnf
      refine Ret.bool ?_
      unfold readyP
      rw [hp, h4, Bool.false_and, Bool.and_false]
    · have h4 : l.any (isThe e.links[i]) = true := entryAt_iff.1 (by simpa using h4)
      rw [h4, Bool.true_and] at hp
      conv => whnf
      repeat (first | (refine Conf.mk (by kernel_rfl) ?_; conv => whnf) | (refine SeqOk.go ?_; conv => whnf))
      exact Into.mono (Into.to [0] [(5, dInt (i + 1 : Nat)), (0, .dat (.list (l.map Entry'.enc))), (3, .ptr 0 0)] [(0, .vars 35 5 [dInt e.id.r, dInt e.id.n, dInt e.colors, .dat (.str e.text), .dat (.list (e.links.map Id.enc))] true)] (by repeat (first | exact trivial | refine ⟨.same (congrArg dInt (wrap_up (by omega))), ?_⟩ | refine ⟨.same rfl, ?_⟩ | refine ⟨.any _, ?_⟩)) ⟨⟨rfl, rfl, rfl, .same rfl, rfl, .same rfl, rfl, .same rfl, rfl, .same rfl, rfl, .same rfl, rfl, trivial⟩, trivial⟩ rfl rfl) fun s' h => ⟨m - 1, by omega, i + 1, by omega, hp, h⟩
  · have hi := ge_of_len h3
    rw [List.drop_eq_nil_of_le hi] at hp
    conv => whnf
    repeat (first | (refine Conf.mk (by kernel_rfl) ?_; conv => whnf) | (refine SeqOk.go ?_; conv => whnf))
    subst hQ1
    conv => whnf
    repeat (first | (refine Conf.mk (by kernel_rfl) ?_; conv => whnf) | (refine SeqOk.go ?_; conv => whnf))
    refine .data _ _ (countOf_ok l (by omega) hr) rfl ?_
    conv => whnf
    repeat (first | (refine Conf.mk (by kernel_rfl) ?_; conv => whnf) | (refine SeqOk.go ?_; conv => whnf))
    rcases hreg with h1 | h1
    · refine .mk 0 h1 (by decide) ?_
      conv => whnf
      repeat (first | (refine Conf.mk (by kernel_rfl) ?_; conv => whnf) | (refine SeqOk.go ?_; conv => whnf))
      refine Ret.bool ?_
      unfold readyP
      rw [hp, h1, wrap_id (by omega) (by omega), List.all_nil, Bool.and_true, Bool.eq_iff_iff]
      simp
      omega
    · refine .mk 1 h1 (by decide) ?_
      conv => whnf
      repeat (first | (refine Conf.mk (by kernel_rfl) ?_; conv => whnf) | (refine SeqOk.go ?_; conv => whnf))
      refine Ret.bool ?_
      unfold readyP
      rw [hp, h1, wrap_id (by omega) (by omega), List.all_nil, Bool.and_true, Bool.eq_iff_iff]
      simp
      omega
set_option maxHeartbeats 0 in
theorem checkSite_ok (s : Site') (hs : SiteOk s) : PCall Try.prog 22 [s.arg] (dInt (siteErr s)) := by
  have hwl := hs.waits.len
  have hrg := between_ok s.region 0 1
  refine pcall_intro tab_all tab_mixed Try.func22 (by kernel_rfl) Try.ntmps22 rfl ?_
  conv => whnf
  by_cases h0 : s.region = 0 ∨ s.region = 1
  · rw [show (decide (0 ≤ s.region) && decide (s.region ≤ 1)) = true by simp; omega] at hrg
    refine .data _ _ hrg.kb rfl ?_
    conv => whnf
    repeat (first | (refine Conf.mk (by kernel_rfl) ?_; conv => whnf) | (refine SeqOk.go ?_; conv => whnf))
    refine .data _ _ (checkLog_ok s.log hs.log) rfl ?_
    conv => whnf
    repeat (first | (refine Conf.mk (by kernel_rfl) ?_; conv => whnf) | (refine SeqOk.go ?_; conv => whnf))
    refine ⟨fun h1 => ?_, fun h1 => ?_⟩
    · have h1 : logErr s.log ≠ 0 := by simpa using h1
      conv => whnf
      repeat (first | (refine Conf.mk (by kernel_rfl) ?_; conv => whnf) | (refine SeqOk.go ?_; conv => whnf))
      exact Ret.int (by unfold siteErr; rw [if_neg (by omega), if_pos h1])
    · have h1 : logErr s.log = 0 := by simpa using h1
      have hr := right_iff.1 h1
      have hll := hr.len
      conv => whnf
      repeat (first | (refine Conf.mk (by kernel_rfl) ?_; conv => whnf) | (refine SeqOk.go ?_; conv => whnf))
      refine ⟨fun h2 => ?_, fun h2 => ?_⟩
      · have h2 : 20 < s.waits.length := by simp at h2; omega
        conv => whnf
        repeat (first | (refine Conf.mk (by kernel_rfl) ?_; conv => whnf) | (refine SeqOk.go ?_; conv => whnf))
        exact Ret.int (by unfold siteErr; rw [if_neg (by omega), if_neg (by simp [h1]), if_pos h2])
      · have h2 : ¬ 20 < s.waits.length := by simp at h2; omega
        have he : siteErr s = waitsFrom s 0 s.waits := by unfold siteErr; rw [if_neg (by omega), if_neg (by simp [h1]), if_neg h2]
        conv => whnf
        repeat (first | (refine Conf.mk (by kernel_rfl) ?_; conv => whnf) | (refine SeqOk.go ?_; conv => whnf))
        refine LoopOk.hide fun Q1 hQ1 => ?_
        refine LoopOk.mk (fun m t => ∃ i, i + m = s.waits.length ∧ siteErr s = waitsFrom s i (s.waits.drop i) ∧ t = ⟨[(4, dInt i), (1, .ptr 0 0)], 1, [(0, .vars 41 3 [dInt s.region, .dat (.list (s.log.map Entry'.enc)), .dat (.list (s.waits.map Entry'.enc))] true)]⟩) s.waits.length (Into.mono (Into.to [0] [(4, dInt (0 : Nat)), (1, .ptr 0 0)] [(0, .vars 41 3 [dInt s.region, .dat (.list (s.log.map Entry'.enc)), .dat (.list (s.waits.map Entry'.enc))] true)] (by repeat (first | exact trivial | refine ⟨.same (congrArg dInt (wrap_up (by omega))), ?_⟩ | refine ⟨.same rfl, ?_⟩ | refine ⟨.any _, ?_⟩)) ⟨⟨rfl, rfl, rfl, .same rfl, rfl, .same rfl, rfl, .same rfl, rfl, trivial⟩, trivial⟩ rfl rfl) fun s' h => ⟨0, by omega, he, h⟩) ?_
        rintro m t ⟨i, him, hp, rfl⟩
        conv => whnf
        repeat (first | (refine Conf.mk (by kernel_rfl) ?_; conv => whnf) | (refine SeqOk.go ?_; conv => whnf))
        refine ⟨fun h3 => ?_, fun h3 => ?_⟩
        · have hi := lt_of_len h3
          have hlk := hs.waits.links _ (List.getElem_mem hi)
          conv => whnf
          repeat (first | (refine Conf.mk (by kernel_rfl) ?_; conv => whnf) | (refine SeqOk.go ?_; conv => whnf))
          refine AtIdx.ofMap hi rfl ?_
          conv => whnf
          repeat (first | (refine Conf.mk (by kernel_rfl) ?_; conv => whnf) | (refine SeqOk.go ?_; conv => whnf))
          refine .data _ _ (checkEntry_ok s.waits[i] hlk) rfl ?_
          conv => whnf
          repeat (first | (refine Conf.mk (by kernel_rfl) ?_; conv => whnf) | (refine SeqOk.go ?_; conv => whnf))
          refine ⟨fun h4 => ?_, fun h4 => ?_⟩
          · have h4 : s.waits[i].err ≠ 0 := by simpa using h4
            have hw : waitErr s i s.waits[i] = s.waits[i].err := by unfold waitErr; rw [if_pos h4]
            conv => whnf
            repeat (first | (refine Conf.mk (by kernel_rfl) ?_; conv => whnf) | (refine SeqOk.go ?_; conv => whnf))
            subst hQ1
            conv => whnf
            exact Ret.int (by rw [hp, waits_wrong hi (by rw [hw]; exact h4), hw])
          · have h4 : s.waits[i].err = 0 := by simpa using h4
            have hwe : waitErr s i s.waits[i] = if (badAhead s i s.waits[i] || (decide (s.waits[i].id.r = s.region) || (s.log.any (isThe s.waits[i].id) || readyP s.log s.waits[i]))) = true then 4 else 0 := by unfold waitErr; rw [if_neg (by simp [h4])]
            have hlinks := (six_of h4).2
            have hreg := r_of_ok (ok_of_err h4)
            by_cases h5 : 0 < i
            · refine BoolCase.yes (by simpa using h5) ?_
              have hi1 : i - 1 < s.waits.length := by omega
              have hpv : s.waits[i - 1]? = some s.waits[i - 1] := List.getElem?_eq_getElem hi1
              have hba : badAhead s i s.waits[i] = !s.waits[i - 1].id.less s.waits[i].id := by unfold badAhead; rw [hpv, decide_eq_true h5]; rfl
              conv => whnf
              repeat (first | (refine Conf.mk (by kernel_rfl) ?_; conv => whnf) | (refine SeqOk.go ?_; conv => whnf))
              refine AtIdx.ofMap' (i - 1) (wrap_down h5 (by omega)) hi1 rfl ?_
              conv => whnf
              repeat (first | (refine Conf.mk (by kernel_rfl) ?_; conv => whnf) | (refine SeqOk.go ?_; conv => whnf))
              refine .data _ _ (isAhead_ok s.waits[i - 1].id s.waits[i].id) rfl ?_
              conv => whnf
              repeat (first | (refine Conf.mk (by kernel_rfl) ?_; conv => whnf) | (refine SeqOk.go ?_; conv => whnf))
              refine ⟨fun h2 => ?_, fun h2 => ?_⟩
              · have h2 : (!s.waits[i - 1].id.less s.waits[i].id) = true := h2
                have hw : waitErr s i s.waits[i] = 4 := by rw [hwe, hba, h2]; rfl
                conv => whnf
                repeat (first | (refine Conf.mk (by kernel_rfl) ?_; conv => whnf) | (refine SeqOk.go ?_; conv => whnf))
                subst hQ1
                conv => whnf
                exact Ret.int (by rw [hp, waits_wrong hi (by rw [hw]; decide), hw])
              · have h2 : (!s.waits[i - 1].id.less s.waits[i].id) = false := h2
                have hb : badAhead s i s.waits[i] = false := by rw [hba, h2]
                conv => whnf
                repeat (first | (refine Conf.mk (by kernel_rfl) ?_; conv => whnf) | (refine SeqOk.go ?_; conv => whnf))
                refine ⟨fun h6 => ?_, fun h6 => ?_⟩
                · have h6 : s.waits[i].id.r = s.region := by simpa using h6
                  have hw : waitErr s i s.waits[i] = 4 := by rw [hwe, hb, decide_eq_true h6]; rfl
                  conv => whnf
                  repeat (first | (refine Conf.mk (by kernel_rfl) ?_; conv => whnf) | (refine SeqOk.go ?_; conv => whnf))
                  subst hQ1
                  conv => whnf
                  exact Ret.int (by rw [hp, waits_wrong hi (by rw [hw]; decide), hw])
                · have h6 : s.waits[i].id.r ≠ s.region := by simpa using h6
                  conv => whnf
                  repeat (first | (refine Conf.mk (by kernel_rfl) ?_; conv => whnf) | (refine SeqOk.go ?_; conv => whnf))
                  refine .data _ _ (entryAt_ok s.waits[i].id s.log (by omega)) rfl ?_
                  conv => whnf
                  repeat (first | (refine Conf.mk (by kernel_rfl) ?_; conv => whnf) | (refine SeqOk.go ?_; conv => whnf))
                  refine ⟨fun h7 => ?_, fun h7 => ?_⟩
                  · have h7 : s.log.any (isThe s.waits[i].id) = true := entryAt_iff.1 (by simpa using h7)
                    have hw : waitErr s i s.waits[i] = 4 := by rw [hwe, hb, decide_eq_false h6, h7]; rfl
                    conv => whnf
                    repeat (first | (refine Conf.mk (by kernel_rfl) ?_; conv => whnf) | (refine SeqOk.go ?_; conv => whnf))
                    subst hQ1
                    conv => whnf
                    exact Ret.int (by rw [hp, waits_wrong hi (by rw [hw]; decide), hw])
                  · have h7 : s.log.any (isThe s.waits[i].id) = false := by
                      rw [Bool.eq_false_iff]
                      intro k
                      have := entryAt_iff.2 k
                      simp at h7
                      omega
                    conv => whnf
                    repeat (first | (refine Conf.mk (by kernel_rfl) ?_; conv => whnf) | (refine SeqOk.go ?_; conv => whnf))
                    refine .data _ _ (refReady_ok s.log hll hr.regs s.waits[i] (by omega) hreg) rfl ?_
                    conv => whnf
                    repeat (first | (refine Conf.mk (by kernel_rfl) ?_; conv => whnf) | (refine SeqOk.go ?_; conv => whnf))
                    refine ⟨fun h8 => ?_, fun h8 => ?_⟩
                    · have h8 : readyP s.log s.waits[i] = true := h8
                      have hw : waitErr s i s.waits[i] = 4 := by rw [hwe, hb, decide_eq_false h6, h7, h8]; rfl
                      conv => whnf
                      repeat (first | (refine Conf.mk (by kernel_rfl) ?_; conv => whnf) | (refine SeqOk.go ?_; conv => whnf))
                      subst hQ1
                      conv => whnf
                      exact Ret.int (by rw [hp, waits_wrong hi (by rw [hw]; decide), hw])
                    · have h8 : readyP s.log s.waits[i] = false := h8
                      have hw : waitErr s i s.waits[i] = 0 := by rw [hwe, hb, decide_eq_false h6, h7, h8]; rfl
                      rw [waits_right hi hw] at hp
                      conv => whnf
                      repeat (first | (refine Conf.mk (by kernel_rfl) ?_; conv => whnf) | (refine SeqOk.go ?_; conv => whnf))
                      exact Into.mono (Into.to [0] [(4, dInt (i + 1 : Nat)), (1, .ptr 0 0)] [(0, .vars 41 3 [dInt s.region, .dat (.list (s.log.map Entry'.enc)), .dat (.list (s.waits.map Entry'.enc))] true)] (by repeat (first | exact trivial | refine ⟨.same (congrArg dInt (wrap_up (by omega))), ?_⟩ | refine ⟨.same rfl, ?_⟩ | refine ⟨.any _, ?_⟩)) ⟨⟨rfl, rfl, rfl, .same rfl, rfl, .same rfl, rfl, .same rfl, rfl, trivial⟩, trivial⟩ rfl rfl) fun s' h => ⟨m - 1, by omega, i + 1, by omega, hp, h⟩
            · have hb : badAhead s i s.waits[i] = false := by unfold badAhead; rw [decide_eq_false h5]; rfl
              refine BoolCase.no (by simpa using h5) ?_
              conv => whnf
              repeat (first | (refine Conf.mk (by kernel_rfl) ?_; conv => whnf) | (refine SeqOk.go ?_; conv => whnf))
              refine ⟨fun h6 => ?_, fun h6 => ?_⟩
              · have h6 : s.waits[i].id.r = s.region := by simpa using h6
                have hw : waitErr s i s.waits[i] = 4 := by rw [hwe, hb, decide_eq_true h6]; rfl
                conv => whnf
                repeat (first | (refine Conf.mk (by kernel_rfl) ?_; conv => whnf) | (refine SeqOk.go ?_; conv => whnf))
                subst hQ1
                conv => whnf
                exact Ret.int (by rw [hp, waits_wrong hi (by rw [hw]; decide), hw])
              · have h6 : s.waits[i].id.r ≠ s.region := by simpa using h6
                conv => whnf
                repeat (first | (refine Conf.mk (by kernel_rfl) ?_; conv => whnf) | (refine SeqOk.go ?_; conv => whnf))
                refine .data _ _ (entryAt_ok s.waits[i].id s.log (by omega)) rfl ?_
                conv => whnf
                repeat (first | (refine Conf.mk (by kernel_rfl) ?_; conv => whnf) | (refine SeqOk.go ?_; conv => whnf))
                refine ⟨fun h7 => ?_, fun h7 => ?_⟩
                · have h7 : s.log.any (isThe s.waits[i].id) = true := entryAt_iff.1 (by simpa using h7)
                  have hw : waitErr s i s.waits[i] = 4 := by rw [hwe, hb, decide_eq_false h6, h7]; rfl
                  conv => whnf
                  repeat (first | (refine Conf.mk (by kernel_rfl) ?_; conv => whnf) | (refine SeqOk.go ?_; conv => whnf))
                  subst hQ1
                  conv => whnf
                  exact Ret.int (by rw [hp, waits_wrong hi (by rw [hw]; decide), hw])
                · have h7 : s.log.any (isThe s.waits[i].id) = false := by
                    rw [Bool.eq_false_iff]
                    intro k
                    have := entryAt_iff.2 k
                    simp at h7
                    omega
                  conv => whnf
                  repeat (first | (refine Conf.mk (by kernel_rfl) ?_; conv => whnf) | (refine SeqOk.go ?_; conv => whnf))
                  refine .data _ _ (refReady_ok s.log hll hr.regs s.waits[i] (by omega) hreg) rfl ?_
                  conv => whnf
                  repeat (first | (refine Conf.mk (by kernel_rfl) ?_; conv => whnf) | (refine SeqOk.go ?_; conv => whnf))
                  refine ⟨fun h8 => ?_, fun h8 => ?_⟩
                  · have h8 : readyP s.log s.waits[i] = true := h8
                    have hw : waitErr s i s.waits[i] = 4 := by rw [hwe, hb, decide_eq_false h6, h7, h8]; rfl
                    conv => whnf
                    repeat (first | (refine Conf.mk (by kernel_rfl) ?_; conv => whnf) | (refine SeqOk.go ?_; conv => whnf))
                    subst hQ1
                    conv => whnf
                    exact Ret.int (by rw [hp, waits_wrong hi (by rw [hw]; decide), hw])
                  · have h8 : readyP s.log s.waits[i] = false := h8
                    have hw : waitErr s i s.waits[i] = 0 := by rw [hwe, hb, decide_eq_false h6, h7, h8]; rfl
                    rw [waits_right hi hw] at hp
                    conv => whnf
                    repeat (first | (refine Conf.mk (by kernel_rfl) ?_; conv => whnf) | (refine SeqOk.go ?_; conv => whnf))
                    exact Into.mono (Into.to [0] [(4, dInt (i + 1 : Nat)), (1, .ptr 0 0)] [(0, .vars 41 3 [dInt s.region, .dat (.list (s.log.map Entry'.enc)), .dat (.list (s.waits.map Entry'.enc))] true)] (by repeat (first | exact trivial | refine ⟨.same (congrArg dInt (wrap_up (by omega))), ?_⟩ | refine ⟨.same rfl, ?_⟩ | refine ⟨.any _, ?_⟩)) ⟨⟨rfl, rfl, rfl, .same rfl, rfl, .same rfl, rfl, .same rfl, rfl, trivial⟩, trivial⟩ rfl rfl) fun s' h => ⟨m - 1, by omega, i + 1, by omega, hp, h⟩
        · have hi := ge_of_len h3
          conv => whnf
          repeat (first | (refine Conf.mk (by kernel_rfl) ?_; conv => whnf) | (refine SeqOk.go ?_; conv => whnf))
          subst hQ1
          conv => whnf
          exact Ret.int (by rw [hp, List.drop_eq_nil_of_le hi]; rfl)
  · rw [show (decide (0 ≤ s.region) && decide (s.region ≤ 1)) = false by rw [Bool.eq_false_iff]; simp; omega] at hrg
    refine .data _ _ hrg.kb rfl ?_
    conv => whnf
    repeat (first | (refine Conf.mk (by kernel_rfl) ?_; conv => whnf) | (refine SeqOk.go ?_; conv => whnf))
    exact Ret.int (by unfold siteErr; rw [if_pos (by omega)])
end Go.Proofs.Ytlioojekjnigiad.AM
/- Sites: a new one, copies of one's own; is it what it must be? -/
namespace Go.Proofs.Ytlioojekjnigiad.AM
set_option linter.unusedVariables false
set_option linter.unusedSimpArgs false
def newSite (r : Int) : Site' := if r = 0 ∨ r = 1 then ⟨r, [], []⟩ else ⟨0, [], []⟩
def newErr (r : Int) : Int := if r = 0 ∨ r = 1 then 0 else 3
set_option maxHeartbeats 0 in
theorem siteNew_ok (r : Int) : PCall Try.prog 20 [dInt r] (.tup [(newSite r).arg, dInt (newErr r)]) := by
  have hrg := siteRegion_ok r
  refine pcall_intro tab_all tab_mixed Try.func20 (by kernel_rfl) Try.ntmps20 rfl ?_
  conv => whnf
  by_cases h0 : r = 0 ∨ r = 1
  · rw [show (decide (r = 0) || decide (r = 1)) = true by simpa using h0] at hrg
    refine .data _ _ hrg.kb rfl ?_
    conv => whnf
    repeat (first | (refine Conf.mk (by kernel_rfl) ?_; conv => whnf) | (refine SeqOk.go ?_; conv => whnf))
    exact Ret.to (by unfold newSite newErr; rw [if_pos h0, if_pos h0]; rfl)
  · rw [show (decide (r = 0) || decide (r = 1)) = false by simpa using h0] at hrg
    refine .data _ _ hrg.kb rfl ?_
    conv => whnf
    repeat (first | (refine Conf.mk (by kernel_rfl) ?_; conv => whnf) | (refine SeqOk.go ?_; conv => whnf))
    exact Ret.to (by unfold newSite newErr; rw [if_neg h0, if_neg h0]; rfl)
set_option maxHeartbeats 0 in
theorem copyEntry_ok (e : Entry') (he : e.links.length ≤ 1000) : PCall Try.prog 79 [e.arg] e.arg := by
  refine pcall_intro tab_all tab_mixed Try.func79 (by kernel_rfl) Try.ntmps79 rfl ?_
  conv => whnf
  refine ⟨by simp [Id.enc], by simp; omega, ?_⟩
  conv => whnf
  repeat (first | (refine Conf.mk (by kernel_rfl) ?_; conv => whnf) | (refine SeqOk.go ?_; conv => whnf))
  exact Ret.to rfl
set_option maxHeartbeats 0 in
theorem copyAll_ok (l : List Entry') (hk : ∀ e ∈ l, e.links.length ≤ 1000) (hn : l.length ≤ 1000) : ECall Try.prog 76 [.dat (.list (l.map Entry'.enc))] [] 0 (.row 0) [(0, .rows 35 5 (l.map Entry'.enc) true)] 1 := by
  refine acall_cut tab_all tab_mixed Try.func76 (by kernel_rfl) Try.ntmps76 rfl ?_
  conv => whnf
  conv => whnf
  repeat (first | (refine Conf.mk (by kernel_rfl) ?_; conv => whnf) | (refine SeqOk.go ?_; conv => whnf))
  refine LoopOk.hide fun Q1 hQ1 => ?_
  refine LoopOk.mk (fun m s => ∃ k, k + m = l.length ∧ s = ⟨[(8, dInt k), (7, dInt (l.map Entry'.enc).length), (6, .dat (.list (l.map Entry'.enc))), (3, .row 0)], 1, [(0, .rows 35 5 ((l.take k).map Entry'.enc) true)]⟩) l.length ((Into.row 3 35 5 rfl).trans fun s' hs' => by
    subst hs'
    exact Into.mono (Into.to [0] [(8, dInt (0 : Nat)), (7, dInt (l.map Entry'.enc).length), (6, .dat (.list (l.map Entry'.enc))), (3, .row 0)] [(0, .rows 35 5 ((l.take 0).map Entry'.enc) true)] (by repeat (first | exact trivial | refine ⟨.same (congrArg dInt (wrap_up (by omega))), ?_⟩ | refine ⟨.same rfl, ?_⟩ | refine ⟨.any _, ?_⟩)) ⟨⟨rfl, rfl, rfl, rfl⟩, trivial⟩ rfl rfl) fun s' h => ⟨0, by omega, h⟩) ?_
  rintro m s ⟨k, hkm, rfl⟩
  conv => whnf
  repeat (first | (refine Conf.mk (by kernel_rfl) ?_; conv => whnf) | (refine SeqOk.go ?_; conv => whnf))
  refine ⟨fun h => ?_, fun h => ?_⟩
  · have hk' := lt_of_len h
    have hrow : (l.take (k + 1)).map Entry'.enc = (l.take k).map Entry'.enc ++ [l[k].enc] := by rw [take_snoc hk', List.map_append]; rfl
    conv => whnf
    repeat (first | (refine Conf.mk (by kernel_rfl) ?_; conv => whnf) | (refine SeqOk.go ?_; conv => whnf))
    refine AtIdx.ofMap hk' rfl ?_
    conv => whnf
    repeat (first | (refine Conf.mk (by kernel_rfl) ?_; conv => whnf) | (refine SeqOk.go ?_; conv => whnf))
    refine .data _ _ (copyEntry_ok l[k] (hk _ (List.getElem_mem hk'))) rfl ?_
    conv => whnf
    repeat (first | (refine Conf.mk (by kernel_rfl) ?_; conv => whnf) | (refine SeqOk.go ?_; conv => whnf))
    refine ⟨by simp [Entry'.enc], by simp; omega, ?_⟩
    conv => whnf
    repeat (first | (refine Conf.mk (by kernel_rfl) ?_; conv => whnf) | (refine SeqOk.go ?_; conv => whnf))
    refine Into.mono (Into.to [3] [(8, dInt (k + 1 : Nat)), (7, dInt (l.map Entry'.enc).length), (6, .dat (.list (l.map Entry'.enc))), (3, .row 0)] [(0, .rows 35 5 ((l.take (k + 1)).map Entry'.enc) true)] (by repeat (first | exact trivial | refine ⟨.same (congrArg dInt (wrap_up (by omega))), ?_⟩ | refine ⟨.same rfl, ?_⟩ | refine ⟨.any _, ?_⟩)) ⟨⟨rfl, rfl, rfl, ?_⟩, trivial⟩ rfl rfl) fun s' h => ⟨m - 1, by omega, k + 1, by omega, h⟩
    rw [hrow]
    rfl
  · have hk' : k = l.length := by have := ge_of_len h; omega
    subst hk'
    conv => whnf
    repeat (first | (refine Conf.mk (by kernel_rfl) ?_; conv => whnf) | (refine SeqOk.go ?_; conv => whnf))
    subst hQ1
    conv => whnf
    exact .mk [] [0] (.row 0) [(0, .rows 35 5 (l.map Entry'.enc) true)] rfl (.same rfl) ⟨⟨rfl, rfl, rfl, by rw [List.take_length]⟩, trivial⟩ rfl rfl ⟨rfl, rfl, rfl⟩
set_option maxHeartbeats 0 in
theorem copyOf_ok (s : Site') (h1 : ∀ e ∈ s.log, e.links.length ≤ 1000) (h2 : s.log.length ≤ 1000) (h3 : ∀ e ∈ s.waits, e.links.length ≤ 1000) (h4 : s.waits.length ≤ 1000) : ECall Try.prog 47 [s.arg] [] 0 (.agg [dInt s.region, .row 0, .row 1]) [(0, .rows 35 5 (s.log.map Entry'.enc) true), (1, .rows 35 5 (s.waits.map Entry'.enc) true)] 2 := by
  refine acall_cut tab_all tab_mixed Try.func47 (by kernel_rfl) Try.ntmps47 rfl ?_
  conv => whnf
  conv => whnf
  repeat (first | (refine Conf.mk (by kernel_rfl) ?_; conv => whnf) | (refine SeqOk.go ?_; conv => whnf))
  refine .eff [] _ _ _ _ 1 (copyAll_ok s.log h1 h2) rfl rfl rfl rfl rfl ?_
  conv => whnf
  repeat (first | (refine Conf.mk (by kernel_rfl) ?_; conv => whnf) | (refine SeqOk.go ?_; conv => whnf))
  refine .eff [] _ _ _ _ 1 (copyAll_ok s.waits h3 h4) rfl rfl rfl rfl rfl ?_
  conv => whnf
  repeat (first | (refine Conf.mk (by kernel_rfl) ?_; conv => whnf) | (refine SeqOk.go ?_; conv => whnf))
  exact .mk [] [2, 3] (.agg [dInt s.region, .row 0, .row 1]) [(0, .rows 35 5 (s.log.map Entry'.enc) true), (1, .rows 35 5 (s.waits.map Entry'.enc) true)] rfl (.same rfl) ⟨⟨rfl, rfl, rfl, rfl⟩, ⟨rfl, rfl, rfl, rfl⟩, trivial⟩ rfl rfl ⟨rfl, rfl, rfl⟩
set_option maxHeartbeats 0 in
theorem siteIs_ok (s want : Site') (e w : Int) (hs : SiteOk s) : PCall Try.prog 27 [s.arg, dInt e, dInt w, want.arg] (dBool (e == w && sameS s (if w = 0 then want else ⟨0, [], []⟩))) := by
  refine pcall_intro tab_all tab_mixed Try.func27 (by kernel_rfl) Try.ntmps27 rfl ?_
  conv => whnf
  refine ⟨fun h1 => ?_, fun h1 => ?_⟩
  · have h1 : w ≠ 0 := by simpa using h1
    conv => whnf
    repeat (first | (refine Conf.mk (by kernel_rfl) ?_; conv => whnf) | (refine SeqOk.go ?_; conv => whnf))
    refine ⟨fun h2 => ?_, fun h2 => ?_⟩
    · have h2 : (e == w) = true := h2
      conv => whnf
      repeat (first | (refine Conf.mk (by kernel_rfl) ?_; conv => whnf) | (refine SeqOk.go ?_; conv => whnf))
      refine .data _ _ (sameSite_ok s ⟨0, [], []⟩ hs) rfl ?_
      conv => whnf
      repeat (first | (refine Conf.mk (by kernel_rfl) ?_; conv => whnf) | (refine SeqOk.go ?_; conv => whnf))
      exact Ret.bool (by rw [h2, if_neg h1, Bool.true_and])
    · have h2 : (e == w) = false := h2
      conv => whnf
      repeat (first | (refine Conf.mk (by kernel_rfl) ?_; conv => whnf) | (refine SeqOk.go ?_; conv => whnf))
      exact Ret.bool (by rw [h2]; rfl)
  · have h1 : w = 0 := by simpa using h1
    conv => whnf
    repeat (first | (refine Conf.mk (by kernel_rfl) ?_; conv => whnf) | (refine SeqOk.go ?_; conv => whnf))
    refine ⟨fun h2 => ?_, fun h2 => ?_⟩
    · have h2 : (e == w) = true := h2
      conv => whnf
      repeat (first | (refine Conf.mk (by kernel_rfl) ?_; conv => whnf) | (refine SeqOk.go ?_; conv => whnf))
      refine .data _ _ (sameSite_ok s want hs) rfl ?_
      conv => whnf
      repeat (first | (refine Conf.mk (by kernel_rfl) ?_; conv => whnf) | (refine SeqOk.go ?_; conv => whnf))
      exact Ret.bool (by rw [h2, if_pos h1, Bool.true_and])
    · have h2 : (e == w) = false := h2
      conv => whnf
      repeat (first | (refine Conf.mk (by kernel_rfl) ?_; conv => whnf) | (refine SeqOk.go ?_; conv => whnf))
      exact Ret.bool (by rw [h2]; rfl)
end Go.Proofs.Ytlioojekjnigiad.AM
/- Orders: what is begun, and how it goes on, as the document says. -/
namespace Go.Proofs.Ytlioojekjnigiad.AM
set_option linter.unusedVariables false
set_option linter.unusedSimpArgs false
def begunErr (l : List Entry') (c : Int) (ids : List Id) : Int := if idsErr l ids = 0 then (if c < 1 ∨ 7 < c then 3 else if begunOk l c ids = true then 0 else 4) else idsErr l ids
theorem begunErr_ok {l : List Entry'} {c : Int} {ids : List Id} (h : begunErr l c ids = 0) : idsErr l ids = 0 ∧ (1 ≤ c ∧ c ≤ 7) ∧ begunOk l c ids = true := by
  unfold begunErr at h
  split at h
  · rename_i h1
    split at h
    · simp at h
    · split at h
      · rename_i h2 h3; exact ⟨h1, by omega, h3⟩
      · simp at h
  · rename_i h1; exact absurd h h1
theorem between_ok' (n a b : Int) : PCall Try.prog 55 [dInt n, dInt a, dInt b] (dBool (decide (a ≤ n) && decide (n ≤ b))) := between_ok n a b
/-- What may be next. -/
def cand (l : List Entry') (c : Int) (out : List Id) (x : Id) : Bool := colored l c x && mayP l c out x
theorem nextOf_eq (l : List Entry') (c : Int) (out : List Id) : nextOf l c out = allIds.find? (cand l c out) := by
  unfold nextOf colIds
  rw [List.find?_filter]
  congr 1
  funext x
  unfold cand
  rw [Bool.eq_iff_iff]
  simp
theorem find_at {p : Id → Bool} {k : Nat} {x : Id} (hn : ∀ y ∈ allIds.take k, p y = false) (hx : allIds[k]? = some x) (hp : p x = true) : allIds.find? p = some x := by
  obtain ⟨hk, hxe⟩ := List.getElem?_eq_some_iff.1 hx
  have : allIds = allIds.take k ++ x :: allIds.drop (k + 1) := by rw [← hxe, ← List.drop_eq_getElem_cons hk, List.take_append_drop]
  rw [this, List.find?_append, List.find?_eq_none.2 fun y hy => by rw [hn y hy]; simp, List.find?_cons, hp]
  rfl
theorem take_more {p : Id → Bool} {k : Nat} {x : Id} (hn : ∀ y ∈ allIds.take k, p y = false) (hx : allIds[k]? = some x) (hp : p x = false) : ∀ y ∈ allIds.take (k + 1), p y = false := fun y hy => by
  rw [List.take_add_one, hx] at hy
  rcases List.mem_append.1 hy with hy | hy
  · exact hn y hy
  · have : y = x := by simpa using hy
    rw [this]; exact hp
/-- How far one has looked for who is next. -/
def Seek (l : List Entry') (c : Int) (out : List Id) (k : Nat) (mo : Bool) (out' : List Id) : Prop :=
  (mo = false ∧ out = out' ∧ ∀ x ∈ allIds.take k, cand l c out x = false) ∨ (mo = true ∧ ∃ x, nextOf l c out = some x ∧ out' = out ++ [x])
end Go.Proofs.Ytlioojekjnigiad.AM
/- What the walks lean on: worlds that only grow, blocks, rows, and regions whose order is left open. -/
namespace Go.Proofs.Ytlioojekjnigiad
open Go.RowKit

/-- The world has grown: all that was there is as it was. -/
def Grow (w w' : World) : Prop := Below w.heap.size w w'
theorem Grow.refl (w : World) : Grow w w := Below.refl _ _
theorem Grow.size {w w' : World} (h : Grow w w') : w.heap.size ≤ w'.heap.size := Below.size h
theorem Grow.trans {a b c : World} (h : Grow a b) (k : Grow b c) : Grow a c := Below.trans h (Below.mono k (Below.size h))
theorem Grow.drew {a b : World} (h : Grow a b) : Grow a b.drew := Below.drew h
theorem Grow.drewN {a b : World} (h : Grow a b) (n : Nat) : Grow a (b.drewN n) := Below.trans h ⟨rfl, rfl, rfl, Nat.le_refl _, fun _ _ => rfl⟩
theorem Grow.alloc {a b : World} (h : Grow a b) (o : Obj) : Grow a (b.alloc o) := Below.alloc h (Below.size h) o
theorem Grow.setCell {a b : World} (h : Grow a b) {p : Addr} (hp : a.heap.size ≤ p.block) (u : Value) : Grow a (b.setCell p u) := Below.setCell h hp u
theorem cell_lt {w : World} {a : Addr} {v : Value} (h : w.cell? a = some v) : a.block < w.heap.size := World.block_lt_of_cell? w a h
theorem cell_grow {w w' : World} {a : Addr} {v : Value} (hb : Grow w w') (h : w.cell? a = some v) : w'.cell? a = some v :=
  (Below.cell hb (p := a) (cell_lt h)).trans h
theorem frozen_grow {w w' : World} {a : Addr} {v : Value} (hb : Grow w w') (h : w.cell? a = some v) : w'.frozen? a = w.frozen? a :=
  Below.frozen hb (p := a) (cell_lt h)

theorem block_grown {w w1 : World} {row : Option Nat} {b : Nat} {o o' : Obj} (hg : (w.alloc o').grownBy w1 row) (hne : some b ≠ row) (h : w.heap[b]? = some o) : w1.heap[b]? = some o := by
  have hlt := lt_of_block h
  rw [hg.block b (by simp; omega) hne, Below.heap_alloc _ _ _ hlt, h]
theorem cell_grown {w w1 : World} {row : Option Nat} {a : Addr} {v : Value} {o' : Obj} (hg : (w.alloc o').grownBy w1 row) (hne : some a.block ≠ row) (h : w.cell? a = some v) : w1.cell? a = some v := by
  have hlt := cell_lt h
  have e : w1.heap[a.block]? = w.heap[a.block]? := by rw [hg.block a.block (by simp; omega) hne, Below.heap_alloc _ _ _ hlt]
  exact (World.cell?_of_block (w := w) e).trans h
theorem own_ne {w : World} {base : Nat} {e : TypeId} {size : Nat} {v : Value} {n : Nat} {xs : List Value} (h : w.ownsRow base e size v n xs) {b : Nat} (hb : b < base) : some b ≠ v.ownBlock := by
  intro he
  have := (h.lt b he.symm).1
  omega
theorem cell_of_block {w : World} {b o : Nat} {cs : Array Value} {t : TypeId} {v : Value} (h : w.heap[b]? = some (.cells cs t (0, 0))) (hv : cs[o]? = some v) : w.cell? ⟨b, o, none⟩ = some v := by simp [World.cell?, h, hv]
theorem free_of_block {w : World} {b : Nat} {cs : Array Value} {t : TypeId} (h : w.heap[b]? = some (.cells cs t (0, 0))) (o : Nat) : w.frozen? ⟨b, o, none⟩ = false := by simp [World.frozen?, h]
/-- What the reader panics with. -/
theorem block_set {w : World} {b o : Nat} {cs : Array Value} {t : TypeId} {v : Value} (h : w.heap[b]? = some (.cells cs t (0, 0))) : (w.setCell ⟨b, o, none⟩ v).heap[b]? = some (.cells (cs.setIfInBounds o v) t (0, 0)) := by
  have hlt := lt_of_block h
  have h' : w.heap[b] = .cells cs t (0, 0) := by simpa [Array.getElem?_eq_getElem hlt] using h
  show (w.heap.modify b _)[b]? = _
  rw [Array.getElem?_eq_getElem (by simpa using hlt), Array.getElem_modify_self, h']
  rfl
theorem block_far {w : World} {b : Nat} {o : Obj} {a : Addr} {v : Value} (hn : b ≠ a.block) (h : w.heap[b]? = some o) : (w.setCell a v).heap[b]? = some o := (Below.heap_setCell _ _ _ _ hn).trans h

theorem ownsRow_far {w : World} {base : Nat} {e : TypeId} {size : Nat} {v : Value} {n : Nat} {xs : List Value} (h : w.ownsRow base e size v n xs) {p : Addr} (hp : p.block < base) (u : Value) : (w.setCell p u).ownsRow base e size v n xs := by
  obtain ⟨h1, h2⟩ := h
  refine ⟨h1, ?_⟩
  rcases h2 with h2 | ⟨g, cap, cur, hv, hg, hh, r⟩
  · exact .inl h2
  · exact .inr ⟨g, cap, cur, hv, hg, block_far (by omega) hh, r⟩
theorem grow_grown {w w2 w3 : World} {o : Obj} {base : Nat} {e : TypeId} {size : Nat} {v : Value} {n : Nat} {xs : List Value} (h : Grow w w2) (hown : w2.ownsRow base e size v n xs) (hb : w.heap.size ≤ base) (hg : (w2.alloc o).grownBy w3 v.ownBlock) : Grow w w3 :=
  ⟨hg.os.trans h.os, hg.tape.trans h.tape, hg.output.trans h.output, by have := hg.size; have := h.size; simp at *; omega, fun k hk => by
    have := h.size
    rw [hg.block k (by simp; omega) (own_ne hown (by omega)), Below.heap_alloc _ _ _ (by omega)]
    exact h.block k hk⟩
section
variable {P : Program} {ops : Array Oper} {Q : Exit → Act → World → Prop} {md : Region.Mode}

theorem wpAnyH_weaken {S S' : World → Prop} (hS : ∀ w, S w → S' w) : ∀ (fuel : Nat) (listed : Array Bool) (a : Act) (w : World), wpAnyH P md ops Q S fuel listed a w → wpAnyH P md ops Q S' fuel listed a w
  | 0, _, _, _, h => h
  | fuel + 1, _, _, _, h => ⟨h.1, fun i hi => wpOp_mono (fun a' w' h' => ⟨hS _ h'.1, wpAnyH_weaken hS fuel _ a' w' h'.2⟩) (h.2 i hi)⟩

/-- The beginning: no way out by a panic is let. -/
theorem held_start {id : Nat} {a : Act} {w : World} (hm : P.follows .mixedOrders = true)
    (h : wpAnyH P .any ops (NoPanic Q) (Grow w.drew) ops.size (Array.replicate ops.size false) a w.drew) : (Code.region id ops true).wp P Q a w :=
  wp_region_noPanic (wp_region_held hm h)
/-- An operation that only looks is taken first. -/
theorem held_take {i : Nat} {oi : Oper} {v : Value} {fuel : Nat} {listed : Array Bool} {a : Act} {w : World} (hi : ops[i]? = some oi)
    (hs : Region.noSelect ops = true) (hf : Region.free md ops listed i = true) (hr : (Region.ready md ops listed).contains i = true)
    (hw : Region.wanted oi (yielded ops a.tmps) = true) (hy : ∀ w', Grow w w' → (execOp a.eval oi).run P w' = .ok (.value v) w')
    (h : wpAnyH P md ops (NoPanic Q) (Grow w) fuel (listed.setIfInBounds i true) (a.put oi.dst v) w) : wpAnyH P md ops (NoPanic Q) (Grow w) (fuel + 1) listed a w :=
  wpAnyH_take hi hs hf hr (fun _ _ _ h => h) (Or.inl ⟨hw, hy⟩) (Grow.refl w) h
/-- An operation that nobody wants. -/
theorem held_skip {i : Nat} {oi : Oper} {fuel : Nat} {listed : Array Bool} {a : Act} {w : World} (hi : ops[i]? = some oi)
    (hs : Region.noSelect ops = true) (hf : Region.free md ops listed i = true) (hr : (Region.ready md ops listed).contains i = true)
    (hw : Region.wanted oi (yielded ops a.tmps) = false)
    (h : wpAnyH P md ops (NoPanic Q) (Grow w) fuel (listed.setIfInBounds i true) (a.put oi.dst undef) w) : wpAnyH P md ops (NoPanic Q) (Grow w) (fuel + 1) listed a w :=
  wpAnyH_take hi hs hf hr (fun _ _ _ h => h) (Or.inr ⟨hw, rfl⟩) (Grow.refl w) h
/-- An operation that comes up alone, and lets the world grow. -/
theorem held_call {i : Nat} {oi : Oper} {fuel : Nat} {listed : Array Bool} {a : Act} {w : World} (hi : ops[i]? = some oi) (hr : Region.ready md ops listed = [i])
    (hw : Region.wanted oi (yielded ops a.tmps) = true)
    (h : ∀ K : Act → World → Prop, (∀ a' w', Grow w w' → wpAnyH P md ops (NoPanic Q) (Grow w') fuel (listed.setIfInBounds i true) a' w' → K a' w') → oi.wp P a w K (NoPanic Q)) : wpAnyH P md ops (NoPanic Q) (Grow w) (fuel + 1) listed a w := by
  refine wpAnyH_all hr (by simp) fun j hj => ?_
  obtain rfl : j = i := by simpa using hj
  unfold wpOp
  simp only [hi, hw, if_true]
  exact .inl (h _ fun a' w' hg h' => ⟨hg, wpAnyH_weaken (fun x hx => hg.trans hx) _ _ _ _ h'⟩)
theorem held_done {listed : Array Bool} {a : Act} {w : World} (hr : Region.ready md ops listed = []) (h : Q .normal a w) (fuel : Nat) : wpAnyH P md ops (NoPanic Q) (Grow w) fuel listed a w :=
  wpAnyH_done hr (NoPanic.normal h) fuel
end

section
variable {P : Program}
/-- What comes to an end leaves the world as it was, and comes to the same end in every world that has grown from it. -/
def Steady (P : Program) {α : Type} (s : Sem α) : Prop := ∀ (w : World) (x : α) (w1 : World), s.run P w = .ok x w1 → w1 = w ∧ ∀ w', Grow w w' → s.run P w' = .ok x w'
/-- It comes to no end. -/
def Dead (P : Program) {α : Type} (s : Sem α) : Prop := ∀ (w : World) (x : α) (w1 : World), s.run P w ≠ .ok x w1

theorem Steady.pure {α : Type} (x : α) : Steady P (Pure.pure x : Sem α) := fun w y w1 h => by
  have h' : Result.ok x w = Result.ok y w1 := h
  cases h'
  exact ⟨rfl, fun w' _ => rfl⟩
theorem Steady.bind {α β : Type} {s : Sem α} {f : α → Sem β} (hs : Steady P s) (hf : ∀ x, Steady P (f x)) : Steady P (s >>= f) := fun w y w1 h => by
  rw [Sem.run_bind] at h
  cases hr : s.run P w with
  | halt e w2 => rw [hr] at h; cases h
  | ok x w2 =>
    obtain ⟨rfl, hs'⟩ := hs w x w2 hr
    rw [hr] at h
    obtain ⟨rfl, hf'⟩ := hf x w2 y w1 h
    exact ⟨rfl, fun w' hg => by rw [Sem.run_bind, hs' w' hg]; exact hf' w' hg⟩
theorem Dead.steady {α : Type} {s : Sem α} (h : Dead P s) : Steady P s := fun w x w1 e => absurd e (h w x w1)
theorem Dead.halt {α : Type} (h : Halt) : Dead P (Sem.halt h : Sem α) := fun _ _ _ e => by cases e
theorem Dead.bind {α β : Type} {s : Sem α} {f : α → Sem β} (hf : ∀ x, Dead P (f x)) : Dead P (s >>= f) := fun w y w1 h => by
  rw [Sem.run_bind] at h
  cases hr : s.run P w with
  | halt e w2 => rw [hr] at h; cases h
  | ok x w2 => rw [hr] at h; exact hf x w2 y w1 h
theorem Steady.stuck {α : Type} (s : String) : Steady P (stuck s : Sem α) := (Dead.halt _).steady
theorem Steady.unsupported {α : Type} (s : Unsupported) : Steady P (unsupported s : Sem α) := (Dead.halt _).steady
theorem Steady.program : Steady P program := fun w x w1 h => by
  have h' : Result.ok P w = Result.ok x w1 := h
  cases h'
  exact ⟨rfl, fun w' _ => rfl⟩
theorem Dead.bounds {α : Type} (k : IntKind) (x y : Int) (c : BoundsCode) : Dead P (boundsPanic k x y c : Sem α) :=
  by
  unfold boundsPanic
  simp only
  split
  · exact Dead.bind fun _ => Dead.bind fun _ => Dead.halt _
  · exact Dead.bind fun _ => Dead.bind fun _ => Dead.halt _
theorem grow_block {w w' : World} {b : Nat} {o : Obj} (hg : Grow w w') (h : w.heap[b]? = some o) : w'.heap[b]? = some o := (Below.block hg b (lt_of_block h)).trans h

theorem seen_none {w : World} {at_ : Addr} {u : TypeId} {k : Addr} {b : Bool} (h : w.heap[at_.block]? = none) : ∃ e, w.seen P at_ u k b = .error e := by
  unfold World.seen
  by_cases h0 : (k.spot.isSome || at_.spot.isSome) = true
  · rw [if_pos h0]; exact ⟨_, rfl⟩
  · rw [if_neg h0]
    cases h1 : plainCell P P.depth u k.off with
    | none => exact ⟨_, rfl⟩
    | some like =>
      simp only
      cases h2 : like.bytes?.map (·.length) with
      | none => exact ⟨_, rfl⟩
      | some size =>
        simp only
        cases h3 : byteOfCell P P.depth u k.off with
        | none => exact ⟨_, rfl⟩
        | some β => simp only [h]; exact ⟨_, rfl⟩
theorem viewLoad_same {w w' : World} {at_ : Addr} {u : TypeId} {k : Addr} {b : Bool} {r : Value × List Addr} (hg : Grow w w') (h : w.viewLoad P at_ u k b = .ok r) : w'.viewLoad P at_ u k b = .ok r := by
  cases hb : w.heap[at_.block]? with
  | some o =>
    have e := grow_block hg hb
    rw [← h]
    unfold World.viewLoad World.seen
    rw [hb, e]
  | none =>
    obtain ⟨e, he⟩ := seen_none (P := P) (u := u) (k := k) (b := b) hb
    unfold World.viewLoad at h
    rw [he] at h
    cases h
theorem Steady.load (m : Mode) (a : Addr) : Steady P (Sem.load m a Sem.pure) := fun w x w1 h => by
  unfold Sem.run at h
  cases hc : w.cell? a with
  | some v =>
    rw [hc] at h
    have h' : Result.ok v w = Result.ok x w1 := h
    cases h'
    exact ⟨rfl, fun w' hg => by unfold Sem.run; rw [cell_grow hg hc]; rfl⟩
  | none =>
    rw [hc] at h
    simp only at h
    cases hf : w.farLoad P a (m == .atomic) with
    | error e => rw [hf] at h; cases h
    | ok r =>
      rw [hf] at h
      have h' : Result.ok r.1 w = Result.ok x w1 := h
      cases h'
      refine ⟨rfl, fun w' hg => ?_⟩
      unfold World.farLoad at hf
      cases hb : w.heap[a.block]? with
      | none => rw [hb] at hf; cases hf
      | some o =>
        have e := grow_block hg hb
        have ec : w'.cell? a = none := by rw [← hc]; exact World.cell?_of_block (w := w) (e.trans hb.symm)
        unfold Sem.run
        rw [ec]
        simp only
        rw [hb] at hf
        unfold World.farLoad
        rw [e]
        cases o with
        | view at_ u =>
          simp only at hf ⊢
          cases hv : w.viewLoad P at_ u a (m == .atomic) with
          | error s => rw [hv] at hf; cases hf
          | ok r' =>
            rw [hv] at hf
            cases hf
            rw [viewLoad_same hg hv]
            rfl
        | _ => cases hf

theorem Steady.getObj (r : Nat) : Steady P (getObj r) := fun w x w1 h => by
  unfold Go.getObj Sem.run at h
  cases hb : w.heap[r]? with
  | none => rw [hb] at h; cases h
  | some o =>
    rw [hb] at h
    cases o with
    | cells c t f => cases h
    | _ =>
      cases h
      exact ⟨rfl, fun w' hg => by unfold Go.getObj Sem.run; rw [grow_block hg hb]; rfl⟩

theorem Steady.underlying (t : TypeId) : Steady P (underlying t) := by
  refine Steady.bind Steady.program fun p => ?_
  split
  · exact Steady.pure _
  · exact Steady.stuck _
theorem Steady.typeInfo (t : TypeId) : Steady P (typeInfo t) := by
  refine Steady.bind Steady.program fun p => ?_
  split
  · exact Steady.pure _
  · exact Steady.stuck _
theorem Steady.sizeOf (t : TypeId) : Steady P (sizeOf t) := Steady.bind (Steady.typeInfo t) fun _ => Steady.pure _
theorem Steady.isAgg (t : TypeId) : Steady P (isAgg t) := by
  refine Steady.bind (Steady.underlying t) fun d => ?_
  split <;> exact Steady.pure _
theorem Steady.loadCellsFrom (a : Addr) : ∀ (n i : Nat) (acc : Array Value), Steady P (loadCellsFrom a i n acc)
  | 0, _, _ => Steady.pure _
  | n + 1, i, acc => Steady.bind (Steady.load _ _) fun v => Steady.loadCellsFrom a n (i + 1) (acc.push v)
theorem Steady.loadVar (t : TypeId) (a : Addr) : Steady P (loadVar t a) := by
  refine Steady.bind (Steady.isAgg t) fun b => ?_
  split
  · exact Steady.bind (Steady.sizeOf t) fun n => Steady.bind (Steady.loadCellsFrom a n 0 #[]) fun _ => Steady.pure _
  · exact Steady.load _ _
theorem Steady.sureAddr (v : Value) : Steady P (Instr.sureAddr v) := by
  unfold Instr.sureAddr
  split
  · exact Steady.pure _
  · exact Steady.stuck _
theorem Steady.loadAt (t : TypeId) (v : Value) : Steady P (Instr.loadAt t v) := Steady.bind (Steady.sureAddr v) fun a => Steady.loadVar t a
theorem Steady.extract (v : Value) (n : Nat) : Steady P (Instr.extract v n) := by
  unfold Instr.extract
  split
  · split
    · exact Steady.pure _
    · exact Steady.stuck _
  · exact Steady.stuck _
theorem Steady.asBool (v : Value) : Steady P (asBool v) := by
  unfold Go.asBool
  split
  · exact Steady.pure _
  · exact Steady.stuck _
theorem Steady.asIntOf (v : Value) : Steady P (asIntOf v) := by
  unfold Go.asIntOf
  split
  · exact Steady.pure _
  · exact Steady.unsupported _
  · exact Steady.stuck _
theorem Steady.indexAt (t : TypeId) (x i : Value) : Steady P (Instr.indexAt t x i) := by
  unfold Instr.indexAt
  refine Steady.bind (Steady.asIntOf _) fun ki => ?_
  refine Steady.bind (Steady.underlying _) fun d => ?_
  simp only
  split
  all_goals first
    | refine Steady.bind (Steady.sureAddr _) fun _ => Steady.bind (Steady.pure _) fun y => ?_
    | refine Steady.bind (Steady.pure _) fun y => ?_
    | refine Steady.bind (Steady.stuck _) fun y => ?_
  all_goals
    obtain ⟨base, len, elem⟩ := y
    refine Steady.bind (Steady.underlying _) fun d => ?_
    simp only
    repeat' split
    all_goals first
      | exact Steady.bind (Steady.sizeOf _) fun _ => Steady.pure _
      | exact Steady.unsupported _
      | exact (Dead.bounds _ _ _ _).steady
theorem Steady.len (ts : Array TypeId) (t : TypeId) (args : Array Value) : Steady P (Builtin.len_ ts t args) := by
  unfold Builtin.len_
  split
  · refine Steady.bind (Steady.underlying _) fun d => ?_
    split
    · exact Steady.pure _
    · exact Steady.pure _
    · refine Steady.bind (Steady.underlying _) fun d => ?_
      split
      · exact Steady.pure _
      · exact Steady.stuck _
    · exact Steady.pure _
    · exact Steady.pure _
    · exact Steady.pure _
    · refine Steady.bind (Steady.getObj _) fun o => ?_
      split
      · exact Steady.pure _
      · exact Steady.stuck _
    · refine Steady.bind (Steady.getObj _) fun o => ?_
      split
      · exact Steady.pure _
      · exact Steady.stuck _
    · exact Steady.stuck _
  · exact Steady.stuck _

/-- A field that has cells. -/
def fieldOk (P : Program) (s : TypeId) (i : Nat) : Bool :=
  match P.underlying s with
  | some (.struct fs) => match fs[i]? with
    | some f => match P.info? f.type with
      | some t => t.size != 0
      | none => true
    | none => true
  | _ => true
theorem Steady.bind' {α β : Type} {s : Sem α} {f : α → Sem β} (hs : Steady P s) (hf : ∀ w x, s.run P w = .ok x w → Steady P (f x)) : Steady P (s >>= f) := fun w y w1 h => by
  rw [Sem.run_bind] at h
  cases hr : s.run P w with
  | halt e w2 => rw [hr] at h; cases h
  | ok x w2 =>
    obtain ⟨rfl, hs'⟩ := hs w x w2 hr
    rw [hr] at h
    obtain ⟨rfl, hf'⟩ := hf w2 x hr w2 y w1 h
    exact ⟨rfl, fun w' hg => by rw [Sem.run_bind, hs' w' hg]; exact hf' w' hg⟩
theorem underlying_of {w : World} {t : TypeId} {d : TypeDesc} (h : (underlying t).run P w = .ok d w) : P.underlying t = some d := by
  cases hu : P.underlying t with
  | none => simp [Go.underlying, hu] at h
  | some e => simp [Go.underlying, hu] at h; rw [h]
theorem sizeOf_of {w : World} {t : TypeId} {n : Nat} (h : (sizeOf t).run P w = .ok n w) : ∃ i, P.info? t = some i ∧ i.size = n := by
  cases hu : P.info? t with
  | none => simp [Go.sizeOf, Go.typeInfo, hu] at h
  | some e => simp [Go.sizeOf, Go.typeInfo, hu] at h; exact ⟨e, rfl, h⟩
theorem Steady.fieldAt (s : TypeId) (x : Value) (i : Nat) (h : fieldOk P s i = true) : Steady P (Instr.fieldAt s x i) := by
  unfold Instr.fieldAt
  refine Steady.bind' (Steady.underlying s) fun w d hd => ?_
  have hu := underlying_of hd
  unfold fieldOk at h
  rw [hu] at h
  split
  · simp only at h
    split
    · rename_i f hf
      rw [hf] at h
      simp only at h
      refine Steady.bind (Steady.sureAddr _) fun a => Steady.bind ?_ fun _ => Steady.pure _
      refine Steady.bind' (Steady.sizeOf _) fun w n hn => ?_
      obtain ⟨t, ht, rfl⟩ := sizeOf_of hn
      rw [ht] at h
      rw [if_neg (by simpa using h)]
      exact Steady.pure _
    · exact Steady.stuck _
  · exact Steady.stuck _

/-- An operation that only looks. -/
def isReader (P : Program) (o : Oper) : Bool :=
  match o.op with
  | .move _ | .assign _ | .pick .. | .load .. | .indexAddr .. | .extract .. => true
  | .fieldAddr s _ i => fieldOk P s i
  | .unOp .not _ _ => true
  | .call c => match c.callee with
    | .builtin .len => true
    | _ => false
  | _ => false
/-- What it comes to is a value, the same in every world that has grown. -/
def Looks (P : Program) (s : Sem Next) : Prop := ∀ (w : World) (x : Next) (w1 : World), s.run P w = .ok x w1 → ∃ v, x = .value v ∧ w1 = w ∧ ∀ w', Grow w w' → s.run P w' = .ok (.value v) w'
theorem Looks.by {α : Type} {s : Sem α} (h : Steady P s) (g : α → Value) : Looks P (do Pure.pure (Next.value (g (← s)))) := fun w x w1 hr => by
  rw [Sem.run_bind] at hr
  cases hs : s.run P w with
  | halt e w2 => rw [hs] at hr; cases hr
  | ok v w2 =>
    obtain ⟨rfl, hs'⟩ := h w v w2 hs
    rw [hs] at hr
    have e : Result.ok (Next.value (g v)) w2 = Result.ok x w1 := hr
    cases e
    exact ⟨g v, rfl, rfl, fun w' hg => by rw [Sem.run_bind, hs' w' hg]; rfl⟩
theorem Looks.of {s : Sem Value} (h : Steady P s) : Looks P (do Pure.pure (Next.value (← s))) := Looks.by h fun v => v
theorem Looks.pure (v : Value) : Looks P (Pure.pure (Next.value v)) := fun w x w1 hr => by
  have e : Result.ok (Next.value v) w = Result.ok x w1 := hr
  cases e
  exact ⟨v, rfl, rfl, fun w' _ => rfl⟩
theorem isReader_looks {o : Oper} (h : isReader P o = true) (ρ : Operand → Value) : Looks P (execOp ρ o) := by
  obtain ⟨dst, op, type, pos, after, guard⟩ := o
  cases op
  case move x => exact Looks.pure _
  case assign x => exact Looks.pure _
  case pick c a b => exact Looks.by (Steady.asBool (ρ c)) fun t => if t then ρ a else ρ b
  case load t a => exact Looks.of (Steady.loadAt _ _)
  case indexAddr t x i => exact Looks.of (Steady.indexAt _ _ _)
  case extract t i => exact Looks.of (Steady.extract _ _)
  case fieldAddr s x i => exact Looks.of (Steady.fieldAt _ _ _ h)
  case unOp u t x =>
    cases u with
    | not =>
      refine Looks.of ?_
      unfold Op.unary
      split
      all_goals first
        | exact Steady.pure _
        | exact Steady.unsupported _
        | exact Steady.stuck _
        | (rename_i hh; cases hh)
    | _ => cases h
  case call c =>
    obtain ⟨callee, args, argTypes⟩ := c
    cases callee with
    | builtin b =>
      cases b with
      | len => exact Looks.of (Steady.len _ _ _)
      | _ => cases h
    | _ => cases h
  all_goals cases h

variable {ops : Array Oper} {Q : Exit → Act → World → Prop}

/-- In which order a region is walked: which operation, and whether it comes up alone. -/
def planOk (P : Program) (md : Region.Mode) (ops : Array Oper) : List (Nat × Bool) → Array Bool → Bool
  | [], listed => (Region.ready md ops listed).isEmpty
  | (i, true) :: rest, listed => (Region.ready md ops listed == [i]) && planOk P md ops rest (listed.setIfInBounds i true)
  | (i, false) :: rest, listed => ((ops[i]?).map (isReader P)).getD false && Region.free md ops listed i && (Region.ready md ops listed).contains i && planOk P md ops rest (listed.setIfInBounds i true)
/-- The walk by a plan (w0: the world in which its part began). -/
def wpPlan (P : Program) (ops : Array Oper) (Q : Exit → Act → World → Prop) : List (Nat × Bool) → World → Act → World → Prop
  | [], _, a, w => Q .normal a w
  | (i, true) :: rest, w0, a, w => wpOp P ops Q i (fun a' w' => Grow w0 w' ∧ wpPlan P ops Q rest w' a' w') a w
  | (i, false) :: rest, w0, a, w => wpOp P ops Q i (wpPlan P ops Q rest w0) a w
theorem held_plan (hs : Region.noSelect ops = true) (hp : ∀ c a w, ¬ Q (.panic c) a w) (ho : ¬ LetsOut Q) {md : Region.Mode} : ∀ (plan : List (Nat × Bool)) (listed : Array Bool) (a : Act) (w : World),
    planOk P md ops plan listed = true → wpPlan P ops Q plan w a w → wpAnyH P md ops Q (Grow w) plan.length listed a w
  | [], listed, a, w, hk, h => wpAnyH_done (by simpa [planOk] using hk) h _
  | (i, true) :: rest, listed, a, w, hk, h => by
    simp only [planOk, Bool.and_eq_true, beq_iff_eq] at hk
    refine wpAnyH_all hk.1 (by simp) fun j hj => ?_
    obtain rfl : j = i := by simpa using hj
    exact wpOp_mono (fun a' w' h' => ⟨h'.1, wpAnyH_weaken (fun x hx => h'.1.trans hx) _ _ _ _ (held_plan hs hp ho rest _ a' w' hk.2 h'.2)⟩) h
  | (i, false) :: rest, listed, a, w, hk, h => by
    simp only [planOk, Bool.and_eq_true] at hk
    obtain ⟨⟨⟨h1, h2⟩, h3⟩, h4⟩ := hk
    cases hi : ops[i]? with
    | none => rw [hi] at h1; cases h1
    | some o =>
      rw [hi] at h1
      simp only [Option.map_some, Option.getD_some] at h1
      simp only [wpPlan, wpOp, hi] at h
      have hQ : ∀ v c a w, Q (.panic c) (a.put o.dst v) w → Q (.panic c) a w := fun v c a w h => (hp _ _ _ h).elim
      split at h
      · rename_i hw
        rcases h with h | ⟨_, hl⟩
        · unfold Oper.wp at h
          have hlook := isReader_looks h1 a.eval w
          cases hr : (execOp a.eval o).run P w with
          | halt e w1 =>
            rw [hr] at h
            cases e <;> first | exact h.elim | exact (hp _ _ _ h).elim
          | ok x w1 =>
            obtain ⟨v, rfl, rfl, hv⟩ := hlook x w1 hr
            rw [hr] at h
            exact wpAnyH_take hi hs h2 h3 (hQ v) (Or.inl ⟨hw, hv⟩) (Grow.refl _) (held_plan hs hp ho rest _ _ _ h4 h)
        · exact (ho hl).elim
      · rename_i hw
        exact wpAnyH_take hi hs h2 h3 (hQ undef) (Or.inr ⟨by simpa using hw, rfl⟩) (Grow.refl _) (held_plan hs hp ho rest _ _ _ h4 h)

/-- Q, but no way out by a panic, or by want of room. -/
def Sure (Q : Exit → Act → World → Prop) : Exit → Act → World → Prop
  | .panic _, _, _ => False
  | .outgrown, _, _ => False
  | e, a, w => Q e a w
theorem Sure.imp : ∀ (e : Exit) (a : Act) (w : World), Sure Q e a w → Q e a w := fun e a w h => by
  cases e <;> first | exact h | exact (h : False).elim
def consHead (o : Oper) : List (List Oper) → List (List Oper)
  | [] => [[o]]
  | s :: t => (o :: s) :: t
/-- The operations of a plan, cut behind each one that comes up alone. -/
def segs (ops : Array Oper) : List (Nat × Bool) → List (List Oper)
  | [] => [[]]
  | (i, b) :: rest =>
    match ops[i]? with
    | none => if b then [] :: segs ops rest else segs ops rest
    | some o => if b then [o] :: segs ops rest else consHead o (segs ops rest)
/-- The walk, part by part. -/
def wpSegs (P : Program) (ops : Array Oper) (Q : Exit → Act → World → Prop) : List (List Oper) → Act → World → Prop
  | [], a, w => Q .normal a w
  | seg :: rest, a, w => wpList P ops (Exit.then (fun a' w' => Grow w w' ∧ wpSegs P ops Q rest a' w') Q) seg a w
theorem wp_then {o : Oper} {a : Act} {w : World} {X K : Act → World → Prop} (h : o.wp P a w X (Exit.then K Q)) : o.wp P a w X Q := by
  unfold Oper.wp at *
  generalize (execOp a.eval o).run P w = r at *
  cases r with
  | ok n w' =>
    cases n <;> simp only [Oper.upon] at h ⊢ <;>
      first
        | exact h
        | exact Calls.mono h (fun e w'' he => by cases e <;> exact he)
  | halt x w' => cases x <;> exact h
theorem segs_ne : ∀ (plan : List (Nat × Bool)), ∃ s t, segs ops plan = s :: t
  | [] => ⟨[], [], rfl⟩
  | (i, b) :: rest => by
    obtain ⟨s, t, h⟩ := segs_ne rest
    unfold segs
    split
    · split
      · exact ⟨_, _, rfl⟩
      · exact ⟨s, t, h⟩
    · split
      · exact ⟨_, _, rfl⟩
      · rw [h]; exact ⟨_, _, rfl⟩
theorem plan_segs : ∀ (plan : List (Nat × Bool)) (w0 : World) (a : Act) (w : World) (s : List Oper) (t : List (List Oper)), segs ops plan = s :: t →
    wpList P ops (Exit.then (fun a' w' => Grow w0 w' ∧ wpSegs P ops Q t a' w') Q) s a w → wpPlan P ops Q plan w0 a w
  | [], w0, a, w, s, t, hs, h => by
    cases hs
    exact h.2
  | (i, b) :: rest, w0, a, w, s, t, hs, h => by
    obtain ⟨s', t', hr⟩ := segs_ne (ops := ops) rest
    unfold segs at hs
    cases hi : ops[i]? with
    | none =>
      rw [hi] at hs
      cases b with
      | true =>
        simp only [if_true] at hs
        cases hs
        simp only [wpPlan, wpOp, hi]
        refine ⟨h.1, ?_⟩
        have h2 := h.2
        rw [hr] at h2
        exact plan_segs rest w a w s' t' hr h2
      | false =>
        simp only [Bool.false_eq_true, if_false] at hs
        simp only [wpPlan, wpOp, hi]
        exact plan_segs rest w0 a w s t hs h
    | some o =>
      rw [hi] at hs
      cases b with
      | true =>
        simp only [if_true] at hs
        cases hs
        simp only [wpPlan, wpOp, hi]
        simp only [wpList] at h
        split at h
        · rename_i hw
          rw [if_pos hw]
          refine h.imp (fun h => wp_then (Oper.wp_mono (fun a' w' h' => ⟨h'.1, ?_⟩) h)) id
          have h2 := h'.2
          rw [hr] at h2
          exact plan_segs rest w' a' w' s' t' hr h2
        · rename_i hw
          rw [if_neg hw]
          refine ⟨h.1, ?_⟩
          have h2 := h.2
          rw [hr] at h2
          exact plan_segs rest w _ w s' t' hr h2
      | false =>
        simp only [Bool.false_eq_true, if_false] at hs
        rw [hr] at hs
        cases hs
        simp only [wpPlan, wpOp, hi]
        simp only [wpList] at h
        split at h
        · rename_i hw
          rw [if_pos hw]
          exact h.imp (fun h => wp_then (Oper.wp_mono (fun a' w' h' => plan_segs rest w0 a' w' s' _ hr h') h)) id
        · rename_i hw
          rw [if_neg hw]
          exact plan_segs rest w0 _ w s' _ hr h

/-- A region that leaves its order open, walked once, by a plan. -/
theorem wp_region_plan {id : Nat} {a : Act} {w : World} (plan : List (Nat × Bool)) (hm : P.follows .mixedOrders = true) (hs : Region.noSelect ops = true) (hl : plan.length = ops.size)
    (hk : planOk P .any ops plan (Array.replicate ops.size false) = true) (h : wpSegs P ops (Sure Q) (segs ops plan) a w.drew) : (Code.region id ops true).wp P Q a w := by
  refine Code.wp_mono Sure.imp (wp_region_held (S := Grow w.drew) hm ?_)
  rw [← hl]
  obtain ⟨s, t, e⟩ := segs_ne (ops := ops) plan
  rw [e] at h
  refine held_plan hs (fun _ _ _ h => h) (fun ⟨_, _, h⟩ => h) plan _ a w.drew ?_ (plan_segs plan _ a _ s t e h)
  rw [hl]
  exact hk
/-- One part of the walk. -/
theorem segs_step {seg : List Oper} {rest : List (List Oper)} {a : Act} {w : World}
    (h : ∀ K : Act → World → Prop, Hid (∀ a' w', Grow w w' → wpSegs P ops Q rest a' w' → K a' w') → wpList P ops (Exit.then K Q) seg a w) : wpSegs P ops Q (seg :: rest) a w :=
  h _ fun _ _ hg h' => ⟨hg, h'⟩
theorem segs_done {a : Act} {w : World} (h : Q .normal a w) : wpSegs P ops (Sure Q) [] a w := h
end

section
variable {P : Program} {ops : Array Oper} {Q : Exit → Act → World → Prop}

theorem looks_run {s : Sem Next} {v : Value} (h : ∀ w, s.run P w = .ok (.value v) w) : Looks P s := fun w x w1 hr => by
  rw [h w] at hr
  cases hr
  exact ⟨v, rfl, rfl, fun w' _ => h w'⟩

/-- Whatever order is picked, S holds behind every operation, till number c has come up. -/
def wpAnyC (P : Program) (md : Region.Mode) (ops : Array Oper) (Q : Exit → Act → World → Prop) (S : World → Prop) (c : Nat) : Nat → Array Bool → Act → World → Prop
  | 0, listed, a, w => Region.ready md ops listed = [] ∧ Q .normal a w
  | fuel + 1, listed, a, w => (Region.ready md ops listed = [] → Q .normal a w) ∧
      ∀ i ∈ Region.ready md ops listed, wpOp P ops Q i (fun a' w' => (i = c ∧ wpAny P md ops Q fuel (listed.setIfInBounds i true) a' w') ∨ (i ≠ c ∧ S w' ∧ wpAnyC P md ops Q S c fuel (listed.setIfInBounds i true) a' w')) a w
theorem wpAny_of_C {md : Region.Mode} {S : World → Prop} {c : Nat} : ∀ (fuel : Nat) (listed : Array Bool) (a : Act) (w : World), wpAnyC P md ops Q S c fuel listed a w → wpAny P md ops Q fuel listed a w
  | 0, _, _, _, h => h
  | fuel + 1, _, _, _, h => ⟨h.1, fun i hi => wpOp_mono (fun a' w' h' => h'.elim (fun h => h.2) (fun h => wpAny_of_C fuel _ a' w' h.2.2)) (h.2 i hi)⟩
theorem wpAnyC_weaken {md : Region.Mode} {S S' : World → Prop} {c : Nat} (hS : ∀ w, S w → S' w) : ∀ (fuel : Nat) (listed : Array Bool) (a : Act) (w : World), wpAnyC P md ops Q S c fuel listed a w → wpAnyC P md ops Q S' c fuel listed a w
  | 0, _, _, _, h => h
  | fuel + 1, _, _, _, h => ⟨h.1, fun i hi => wpOp_mono (fun a' w' h' => h'.imp id (fun h => ⟨h.1, hS _ h.2.1, wpAnyC_weaken hS fuel _ a' w' h.2.2⟩)) (h.2 i hi)⟩
theorem wpAnyC_done {md : Region.Mode} {S : World → Prop} {c : Nat} {listed : Array Bool} {a : Act} {w : World} (hr : Region.ready md ops listed = []) (h : Q .normal a w) : ∀ fuel, wpAnyC P md ops Q S c fuel listed a w
  | 0 => ⟨hr, h⟩
  | _ + 1 => ⟨fun _ => h, by rw [hr]; simp⟩

/-- All of W wait for number i. -/
def Blocks (md : Region.Mode) (ops : Array Oper) (i : Nat) (W : List Nat) : Prop := ∀ x ∈ W, ∃ o, ops[x]? = some o ∧ ∃ e ∈ o.after, Region.binds md e = true ∧ (e.on = i ∨ e.on ∈ W)
def waiters (md : Region.Mode) (ops : Array Oper) (i : Nat) : List Nat → List Nat
  | [] => []
  | j :: js => if ((ops[j]?).map fun o => o.after.any fun e => Region.binds md e && (e.on == i || (waiters md ops i js).contains e.on)).getD false then j :: waiters md ops i js else waiters md ops i js
theorem waiters_blocks (md : Region.Mode) (ops : Array Oper) (i : Nat) : ∀ js, Blocks md ops i (waiters md ops i js)
  | [] => fun x hx => by cases hx
  | j :: js => by
    have ih := waiters_blocks md ops i js
    unfold waiters
    split
    · rename_i h
      intro x hx
      rcases List.mem_cons.1 hx with rfl | hx
      · cases ho : ops[x]? with
        | none => rw [ho] at h; cases h
        | some o =>
          rw [ho] at h
          simp only [Option.map_some, Option.getD_some, Array.any_eq_true'] at h
          obtain ⟨e, he, h⟩ := h
          simp only [Bool.and_eq_true, Bool.or_eq_true, beq_iff_eq, List.contains_iff_mem] at h
          exact ⟨o, rfl, e, he, h.1, h.2.imp id fun h => List.mem_cons_of_mem _ h⟩
      · obtain ⟨o, ho, e, he, hb, h⟩ := ih x hx
        exact ⟨o, ho, e, he, hb, h.imp id fun h => List.mem_cons_of_mem _ h⟩
    · exact ih
/-- Number c can't come up while i has not. -/
def barred (md : Region.Mode) (ops : Array Oper) (listed : Array Bool) (i c : Nat) : Bool :=
  decide (ops.size ≤ c) || ((waiters md ops i (List.range ops.size).reverse).contains c && (waiters md ops i (List.range ops.size).reverse).all fun x => listed.getD x true == false)
theorem not_ready {md : Region.Mode} {i : Nat} {W : List Nat} {listed : Array Bool} (hb : Blocks md ops i W) (hi : listed.getD i true = false) (hW : ∀ x ∈ W, listed.getD x true = false) {x : Nat} (hx : x ∈ W) : x ∉ Region.ready md ops listed := by
  intro hr
  obtain ⟨_, o, ho, hall⟩ := mem_ready.1 hr
  obtain ⟨o', ho', e, he, hbi, h⟩ := hb x hx
  rw [ho] at ho'
  cases ho'
  have h1 := hall e he hbi
  have h0 : listed.getD e.on true = false := by
    rcases h with h | h
    · rw [h]; exact hi
    · exact hW _ h
  rcases Nat.lt_or_ge e.on listed.size with h' | h'
  · simp [h'] at h0 h1; rw [h0] at h1; cases h1
  · simp [Array.getElem?_eq_none h'] at h1
theorem wpAnyC_first {md : Region.Mode} {S : World → Prop} {c i : Nat} {oi : Oper} {v : Value} {W : List Nat} (hi : ops[i]? = some oi) (hsel : ∀ (j : Nat) (o : Oper) cs b, ops[j]? = some o → o.op ≠ .select cs b)
    (hQ : ∀ c a w, Q (.panic c) (a.put oi.dst v) w → Q (.panic c) a w) (hb : Blocks md ops i W) (hic : i ≠ c) (hc : ops.size ≤ c ∨ c ∈ W) :
    ∀ (fuel : Nat) (listed : Array Bool) (a : Act) (w : World),
      (∀ j oj, ops[j]? = some oj → j ≠ i → listed.getD j true = false → (∀ e ∈ oj.after, Region.binds md e = true → e.on ≠ i) → oi.apart ops oj = true) → (∀ x ∈ W, listed.getD x true = false) →
      i ∈ Region.ready md ops listed → YieldsIf P ops S oi v a → S w →
      wpAnyC P md ops Q S c fuel (listed.setIfInBounds i true) (a.put oi.dst v) w → wpAnyC P md ops Q S c (fuel + 1) listed a w := by
  intro fuel
  induction fuel with
  | zero =>
    intro listed a w _ _ hr hy hS H
    refine ⟨fun h => (by rw [h] at hr; cases hr), fun j hj => ?_⟩
    by_cases hji : j = i
    · subst hji; exact hy.wpOp hi hS (.inr ⟨hic, hS, H⟩)
    · have := ready_mono hj hji
      rw [H.1] at this
      cases this
  | succ fuel ih =>
    intro listed a w hfree hW hr hy hS H
    refine ⟨fun h => (by rw [h] at hr; cases hr), fun j hj => ?_⟩
    by_cases hji : j = i
    · subst hji; exact hy.wpOp hi hS (.inr ⟨hic, hS, H⟩)
    · have h1 := H.2 j (ready_mono hj hji)
      have hiun := (mem_ready.1 hr).1
      have hjW : j ∉ W := fun h => not_ready hb hiun hW h hj
      obtain ⟨hjun, oj, hoj, hall⟩ := mem_ready.1 hj
      have hjc : j ≠ c := by
        rcases hc with hc | hc
        · have : j < ops.size := (Array.getElem?_eq_some_iff.1 hoj).1
          omega
        · intro h; exact hjW (h ▸ hc)
      have hnot : ∀ e ∈ oj.after, Region.binds md e = true → e.on ≠ i := fun e he hb heq => by
        have h1 := hall e he hb
        have h0 := hiun
        rw [heq] at h1
        rcases Nat.lt_or_ge i listed.size with h' | h'
        · simp [h'] at h0 h1; rw [h0] at h1; cases h1
        · simp [Array.getElem?_eq_none h'] at h1
      have h2 := wpOp_putIf hoj (hfree j oj hoj hji hjun hnot) (fun cs b => hsel i oi cs b hi) (fun cs b => hsel j oj cs b hoj) hQ hy h1
      have hfree' : ∀ k ok, ops[k]? = some ok → k ≠ i → (listed.setIfInBounds j true).getD k true = false →
          (∀ e ∈ ok.after, Region.binds md e = true → e.on ≠ i) → oi.apart ops ok = true := fun k ok hk hki hun hno => by
        refine hfree k ok hk hki ?_ hno
        by_cases hjk : j = k
        · subst hjk; exact hjun
        · rw [getD_set_ne true hjk] at hun; exact hun
      have hW' : ∀ x ∈ W, (listed.setIfInBounds j true).getD x true = false := fun x hx => by
        have hjx : j ≠ x := by intro h; subst h; exact hjW hx
        rw [getD_set_ne true hjx]
        exact hW x hx
      refine wpOp_mono (fun a' w' h3 => ?_) h2
      rcases h3.2 with h4 | h4
      · exact absurd h4.1 hjc
      · refine .inr ⟨hjc, h4.2.1, ih (listed.setIfInBounds j true) a' w' hfree' hW' (ready_mono hr (Ne.symm hji)) h3.1 h4.2.1 ?_⟩
        rw [Array.setIfInBounds_comm _ _ hji]
        exact h4.2.2
theorem wpAnyC_take {md : Region.Mode} {S : World → Prop} {c i : Nat} {oi : Oper} {v : Value} {fuel : Nat} {listed : Array Bool} {a : Act} {w : World} (hi : ops[i]? = some oi)
    (hs : Region.noSelect ops = true) (hf : Region.free md ops listed i = true) (hr : (Region.ready md ops listed).contains i = true) (hic : i ≠ c) (hb : barred md ops listed i c = true)
    (hQ : ∀ c a w, Q (.panic c) (a.put oi.dst v) w → Q (.panic c) a w) (hy : YieldsIf P ops S oi v a) (hS : S w)
    (h : wpAnyC P md ops Q S c fuel (listed.setIfInBounds i true) (a.put oi.dst v) w) : wpAnyC P md ops Q S c (fuel + 1) listed a w := by
  unfold barred at hb
  simp only [Bool.or_eq_true, decide_eq_true_eq, Bool.and_eq_true, List.contains_iff_mem, List.all_eq_true, beq_iff_eq] at hb
  have hB := waiters_blocks md ops i (List.range ops.size).reverse
  generalize waiters md ops i (List.range ops.size).reverse = W at *
  rcases hb with hb | hb
  · exact wpAnyC_first (W := []) hi (Region.noSelect_spec hs) hQ (fun x hx => by cases hx) hic (.inl hb) fuel listed a w (Region.free_spec hi hf) (fun x hx => by cases hx) (by simpa using hr) hy hS h
  · exact wpAnyC_first (W := W) hi (Region.noSelect_spec hs) hQ hB hic (.inr hb.1) fuel listed a w (Region.free_spec hi hf) hb.2 (by simpa using hr) hy hS h

/-- The order: 0: it only looks; 1: it comes up alone, and the world grows; 2: it only reckons; 3: it comes up alone, and may change what was there. -/
def nextCut (n : Nat) : List (Nat × Nat) → Nat
  | [] => n
  | (i, 3) :: _ => i
  | _ :: rest => nextCut n rest
def pathOk (P : Program) (md : Region.Mode) (ops : Array Oper) : List (Nat × Nat) → Array Bool → Bool
  | [], listed => (Region.ready md ops listed).isEmpty
  | (i, 0) :: rest, listed => ((ops[i]?).map (isReader P)).getD false && Region.free md ops listed i && (Region.ready md ops listed).contains i && (i != nextCut ops.size rest) && barred md ops listed i (nextCut ops.size rest) && pathOk P md ops rest (listed.setIfInBounds i true)
  | (i, 1) :: rest, listed => (Region.ready md ops listed == [i]) && (i != nextCut ops.size rest) && pathOk P md ops rest (listed.setIfInBounds i true)
  | (i, 3) :: rest, listed => (Region.ready md ops listed == [i]) && pathOk P md ops rest (listed.setIfInBounds i true)
  | (i, _) :: rest, listed => (ops[i]?).isSome && Region.free md ops listed i && (Region.ready md ops listed).contains i && (i != nextCut ops.size rest) && barred md ops listed i (nextCut ops.size rest) && pathOk P md ops rest (listed.setIfInBounds i true)
def wpPath (P : Program) (ops : Array Oper) (Q : Exit → Act → World → Prop) : List (Nat × Nat) → World → Act → World → Prop
  | [], _, a, w => Q .normal a w
  | (i, 0) :: rest, w0, a, w => wpOp P ops Q i (wpPath P ops Q rest w0) a w
  | (i, 1) :: rest, w0, a, w => wpOp P ops Q i (fun a' w' => Grow w0 w' ∧ wpPath P ops Q rest w' a' w') a w
  | (i, 3) :: rest, _, a, w => wpOp P ops Q i (fun a' w' => wpPath P ops Q rest w' a' w') a w
  | (i, _) :: rest, w0, a, w => (∀ o, ops[i]? = some o → Region.wanted o (yielded ops a.tmps) = true → Looks P (execOp a.eval o)) ∧ wpOp P ops Q i (wpPath P ops Q rest w0) a w
theorem path_take {md : Region.Mode} (hs : Region.noSelect ops = true) (hp : ∀ c a w, ¬ Q (.panic c) a w) (ho : ¬ LetsOut Q) {i c n : Nat} {o : Oper} {listed : Array Bool} {a : Act} {w : World} {K : Act → World → Prop} (hi : ops[i]? = some o)
    (hlk : Region.wanted o (yielded ops a.tmps) = true → Looks P (execOp a.eval o)) (h2 : Region.free md ops listed i = true) (h3 : (Region.ready md ops listed).contains i = true) (hic : i ≠ c) (hb : barred md ops listed i c = true)
    (hK : ∀ a', K a' w → wpAnyC P md ops Q (Grow w) c n (listed.setIfInBounds i true) a' w) (h : wpOp P ops Q i K a w) : wpAnyC P md ops Q (Grow w) c (n + 1) listed a w := by
  have hQ : ∀ v c a w, Q (.panic c) (a.put o.dst v) w → Q (.panic c) a w := fun v c a w h => (hp _ _ _ h).elim
  simp only [wpOp, hi] at h
  split at h
  · rename_i hw
    rcases h with h | ⟨_, hl⟩
    · unfold Oper.wp at h
      have hlook := hlk hw w
      cases hr : (execOp a.eval o).run P w with
      | halt e w1 =>
        rw [hr] at h
        cases e <;> first | exact h.elim | exact (hp _ _ _ h).elim
      | ok x w1 =>
        obtain ⟨v, rfl, rfl, hv⟩ := hlook x w1 hr
        rw [hr] at h
        exact wpAnyC_take hi hs h2 h3 hic hb (hQ v) (Or.inl ⟨hw, hv⟩) (Grow.refl _) (hK _ h)
    · exact (ho hl).elim
  · rename_i hw
    exact wpAnyC_take hi hs h2 h3 hic hb (hQ undef) (Or.inr ⟨by simpa using hw, rfl⟩) (Grow.refl _) (hK _ h)
theorem held_path (hs : Region.noSelect ops = true) (hp : ∀ c a w, ¬ Q (.panic c) a w) (ho : ¬ LetsOut Q) {md : Region.Mode} : ∀ (path : List (Nat × Nat)) (listed : Array Bool) (a : Act) (w : World),
    pathOk P md ops path listed = true → wpPath P ops Q path w a w → wpAnyC P md ops Q (Grow w) (nextCut ops.size path) path.length listed a w
  | [], listed, a, w, hk, h => wpAnyC_done (by simpa [pathOk] using hk) h _
  | (i, 0) :: rest, listed, a, w, hk, h => by
    simp only [pathOk, Bool.and_eq_true, bne_iff_ne] at hk
    obtain ⟨⟨⟨⟨⟨h1, h2⟩, h3⟩, hic⟩, hb⟩, h4⟩ := hk
    cases hi : ops[i]? with
    | none => rw [hi] at h1; cases h1
    | some o =>
      rw [hi] at h1
      simp only [Option.map_some, Option.getD_some] at h1
      exact path_take hs hp ho hi (fun _ => isReader_looks h1 a.eval) h2 h3 hic hb (fun a' h' => held_path hs hp ho rest _ a' w h4 h') h
  | (i, 1) :: rest, listed, a, w, hk, h => by
    simp only [pathOk, Bool.and_eq_true, beq_iff_eq, bne_iff_ne] at hk
    refine ⟨fun h0 => (by rw [hk.1.1] at h0; cases h0), fun j hj => ?_⟩
    rw [hk.1.1] at hj
    obtain rfl : j = i := by simpa using hj
    exact wpOp_mono (fun a' w' h' => .inr ⟨hk.1.2, h'.1, wpAnyC_weaken (fun x hx => h'.1.trans hx) _ _ _ _ (held_path hs hp ho rest _ a' w' hk.2 h'.2)⟩) h
  | (i, 2) :: rest, listed, a, w, hk, h => by
    simp only [pathOk, Bool.and_eq_true, bne_iff_ne] at hk
    obtain ⟨⟨⟨⟨⟨h1, h2⟩, h3⟩, hic⟩, hb⟩, h4⟩ := hk
    cases hi : ops[i]? with
    | none => rw [hi] at h1; cases h1
    | some o => exact path_take hs hp ho hi (h.1 o hi) h2 h3 hic hb (fun a' h' => held_path hs hp ho rest _ a' w h4 h') h.2
  | (i, 3) :: rest, listed, a, w, hk, h => by
    simp only [pathOk, Bool.and_eq_true, beq_iff_eq] at hk
    refine ⟨fun h0 => (by rw [hk.1] at h0; cases h0), fun j hj => ?_⟩
    rw [hk.1] at hj
    obtain rfl : j = i := by simpa using hj
    exact wpOp_mono (fun a' w' h' => .inl ⟨rfl, wpAny_of_C _ _ _ _ (held_path hs hp ho rest _ a' w' hk.2 h')⟩) h
  | (i, k + 4) :: rest, listed, a, w, hk, h => by
    simp only [pathOk, Bool.and_eq_true, bne_iff_ne] at hk
    obtain ⟨⟨⟨⟨⟨h1, h2⟩, h3⟩, hic⟩, hb⟩, h4⟩ := hk
    cases hi : ops[i]? with
    | none => rw [hi] at h1; cases h1
    | some o => exact path_take hs hp ho hi (h.1 o hi) h2 h3 hic hb (fun a' h' => held_path hs hp ho rest _ a' w h4 h') h.2
theorem path_from {w0 w1 : World} (hg : Grow w0 w1) : ∀ (path : List (Nat × Nat)) (a : Act) (w : World), wpPath P ops Q path w1 a w → wpPath P ops Q path w0 a w
  | [], _, _, h => h
  | (_, 0) :: rest, _, _, h => wpOp_mono (fun a' w' h' => path_from hg rest a' w' h') h
  | (_, 1) :: _, _, _, h => wpOp_mono (fun _ _ h' => ⟨hg.trans h'.1, h'.2⟩) h
  | (_, 2) :: rest, _, _, h => ⟨h.1, wpOp_mono (fun a' w' h' => path_from hg rest a' w' h') h.2⟩
  | (_, 3) :: _, _, _, h => h
  | (_, _ + 4) :: rest, _, _, h => ⟨h.1, wpOp_mono (fun a' w' h' => path_from hg rest a' w' h') h.2⟩

/-- The parts of a path: each begins with what only reckons, or ends with what comes up alone. -/
abbrev Part := Option Oper × Bool × List Oper
def headed (o : Oper) : List Part → List Part
  | (none, b, s) :: t => (none, b, o :: s) :: t
  | t => (none, false, [o]) :: t
def headed2 (o : Oper) : List Part → List Part
  | (none, b, s) :: t => (some o, b, o :: s) :: t
  | t => (some o, false, [o]) :: t
def parts (ops : Array Oper) : List (Nat × Nat) → List Part
  | [] => [(none, false, [])]
  | (i, k) :: rest =>
    match ops[i]?, k with
    | none, _ => parts ops rest
    | some o, 0 => headed o (parts ops rest)
    | some o, 1 => (none, false, [o]) :: parts ops rest
    | some o, 3 => (none, true, [o]) :: parts ops rest
    | some o, _ => headed2 o (parts ops rest)
/-- The walk, part by part. -/
def wpParts (P : Program) (ops : Array Oper) (Q : Exit → Act → World → Prop) : List Part → Act → World → Prop
  | [], a, w => Q .normal a w
  | (p, b, s) :: t, a, w => (∀ o, p = some o → Region.wanted o (yielded ops a.tmps) = true → Looks P (execOp a.eval o)) ∧ wpList P ops (Exit.then (fun a' w' => (b = false → Grow w w') ∧ wpParts P ops Q t a' w') Q) s a w
/-- One part, in a world that has grown since its beginning. -/
theorem parts_list {o : Oper} {a : Act} {w : World} {X K : Act → World → Prop} {rest : List Oper} (hX : ∀ a' w', wpList P ops (Exit.then K Q) rest a' w' → X a' w') (h : wpList P ops (Exit.then K Q) (o :: rest) a w) {i : Nat} (hi : ops[i]? = some o) : wpOp P ops Q i X a w := by
  simp only [wpList] at h
  unfold wpOp
  simp only [hi]
  split at h
  · rename_i hw
    rw [if_pos hw]
    exact h.imp (fun h => wp_then (Oper.wp_mono hX h)) id
  · rename_i hw
    rw [if_neg hw]
    exact hX _ _ h
theorem parts_ne : ∀ (path : List (Nat × Nat)), ∃ p b s t, parts ops path = (p, b, s) :: t
  | [] => ⟨none, false, [], [], rfl⟩
  | (i, k) :: rest => by
    obtain ⟨p, b, s, t, h⟩ := parts_ne rest
    unfold parts
    split
    · exact ⟨p, b, s, t, h⟩
    · rw [h]; cases p <;> exact ⟨_, _, _, _, rfl⟩
    · exact ⟨_, _, _, _, rfl⟩
    · exact ⟨_, _, _, _, rfl⟩
    · rw [h]; cases p <;> exact ⟨_, _, _, _, rfl⟩
theorem path_parts : ∀ (path : List (Nat × Nat)), (∀ x ∈ path, ∃ o, ops[x.1]? = some o) → ∀ (w0 : World) (a : Act) (w : World) (p : Option Oper) (b : Bool) (s : List Oper) (t : List Part), parts ops path = (p, b, s) :: t →
    (∀ o, p = some o → Region.wanted o (yielded ops a.tmps) = true → Looks P (execOp a.eval o)) → wpList P ops (Exit.then (fun a' w' => (b = false → Grow w0 w') ∧ wpParts P ops Q t a' w') Q) s a w → wpPath P ops Q path w0 a w
  | [], _, w0, a, w, p, b, s, t, hs, _, h => by
    cases hs
    exact h.2
  | (i, k) :: rest, hb, w0, a, w, p, b, s, t, hs, hl, h => by
    have hb' : ∀ x ∈ rest, ∃ o, ops[x.1]? = some o := fun x hx => hb x (List.mem_cons_of_mem _ hx)
    obtain ⟨o, hi⟩ := hb (i, k) (List.mem_cons_self ..)
    simp only at hi
    obtain ⟨p', b', s', t', hr⟩ := parts_ne (ops := ops) rest
    have at' : ∀ a' w', wpParts P ops Q (parts ops rest) a' w' → wpPath P ops Q rest w' a' w' := fun a' w' h2 => by
      rw [hr] at h2
      exact path_parts rest hb' w' a' w' p' b' s' t' hr h2.1 h2.2
    have next : ∀ a' w', ((false = false → Grow w0 w') ∧ wpParts P ops Q (parts ops rest) a' w') → wpPath P ops Q rest w0 a' w' := fun a' w' h' => path_from (h'.1 rfl) rest a' w' (at' a' w' h'.2)
    have reckon : headed2 o (parts ops rest) = (p, b, s) :: t → (∀ o', ops[i]? = some o' → Region.wanted o' (yielded ops a.tmps) = true → Looks P (execOp a.eval o')) ∧ wpOp P ops Q i (wpPath P ops Q rest w0) a w := fun hs => by
      rw [hr] at hs
      cases p' with
      | none =>
        simp only [headed2] at hs
        cases hs
        refine ⟨fun o' ho' hw' => ?_, parts_list (fun a' w' h' => path_parts rest hb' w0 a' w' none _ s' _ hr (fun o e => by cases e) h') h hi⟩
        rw [hi] at ho'
        cases ho'
        exact hl o rfl hw'
      | some q =>
        simp only [headed2] at hs
        rw [← hr] at hs
        cases hs
        refine ⟨fun o' ho' hw' => ?_, parts_list ?_ h hi⟩
        rotate_left
        · intro a' w' h'
          exact next a' w' h'
        rw [hi] at ho'
        cases ho'
        exact hl o rfl hw'
    unfold parts at hs
    rw [hi] at hs
    match k with
    | 0 =>
      simp only at hs
      rw [hr] at hs
      cases p' with
      | none =>
        simp only [headed] at hs
        cases hs
        exact parts_list (fun a' w' h' => path_parts rest hb' w0 a' w' none _ s' _ hr (fun o e => by cases e) h') h hi
      | some q =>
        simp only [headed] at hs
        rw [← hr] at hs
        cases hs
        refine parts_list ?_ h hi
        intro a' w' h'
        exact next a' w' h'
    | 1 =>
      simp only at hs
      cases hs
      exact parts_list (fun a' w' h' => ⟨h'.1 rfl, at' a' w' h'.2⟩) h hi
    | 2 => exact reckon hs
    | 3 =>
      simp only at hs
      cases hs
      refine parts_list ?_ h hi
      intro a' w' h'
      exact at' a' w' (show (true = false → Grow w0 w') ∧ _ from h').2
    | k + 4 => exact reckon hs
theorem path_in {md : Region.Mode} : ∀ (path : List (Nat × Nat)) (listed : Array Bool), pathOk P md ops path listed = true → ∀ x ∈ path, ∃ o, ops[x.1]? = some o
  | [], _, _, x, hx => by cases hx
  | (i, k) :: rest, listed, hk, x, hx => by
    have alone : Region.ready md ops listed = [i] → ∃ o, ops[i]? = some o := fun h => by
      have hm : i ∈ Region.ready md ops listed := by rw [h]; simp
      obtain ⟨_, o, ho, _⟩ := mem_ready.1 hm
      exact ⟨o, ho⟩
    have both : (∃ o, ops[i]? = some o) ∧ pathOk P md ops rest (listed.setIfInBounds i true) = true := by
      match k with
      | 0 =>
        simp only [pathOk, Bool.and_eq_true] at hk
        refine ⟨?_, hk.2⟩
        cases hi : ops[i]? with
        | none => rw [hi] at hk; cases hk.1.1.1.1.1
        | some o => exact ⟨o, rfl⟩
      | 1 =>
        simp only [pathOk, Bool.and_eq_true, beq_iff_eq] at hk
        exact ⟨alone hk.1.1, hk.2⟩
      | 2 =>
        simp only [pathOk, Bool.and_eq_true] at hk
        exact ⟨Option.isSome_iff_exists.1 hk.1.1.1.1.1, hk.2⟩
      | 3 =>
        simp only [pathOk, Bool.and_eq_true, beq_iff_eq] at hk
        exact ⟨alone hk.1, hk.2⟩
      | k + 4 =>
        simp only [pathOk, Bool.and_eq_true] at hk
        exact ⟨Option.isSome_iff_exists.1 hk.1.1.1.1.1, hk.2⟩
    rcases List.mem_cons.1 hx with rfl | hx
    · exact both.1
    · exact path_in rest _ both.2 x hx

/-- A region that leaves its order open, walked once, by a path. -/
theorem wp_region_path {id : Nat} {a : Act} {w : World} (path : List (Nat × Nat)) (hm : P.follows .mixedOrders = true) (hs : Region.noSelect ops = true) (hl : path.length = ops.size)
    (hk : pathOk P .any ops path (Array.replicate ops.size false) = true) (h : wpParts P ops (Sure Q) (parts ops path) a w.drew) : (Code.region id ops true).wp P Q a w := by
  refine Code.wp_mono Sure.imp (wp_region_any hm (wpAny_of_C (S := Grow w.drew) (c := nextCut ops.size path) _ _ _ _ ?_))
  rw [← hl]
  obtain ⟨p, b, s, t, e⟩ := parts_ne (ops := ops) path
  have hin := path_in path _ hk
  rw [e] at h
  have := held_path hs (fun _ _ _ h => h) (fun ⟨_, _, h⟩ => h) path _ a w.drew hk (path_parts path hin _ a _ p b s t e h.1 h.2)
  rw [← hl] at this
  exact this
theorem parts_step {s : List Oper} {t : List Part} {a : Act} {w : World}
    (h : ∀ K : Act → World → Prop, Hid (∀ a' w', Grow w w' → wpParts P ops Q t a' w' → K a' w') → wpList P ops (Exit.then K Q) s a w) : wpParts P ops Q ((none, false, s) :: t) a w :=
  ⟨fun _ e => by (cases e), h _ fun _ _ hg h' => ⟨fun _ => hg, h'⟩⟩
theorem parts_step2 {o : Oper} {s : List Oper} {t : List Part} {a : Act} {w : World} (hl : Region.wanted o (yielded ops a.tmps) = true → Looks P (execOp a.eval o))
    (h : ∀ K : Act → World → Prop, Hid (∀ a' w', Grow w w' → wpParts P ops Q t a' w' → K a' w') → wpList P ops (Exit.then K Q) s a w) : wpParts P ops Q ((some o, false, s) :: t) a w :=
  ⟨fun _ e hw => by (cases e; exact hl hw), h _ fun _ _ hg h' => ⟨fun _ => hg, h'⟩⟩
/-- A part that ends with what may change what was there. -/
theorem parts_cut {s : List Oper} {t : List Part} {a : Act} {w : World}
    (h : ∀ K : Act → World → Prop, Hid (∀ a' w', wpParts P ops Q t a' w' → K a' w') → wpList P ops (Exit.then K Q) s a w) : wpParts P ops Q ((none, true, s) :: t) a w :=
  ⟨fun _ e => by (cases e), h _ fun _ _ h' => ⟨fun e => by (cases e), h'⟩⟩
theorem parts_cut2 {o : Oper} {s : List Oper} {t : List Part} {a : Act} {w : World} (hl : Region.wanted o (yielded ops a.tmps) = true → Looks P (execOp a.eval o))
    (h : ∀ K : Act → World → Prop, Hid (∀ a' w', wpParts P ops Q t a' w' → K a' w') → wpList P ops (Exit.then K Q) s a w) : wpParts P ops Q ((some o, true, s) :: t) a w :=
  ⟨fun _ e hw => by (cases e; exact hl hw), h _ fun _ _ h' => ⟨fun e => by (cases e), h'⟩⟩
theorem parts_done {a : Act} {w : World} (h : Q .normal a w) : wpParts P ops (Sure Q) [] a w := h
end
end Go.Proofs.Ytlioojekjnigiad
/- Rows of structs in memory: as they lie, and rows of one's own. -/
namespace Go.Proofs.Ytlioojekjnigiad
open Go.RowKit

/-- Elements, one value behind another. -/
def flat {α : Type} (enc : α → List Value) (xs : List α) : List Value := xs.flatMap enc
section
variable {α : Type} {enc : α → List Value} {k : Nat}
theorem flat_cons (x : α) (xs : List α) : flat enc (x :: xs) = enc x ++ flat enc xs := rfl
theorem flat_append (xs ys : List α) : flat enc (xs ++ ys) = flat enc xs ++ flat enc ys := by simp [flat]
theorem flat_length (hk : ∀ x, (enc x).length = k) : ∀ xs : List α, (flat enc xs).length = xs.length * k
  | [] => by simp [flat]
  | x :: xs => by rw [flat_cons, List.length_append, hk, flat_length hk xs, List.length_cons, Nat.add_mul, Nat.one_mul, Nat.add_comm]
theorem flat_get (hk : ∀ x, (enc x).length = k) : ∀ (xs : List α) (i r : Nat) (x : α) (v : Value), xs[i]? = some x → (enc x)[r]? = some v → (flat enc xs)[i * k + r]? = some v
  | [], i, r, x, v, h, _ => by cases h
  | y :: ys, 0, r, x, v, h, hv => by
    obtain rfl : y = x := by simpa using h
    rw [flat_cons, Nat.zero_mul, Nat.zero_add, List.getElem?_append_left (List.getElem?_eq_some_iff.1 hv).1, hv]
  | y :: ys, i + 1, r, x, v, h, hv => by
    rw [flat_cons, List.getElem?_append_right (by rw [hk, Nat.add_mul]; omega), hk, show (i + 1) * k + r - k = i * k + r from by rw [Nat.add_mul]; omega]
    exact flat_get hk ys i r x v (by simpa using h) hv
theorem flat_at (hk : ∀ x, (enc x).length = k) : ∀ (xs : List α) (j : Nat) (v : Value), (flat enc xs)[j]? = some v → ∃ i r x, j = i * k + r ∧ xs[i]? = some x ∧ (enc x)[r]? = some v
  | [], j, v, h => by simp [flat] at h
  | y :: ys, j, v, h => by
    rw [flat_cons] at h
    by_cases hj : j < k
    · rw [List.getElem?_append_left (by rw [hk]; exact hj)] at h
      exact ⟨0, j, y, by simp, rfl, h⟩
    · rw [List.getElem?_append_right (by rw [hk]; omega), hk] at h
      obtain ⟨i, r, x, e, hx, hv⟩ := flat_at hk ys (j - k) v h
      exact ⟨i + 1, r, x, by rw [Nat.add_mul]; omega, by simpa using hx, hv⟩
theorem flat_one (h1 : ∀ x, ∀ v ∈ enc x, v.oneCell' = true) (xs : List α) : ∀ v ∈ flat enc xs, v.oneCell' = true := by
  intro v hv
  unfold flat at hv
  rw [List.mem_flatMap] at hv
  obtain ⟨x, _, hv⟩ := hv
  exact h1 x v hv
theorem flat_take (hk : ∀ x, (enc x).length = k) : ∀ (xs : List α) (i : Nat), (flat enc xs).take (i * k) = flat enc (xs.take i)
  | [], i => by simp [flat]
  | x :: xs, 0 => by simp [flat]
  | x :: xs, i + 1 => by
    rw [flat_cons, List.take_succ_cons, flat_cons, Nat.add_mul, Nat.one_mul, Nat.add_comm (i * k) k, ← hk x, List.take_length_add_append, hk x, flat_take hk xs i]
theorem flat_drop (hk : ∀ x, (enc x).length = k) : ∀ (xs : List α) (i : Nat), (flat enc xs).drop (i * k) = flat enc (xs.drop i)
  | [], i => by simp [flat]
  | x :: xs, 0 => by simp
  | x :: xs, i + 1 => by
    rw [flat_cons, List.drop_succ_cons, Nat.add_mul, Nat.one_mul, Nat.add_comm (i * k) k, ← hk x, List.drop_length_add_append, hk x, flat_drop hk xs i]

theorem add_at' {b off : Nat} (i : Nat) : (⟨b, off, none⟩ : Addr).add i = ⟨b, off + i, none⟩ := by unfold Addr.add; split <;> simp_all
/-- A row that lies in memory. -/
def RowAt (enc : α → List Value) (k : Nat) (w : World) (a : Option Addr) (cap : Nat) (xs : List α) : Prop :=
  xs.length ≤ 9223372036854775807 ∧ xs.length ≤ cap ∧ (xs = [] ∨ ∃ b off, a = some ⟨b, off, none⟩ ∧ ∀ i x, xs[i]? = some x → ∀ r v, (enc x)[r]? = some v → w.cell? ⟨b, off + i * k + r, none⟩ = some v)
theorem RowAt.nil (w : World) (a : Option Addr) (cap : Nat) : RowAt enc k w a cap [] := ⟨by simp, by simp, .inl rfl⟩
theorem RowAt.grow {w w' : World} {a : Option Addr} {cap : Nat} {xs : List α} (h : RowAt enc k w a cap xs) (hg : Grow w w') : RowAt enc k w' a cap xs := by
  refine ⟨h.1, h.2.1, h.2.2.imp id ?_⟩
  rintro ⟨b, off, ha, hc⟩
  exact ⟨b, off, ha, fun i x hi r v hv => cell_grow hg (hc i x hi r v hv)⟩
theorem RowAt.at {w : World} {a : Option Addr} {cap : Nat} {xs : List α} (h : RowAt enc k w a cap xs) {i : Nat} {x : α} (hi : xs[i]? = some x) :
    ∃ b off, a = some ⟨b, off, none⟩ ∧ ∀ r v, (enc x)[r]? = some v → w.cell? ⟨b, off + i * k + r, none⟩ = some v := by
  rcases h.2.2 with rfl | ⟨b, off, ha, hc⟩
  · cases hi
  · exact ⟨b, off, ha, hc i x hi⟩
theorem RowAt.news (hk : ∀ x, (enc x).length = k) {w : World} {b off cap : Nat} {xs : List α} (h : RowAt enc k w (some ⟨b, off, none⟩) cap xs) : ∀ j v, (flat enc xs)[j]? = some v → w.cell? ((⟨b, off, none⟩ : Addr).add j) = some v := by
  intro j v hv
  obtain ⟨i, r, x, rfl, hx, hv⟩ := flat_at hk xs j v hv
  obtain ⟨b', off', e, hc⟩ := h.at hx
  cases e
  rw [add_at', ← Nat.add_assoc]
  exact hc r v hv
/-- A row of one's own, as a row that lies in memory. -/
theorem RowAt.of_own (hk : ∀ x, (enc x).length = k) {w : World} {base : Nat} {e : TypeId} {a : Option Addr} {cap : Nat} {xs : List α} (hl : xs.length ≤ 9223372036854775807)
    (h : w.ownsRow base e k (.slice a xs.length cap) xs.length (flat enc xs)) : RowAt enc k w a cap xs := by
  rcases h.2 with ⟨h0, h1⟩ | ⟨g, cap', cur, hv, hb, hg, hle, _⟩
  · rw [List.length_eq_zero_iff.1 h1]
    exact RowAt.nil _ _ _
  · cases hv
    refine ⟨hl, hle, .inr ⟨g, 0, rfl, fun i x hi r v hv => ?_⟩⟩
    have := h.cells (g := g) rfl (i * k + r) v (flat_get hk xs i r x v hi hv)
    rwa [add_at', ← Nat.add_assoc] at this
theorem RowAt.take {w : World} {a : Option Addr} {cap : Nat} {xs : List α} (h : RowAt enc k w a cap xs) (n : Nat) : RowAt enc k w a cap (xs.take n) := by
  refine ⟨by have := h.1; rw [List.length_take]; omega, by have := h.2.1; rw [List.length_take]; omega, h.2.2.imp (fun e => by rw [e]; simp) ?_⟩
  rintro ⟨b, off, ha, hc⟩
  refine ⟨b, off, ha, fun i x hi => hc i x ?_⟩
  rw [List.getElem?_take] at hi
  split at hi
  · exact hi
  · cases hi
theorem grow_of_grown' {w w3 : World} (hg : w.grownBy w3 none) : Grow w w3 :=
  ⟨hg.os, hg.tape, hg.output, hg.size, fun k hk => hg.block k hk (by simp)⟩
/-- What is appended to a row of one's own leaves what lay ahead of it. -/
theorem below_grown {base : Nat} {w w' : World} {row : Option Nat} (hg : w.grownBy w' row) (hr : ∀ g, row = some g → base ≤ g) (hb : base ≤ w.heap.size) : Below base w w' :=
  ⟨hg.os, hg.tape, hg.output, hg.size, fun j hj => hg.block j (by omega) (fun e => by have := hr j e.symm; omega)⟩

/-- Nothing is appended to nothing. -/
theorem wpList_append_none {P : Program} {w : World} {ops : Array Oper} {rest : List Oper} {o : Oper} {a : Act} {Q : Exit → Act → World → Prop} (hgd : o.guard = none) (s x : Operand) (t : TypeId)
    (ho : o.op = .call { callee := .builtin .append, args := #[s, x], argTypes := #[t, t] }) (e : TypeId) (i : TypeInfo) (ht : P.underlying t = some (.slice e)) (hi : P.info? e = some i)
    (hs : a.eval s = .slice none 0 0) (a0 : Option Addr) (cap : Nat) (hx : a.eval x = .slice a0 0 cap) (h : wpList P ops Q rest (a.put o.dst (.slice none 0 0)) w) : wpList P ops Q (o :: rest) a w := by
  refine wpList_plain hgd fun K hK => ?_
  have hrun : (Builtin.append_ #[t, t] o.type #[.slice none 0 0, .slice a0 0 cap]).run P w = .ok (.slice none 0 0) w := by
    cases a0 <;> simp [Builtin.append_, run_underlying ht, sizeOf, typeInfo, hi, loadCells, loadCellsFrom, Builtin.lenOf, Builtin.firstCells]
  unfold Oper.wp
  simp [execOp, ho, resolve, invoke, builtin, hs, hx, hrun, Result.andThen]
  exact hK _ _ h
end
end Go.Proofs.Ytlioojekjnigiad
