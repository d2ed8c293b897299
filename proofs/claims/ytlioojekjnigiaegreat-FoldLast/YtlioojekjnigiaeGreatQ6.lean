/- What is leaned on: part 6. -/
import Derived.Test.YtlioojekjnigiaeGreatQ5
import Derived.Laws.CopyRow
import Derived.Laws.OwnMore
import Derived.Lib.SliceRun
import Derived.Lib.AppendZerosOnto
import Derived.Lib.Overlaps
import Derived.Laws.Externs
import Derived.Deep.DeepAppendWide
import Derived.OpenShut
import Derived.ProofKit
import Derived.ChangeOld
import Derived.Lib.SmallJoins
/- Sites: what is wrong with one. -/
namespace Go.Proofs.YtlioojekjnigiaeGreat.AM
set_option linter.unusedVariables false
set_option linter.unusedSimpArgs false

theorem siteRegion_ok (n : Int) : PCall Tryz.prog 57 [dInt n] (dBool (decide (n = 0) || decide (n = 1))) := by
  refine pcall_intro tab_all tab_mixed Tryz.func57 (by kernel_rfl) Tryz.ntmps57 rfl ?_
  conv => whnf
  refine ⟨fun h => ?_, fun h => ?_⟩
  · have h : n = 0 := by simpa using h
    conv => whnf
    exact Ret.bool (by simp [h])
  · have h : n ≠ 0 := by simpa using h
    conv => whnf
    exact Ret.bool (by simp only [h, decide_false, Bool.false_or]; rfl)
/-- Does a wait not stand behind the one ahead of it? -/
def badAhead (s : Site') (i : Nat) (x : Entry') : Bool := decide (0 < i) && !(match s.waits[i - 1]? with | some p => p.id.less x.id | none => true)
def waitErr (s : Site') (i : Nat) (x : Entry') : Int :=
  if x.err ≠ 0 then x.err else if (badAhead s i x || (decide (x.id.r = s.region) || (s.log.any (isThe x.id) || readyP s.log x))) = true then 4 else 0
def waitsFrom (s : Site') : Nat → List Entry' → Int
  | _, [] => 0
  | i, x :: t => if waitErr s i x ≠ 0 then waitErr s i x else waitsFrom s (i + 1) t
def siteErr (s : Site') : Int :=
  if s.region ≠ 0 ∧ s.region ≠ 1 then 3 else if logErr s.log ≠ 0 then logErr s.log else if 20 < s.waits.length then 2 else waitsFrom s 0 s.waits
set_option maxHeartbeats 0 in
theorem checkWait_ok (s : Site') (hs : SiteOk s) (hl : s.log.length ≤ 40) (i : Nat) (hi : i < s.waits.length) : PCall Tryz.prog 60 [s.arg, dInt i] (dInt (waitErr s i s.waits[i])) := by
  have hwl := hs.waits.len
  have hlk := hs.waits.links _ (List.getElem_mem hi)
  refine pcall_intro tab_all tab_mixed Tryz.func60 (by kernel_rfl) Tryz.ntmps60 rfl ?_
  conv => whnf
  refine AtIdx.ofMap hi rfl ?_
  conv => whnf
  repeat (first | (refine Conf.mk (by kernel_rfl) ?_; conv => whnf) | (refine SeqOk.go ?_; conv => whnf))
  refine .data _ _ (check_ok s.waits[i] hlk) rfl ?_
  conv => whnf
  repeat (first | (refine Conf.mk (by kernel_rfl) ?_; conv => whnf) | (refine SeqOk.go ?_; conv => whnf))
  refine ⟨fun h1 => ?_, fun h1 => ?_⟩
  · have h1 : s.waits[i].err ≠ 0 := by simpa using h1
    conv => whnf
    repeat (first | (refine Conf.mk (by kernel_rfl) ?_; conv => whnf) | (refine SeqOk.go ?_; conv => whnf))
    exact Ret.int (by unfold waitErr; rw [if_pos h1])
  · have h1 : s.waits[i].err = 0 := by simpa using h1
    have he : waitErr s i s.waits[i] = if (badAhead s i s.waits[i] || (decide (s.waits[i].id.r = s.region) || (s.log.any (isThe s.waits[i].id) || readyP s.log s.waits[i]))) = true then 4 else 0 := by unfold waitErr; rw [if_neg (by simp [h1])]
    by_cases h0 : 0 < i
    · refine BoolCase.yes (by simpa using h0) ?_
      have hi1 : i - 1 < s.waits.length := by omega
      have hp : s.waits[i - 1]? = some s.waits[i - 1] := List.getElem?_eq_getElem hi1
      have hba : badAhead s i s.waits[i] = !s.waits[i - 1].id.less s.waits[i].id := by unfold badAhead; rw [hp, decide_eq_true h0]; rfl
      conv => whnf
      repeat (first | (refine Conf.mk (by kernel_rfl) ?_; conv => whnf) | (refine SeqOk.go ?_; conv => whnf))
      refine AtIdx.ofMap' (i - 1) (wrap_down h0 (by omega)) hi1 rfl ?_
      conv => whnf
      repeat (first | (refine Conf.mk (by kernel_rfl) ?_; conv => whnf) | (refine SeqOk.go ?_; conv => whnf))
      refine .data _ _ (less_ok s.waits[i - 1].id s.waits[i].id) rfl ?_
      conv => whnf
      repeat (first | (refine Conf.mk (by kernel_rfl) ?_; conv => whnf) | (refine SeqOk.go ?_; conv => whnf))
      refine ⟨fun h2 => ?_, fun h2 => ?_⟩
      · have h2 : (!s.waits[i - 1].id.less s.waits[i].id) = true := h2
        conv => whnf
        repeat (first | (refine Conf.mk (by kernel_rfl) ?_; conv => whnf) | (refine SeqOk.go ?_; conv => whnf))
        exact Ret.int (by rw [he, hba, h2]; rfl)
      · have h2 : (!s.waits[i - 1].id.less s.waits[i].id) = false := h2
        have hb : badAhead s i s.waits[i] = false := by rw [hba, h2]
        conv => whnf
        repeat (first | (refine Conf.mk (by kernel_rfl) ?_; conv => whnf) | (refine SeqOk.go ?_; conv => whnf))
        refine ⟨fun h3 => ?_, fun h3 => ?_⟩
        · have h3 : s.waits[i].id.r = s.region := by simpa using h3
          conv => whnf
          repeat (first | (refine Conf.mk (by kernel_rfl) ?_; conv => whnf) | (refine SeqOk.go ?_; conv => whnf))
          exact Ret.int (by rw [he, hb, decide_eq_true h3]; rfl)
        · have h3 : s.waits[i].id.r ≠ s.region := by simpa using h3
          conv => whnf
          repeat (first | (refine Conf.mk (by kernel_rfl) ?_; conv => whnf) | (refine SeqOk.go ?_; conv => whnf))
          refine .data _ _ (siteHas_ok s.waits[i].id s.log (by omega)) rfl ?_
          conv => whnf
          repeat (first | (refine Conf.mk (by kernel_rfl) ?_; conv => whnf) | (refine SeqOk.go ?_; conv => whnf))
          refine ⟨fun h4 => ?_, fun h4 => ?_⟩
          · have h4 : s.log.any (isThe s.waits[i].id) = true := h4
            conv => whnf
            repeat (first | (refine Conf.mk (by kernel_rfl) ?_; conv => whnf) | (refine SeqOk.go ?_; conv => whnf))
            exact Ret.int (by rw [he, hb, decide_eq_false h3, h4]; rfl)
          · have h4 : s.log.any (isThe s.waits[i].id) = false := h4
            conv => whnf
            repeat (first | (refine Conf.mk (by kernel_rfl) ?_; conv => whnf) | (refine SeqOk.go ?_; conv => whnf))
            refine .data _ _ (siteReady_ok s.log (by omega) s.waits[i] (by have := (six_of h1).2; omega)) rfl ?_
            conv => whnf
            repeat (first | (refine Conf.mk (by kernel_rfl) ?_; conv => whnf) | (refine SeqOk.go ?_; conv => whnf))
            refine ⟨fun h5 => ?_, fun h5 => ?_⟩
            · have h5 : readyP s.log s.waits[i] = true := h5
              conv => whnf
              repeat (first | (refine Conf.mk (by kernel_rfl) ?_; conv => whnf) | (refine SeqOk.go ?_; conv => whnf))
              exact Ret.int (by rw [he, hb, decide_eq_false h3, h4, h5]; rfl)
            · have h5 : readyP s.log s.waits[i] = false := h5
              conv => whnf
              repeat (first | (refine Conf.mk (by kernel_rfl) ?_; conv => whnf) | (refine SeqOk.go ?_; conv => whnf))
              exact Ret.int (by rw [he, hb, decide_eq_false h3, h4, h5]; rfl)
    · have hb : badAhead s i s.waits[i] = false := by unfold badAhead; rw [decide_eq_false h0]; rfl
      refine BoolCase.no (by simpa using h0) ?_
      conv => whnf
      repeat (first | (refine Conf.mk (by kernel_rfl) ?_; conv => whnf) | (refine SeqOk.go ?_; conv => whnf))
      refine ⟨fun h3 => ?_, fun h3 => ?_⟩
      · have h3 : s.waits[i].id.r = s.region := by simpa using h3
        conv => whnf
        repeat (first | (refine Conf.mk (by kernel_rfl) ?_; conv => whnf) | (refine SeqOk.go ?_; conv => whnf))
        exact Ret.int (by rw [he, hb, decide_eq_true h3]; rfl)
      · have h3 : s.waits[i].id.r ≠ s.region := by simpa using h3
        conv => whnf
        repeat (first | (refine Conf.mk (by kernel_rfl) ?_; conv => whnf) | (refine SeqOk.go ?_; conv => whnf))
        refine .data _ _ (siteHas_ok s.waits[i].id s.log (by omega)) rfl ?_
        conv => whnf
        repeat (first | (refine Conf.mk (by kernel_rfl) ?_; conv => whnf) | (refine SeqOk.go ?_; conv => whnf))
        refine ⟨fun h4 => ?_, fun h4 => ?_⟩
        · have h4 : s.log.any (isThe s.waits[i].id) = true := h4
          conv => whnf
          repeat (first | (refine Conf.mk (by kernel_rfl) ?_; conv => whnf) | (refine SeqOk.go ?_; conv => whnf))
          exact Ret.int (by rw [he, hb, decide_eq_false h3, h4]; rfl)
        · have h4 : s.log.any (isThe s.waits[i].id) = false := h4
          conv => whnf
          repeat (first | (refine Conf.mk (by kernel_rfl) ?_; conv => whnf) | (refine SeqOk.go ?_; conv => whnf))
          refine .data _ _ (siteReady_ok s.log (by omega) s.waits[i] (by have := (six_of h1).2; omega)) rfl ?_
          conv => whnf
          repeat (first | (refine Conf.mk (by kernel_rfl) ?_; conv => whnf) | (refine SeqOk.go ?_; conv => whnf))
          refine ⟨fun h5 => ?_, fun h5 => ?_⟩
          · have h5 : readyP s.log s.waits[i] = true := h5
            conv => whnf
            repeat (first | (refine Conf.mk (by kernel_rfl) ?_; conv => whnf) | (refine SeqOk.go ?_; conv => whnf))
            exact Ret.int (by rw [he, hb, decide_eq_false h3, h4, h5]; rfl)
          · have h5 : readyP s.log s.waits[i] = false := h5
            conv => whnf
            repeat (first | (refine Conf.mk (by kernel_rfl) ?_; conv => whnf) | (refine SeqOk.go ?_; conv => whnf))
            exact Ret.int (by rw [he, hb, decide_eq_false h3, h4, h5]; rfl)
theorem waits_wrong {s : Site'} {i : Nat} (hi : i < s.waits.length) (h : waitErr s i s.waits[i] ≠ 0) : waitsFrom s i (s.waits.drop i) = waitErr s i s.waits[i] := by
  rw [List.drop_eq_getElem_cons hi, waitsFrom, if_pos h]
theorem waits_right {s : Site'} {i : Nat} (hi : i < s.waits.length) (h : waitErr s i s.waits[i] = 0) : waitsFrom s i (s.waits.drop i) = waitsFrom s (i + 1) (s.waits.drop (i + 1)) := by
  rw [List.drop_eq_getElem_cons hi, waitsFrom, if_neg (by simp [h])]
set_option maxHeartbeats 0 in
theorem siteCheck_ok (s : Site') (hs : SiteOk s) : PCall Tryz.prog 36 [s.arg] (dInt (siteErr s)) := by
  have hwl := hs.waits.len
  have hrg := siteRegion_ok s.region
  refine pcall_intro tab_all tab_mixed Tryz.func36 (by kernel_rfl) Tryz.ntmps36 rfl ?_
  conv => whnf
  by_cases h0 : s.region = 0 ∨ s.region = 1
  · rw [show (decide (s.region = 0) || decide (s.region = 1)) = true by simpa using h0] at hrg
    refine .data _ _ hrg.kb rfl ?_
    conv => whnf
    repeat (first | (refine Conf.mk (by kernel_rfl) ?_; conv => whnf) | (refine SeqOk.go ?_; conv => whnf))
    refine .data _ _ (dagCheck_ok s.log hs.log) rfl ?_
    conv => whnf
    repeat (first | (refine Conf.mk (by kernel_rfl) ?_; conv => whnf) | (refine SeqOk.go ?_; conv => whnf))
    refine ⟨fun h1 => ?_, fun h1 => ?_⟩
    · have h1 : logErr s.log ≠ 0 := by simpa using h1
      conv => whnf
      repeat (first | (refine Conf.mk (by kernel_rfl) ?_; conv => whnf) | (refine SeqOk.go ?_; conv => whnf))
      exact Ret.int (by unfold siteErr; rw [if_neg (by omega), if_pos h1])
    · have h1 : logErr s.log = 0 := by simpa using h1
      have hr := right_iff.1 h1
      have hll := hr.len
      conv => whnf
      repeat (first | (refine Conf.mk (by kernel_rfl) ?_; conv => whnf) | (refine SeqOk.go ?_; conv => whnf))
      refine ⟨fun h2 => ?_, fun h2 => ?_⟩
      · have h2 : 20 < s.waits.length := by simp at h2; omega
        conv => whnf
        repeat (first | (refine Conf.mk (by kernel_rfl) ?_; conv => whnf) | (refine SeqOk.go ?_; conv => whnf))
        exact Ret.int (by unfold siteErr; rw [if_neg (by omega), if_neg (by simp [h1]), if_pos h2])
      · have h2 : ¬ 20 < s.waits.length := by simp at h2; omega
        have he : siteErr s = waitsFrom s 0 s.waits := by unfold siteErr; rw [if_neg (by omega), if_neg (by simp [h1]), if_neg h2]
        conv => whnf
        repeat (first | (refine Conf.mk (by kernel_rfl) ?_; conv => whnf) | (refine SeqOk.go ?_; conv => whnf))
        refine LoopOk.hide fun Q1 hQ1 => ?_
        refine LoopOk.mk (fun m t => ∃ i, i + m = s.waits.length ∧ siteErr s = waitsFrom s i (s.waits.drop i) ∧ t = ⟨[(23, dInt i), (22, dInt (s.waits.map Entry'.enc).length), (1, .ptr 0 0)], 1, [(0, .vars 43 3 [dInt s.region, .dat (.list (s.log.map Entry'.enc)), .dat (.list (s.waits.map Entry'.enc))] true)]⟩) s.waits.length (Into.mono (Into.to [0] [(23, dInt (0 : Nat)), (22, dInt (s.waits.map Entry'.enc).length), (1, .ptr 0 0)] [(0, .vars 43 3 [dInt s.region, .dat (.list (s.log.map Entry'.enc)), .dat (.list (s.waits.map Entry'.enc))] true)] (by repeat (first | exact trivial | refine ⟨.same (congrArg dInt (wrap_up (by omega))), ?_⟩ | refine ⟨.same rfl, ?_⟩ | refine ⟨.any _, ?_⟩)) ⟨⟨rfl, rfl, rfl, .same rfl, rfl, .same rfl, rfl, .same rfl, rfl, trivial⟩, trivial⟩ rfl rfl) fun s' h => ⟨0, by omega, he, h⟩) ?_
        rintro m t ⟨i, him, hp, rfl⟩
        conv => whnf
        repeat (first | (refine Conf.mk (by kernel_rfl) ?_; conv => whnf) | (refine SeqOk.go ?_; conv => whnf))
        refine ⟨fun h3 => ?_, fun h3 => ?_⟩
        · have hi := lt_of_len h3
          conv => whnf
          repeat (first | (refine Conf.mk (by kernel_rfl) ?_; conv => whnf) | (refine SeqOk.go ?_; conv => whnf))
          refine .data _ _ (checkWait_ok s hs hll i hi) rfl ?_
          conv => whnf
          repeat (first | (refine Conf.mk (by kernel_rfl) ?_; conv => whnf) | (refine SeqOk.go ?_; conv => whnf))
          refine ⟨fun h4 => ?_, fun h4 => ?_⟩
          · have h4 : waitErr s i s.waits[i] ≠ 0 := by simpa using h4
            conv => whnf
            repeat (first | (refine Conf.mk (by kernel_rfl) ?_; conv => whnf) | (refine SeqOk.go ?_; conv => whnf))
            subst hQ1
            conv => whnf
            exact Ret.int (by rw [hp, waits_wrong hi h4])
          · have h4 : waitErr s i s.waits[i] = 0 := by simpa using h4
            rw [waits_right hi h4] at hp
            conv => whnf
            repeat (first | (refine Conf.mk (by kernel_rfl) ?_; conv => whnf) | (refine SeqOk.go ?_; conv => whnf))
            exact Into.mono (Into.to [0] [(23, dInt (i + 1 : Nat)), (22, dInt (s.waits.map Entry'.enc).length), (1, .ptr 0 0)] [(0, .vars 43 3 [dInt s.region, .dat (.list (s.log.map Entry'.enc)), .dat (.list (s.waits.map Entry'.enc))] true)] (by repeat (first | exact trivial | refine ⟨.same (congrArg dInt (wrap_up (by omega))), ?_⟩ | refine ⟨.same rfl, ?_⟩ | refine ⟨.any _, ?_⟩)) ⟨⟨rfl, rfl, rfl, .same rfl, rfl, .same rfl, rfl, .same rfl, rfl, trivial⟩, trivial⟩ rfl rfl) fun s' h => ⟨m - 1, by omega, i + 1, by omega, hp, h⟩
        · have hi := ge_of_len h3
          conv => whnf
          repeat (first | (refine Conf.mk (by kernel_rfl) ?_; conv => whnf) | (refine SeqOk.go ?_; conv => whnf))
          subst hQ1
          conv => whnf
          exact Ret.int (by rw [hp, List.drop_eq_nil_of_le hi]; rfl)
  · rw [show (decide (s.region = 0) || decide (s.region = 1)) = false by simpa using h0] at hrg
    refine .data _ _ hrg.kb rfl ?_
    conv => whnf
    repeat (first | (refine Conf.mk (by kernel_rfl) ?_; conv => whnf) | (refine SeqOk.go ?_; conv => whnf))
    exact Ret.int (by unfold siteErr; rw [if_pos (by omega)])
end Go.Proofs.YtlioojekjnigiaeGreat.AM
/- Sites: what is wrong with one, as the document says. -/
namespace Go.Proofs.YtlioojekjnigiaeGreat.AM
set_option linter.unusedVariables false
set_option linter.unusedSimpArgs false
end Go.Proofs.YtlioojekjnigiaeGreat.AM
/- Sites: a new one, copies of one's own; is it what it must be? -/
namespace Go.Proofs.YtlioojekjnigiaeGreat.AM
set_option linter.unusedVariables false
set_option linter.unusedSimpArgs false
def newSite (r : Int) : Site' := if r = 0 ∨ r = 1 then ⟨r, [], []⟩ else ⟨0, [], []⟩
def newErr (r : Int) : Int := if r = 0 ∨ r = 1 then 0 else 3
set_option maxHeartbeats 0 in
theorem siteNew_ok (r : Int) : PCall Tryz.prog 34 [dInt r] (.tup [(newSite r).arg, dInt (newErr r)]) := by
  have hrg := siteRegion_ok r
  refine pcall_intro tab_all tab_mixed Tryz.func34 (by kernel_rfl) Tryz.ntmps34 rfl ?_
  conv => whnf
  by_cases h0 : r = 0 ∨ r = 1
  · rw [show (decide (r = 0) || decide (r = 1)) = true by simpa using h0] at hrg
    refine .data _ _ hrg.kb rfl ?_
    conv => whnf
    repeat (first | (refine Conf.mk (by kernel_rfl) ?_; conv => whnf) | (refine SeqOk.go ?_; conv => whnf))
    exact Ret.to (by unfold newSite newErr; rw [if_pos h0, if_pos h0]; rfl)
  · rw [show (decide (r = 0) || decide (r = 1)) = false by simpa using h0] at hrg
    refine .data _ _ hrg.kb rfl ?_
    conv => whnf
    repeat (first | (refine Conf.mk (by kernel_rfl) ?_; conv => whnf) | (refine SeqOk.go ?_; conv => whnf))
    exact Ret.to (by unfold newSite newErr; rw [if_neg h0, if_neg h0]; rfl)
set_option maxHeartbeats 0 in
theorem copyEntry_ok (e : Entry') (he : e.links.length ≤ 1000) : PCall Tryz.prog 64 [e.arg] e.arg := by
  refine pcall_intro tab_all tab_mixed Tryz.func64 (by kernel_rfl) Tryz.ntmps64 rfl ?_
  conv => whnf
  refine ⟨by simp [Id.enc], by simp; omega, ?_⟩
  conv => whnf
  repeat (first | (refine Conf.mk (by kernel_rfl) ?_; conv => whnf) | (refine SeqOk.go ?_; conv => whnf))
  exact Ret.to rfl
set_option maxHeartbeats 0 in
theorem copyAll_ok (l : List Entry') (hk : ∀ e ∈ l, e.links.length ≤ 1000) (hn : l.length ≤ 1000) : ECall Tryz.prog 61 [.dat (.list (l.map Entry'.enc))] [] 0 (.row 0) [(0, .rows 48 5 (l.map Entry'.enc) true)] 1 := by
  refine acall_cut tab_all tab_mixed Tryz.func61 (by kernel_rfl) Tryz.ntmps61 rfl ?_
  conv => whnf
  conv => whnf
  repeat (first | (refine Conf.mk (by kernel_rfl) ?_; conv => whnf) | (refine SeqOk.go ?_; conv => whnf))
  refine LoopOk.hide fun Q1 hQ1 => ?_
  refine LoopOk.mk (fun m s => ∃ k, k + m = l.length ∧ s = ⟨[(8, dInt k), (7, dInt (l.map Entry'.enc).length), (6, .dat (.list (l.map Entry'.enc))), (3, .row 0)], 1, [(0, .rows 48 5 ((l.take k).map Entry'.enc) true)]⟩) l.length ((Into.row 3 48 5 rfl).trans fun s' hs' => by
    subst hs'
    exact Into.mono (Into.to [0] [(8, dInt (0 : Nat)), (7, dInt (l.map Entry'.enc).length), (6, .dat (.list (l.map Entry'.enc))), (3, .row 0)] [(0, .rows 48 5 ((l.take 0).map Entry'.enc) true)] (by repeat (first | exact trivial | refine ⟨.same (congrArg dInt (wrap_up (by omega))), ?_⟩ | refine ⟨.same rfl, ?_⟩ | refine ⟨.any _, ?_⟩)) ⟨⟨rfl, rfl, rfl, rfl⟩, trivial⟩ rfl rfl) fun s' h => ⟨0, by omega, h⟩) ?_
  rintro m s ⟨k, hkm, rfl⟩
  conv => whnf
  repeat (first | (refine Conf.mk (by kernel_rfl) ?_; conv => whnf) | (refine SeqOk.go ?_; conv => whnf))
  refine ⟨fun h => ?_, fun h => ?_⟩
  · have hk' := lt_of_len h
    have hrow : (l.take (k + 1)).map Entry'.enc = (l.take k).map Entry'.enc ++ [l[k].enc] := by rw [take_snoc hk', List.map_append]; rfl
    conv => whnf
    repeat (first | (refine Conf.mk (by kernel_rfl) ?_; conv => whnf) | (refine SeqOk.go ?_; conv => whnf))
    refine AtIdx.ofMap hk' rfl ?_
    conv => whnf
    repeat (first | (refine Conf.mk (by kernel_rfl) ?_; conv => whnf) | (refine SeqOk.go ?_; conv => whnf))
    refine .data _ _ (copyEntry_ok l[k] (hk _ (List.getElem_mem hk'))) rfl ?_
    conv => whnf
    repeat (first | (refine Conf.mk (by kernel_rfl) ?_; conv => whnf) | (refine SeqOk.go ?_; conv => whnf))
    refine ⟨by simp [Entry'.enc], by simp; omega, ?_⟩
    conv => whnf
    repeat (first | (refine Conf.mk (by kernel_rfl) ?_; conv => whnf) | (refine SeqOk.go ?_; conv => whnf))
    refine Into.mono (Into.to [3] [(8, dInt (k + 1 : Nat)), (7, dInt (l.map Entry'.enc).length), (6, .dat (.list (l.map Entry'.enc))), (3, .row 0)] [(0, .rows 48 5 ((l.take (k + 1)).map Entry'.enc) true)] (by repeat (first | exact trivial | refine ⟨.same (congrArg dInt (wrap_up (by omega))), ?_⟩ | refine ⟨.same rfl, ?_⟩ | refine ⟨.any _, ?_⟩)) ⟨⟨rfl, rfl, rfl, ?_⟩, trivial⟩ rfl rfl) fun s' h => ⟨m - 1, by omega, k + 1, by omega, h⟩
    rw [hrow]
    rfl
  · have hk' : k = l.length := by have := ge_of_len h; omega
    subst hk'
    conv => whnf
    repeat (first | (refine Conf.mk (by kernel_rfl) ?_; conv => whnf) | (refine SeqOk.go ?_; conv => whnf))
    subst hQ1
    conv => whnf
    exact .mk [] [0] (.row 0) [(0, .rows 48 5 (l.map Entry'.enc) true)] rfl (.same rfl) ⟨⟨rfl, rfl, rfl, by rw [List.take_length]⟩, trivial⟩ rfl rfl ⟨rfl, rfl, rfl⟩
set_option maxHeartbeats 0 in
theorem copyOf_ok (s : Site') (h1 : ∀ e ∈ s.log, e.links.length ≤ 1000) (h2 : s.log.length ≤ 1000) (h3 : ∀ e ∈ s.waits, e.links.length ≤ 1000) (h4 : s.waits.length ≤ 1000) : ECall Tryz.prog 39 [s.arg] [] 0 (.agg [dInt s.region, .row 0, .row 1]) [(0, .rows 48 5 (s.log.map Entry'.enc) true), (1, .rows 48 5 (s.waits.map Entry'.enc) true)] 2 := by
  refine acall_cut tab_all tab_mixed Tryz.func39 (by kernel_rfl) Tryz.ntmps39 rfl ?_
  conv => whnf
  conv => whnf
  repeat (first | (refine Conf.mk (by kernel_rfl) ?_; conv => whnf) | (refine SeqOk.go ?_; conv => whnf))
  refine .eff [] _ _ _ _ 1 (copyAll_ok s.log h1 h2) rfl rfl rfl rfl rfl ?_
  conv => whnf
  repeat (first | (refine Conf.mk (by kernel_rfl) ?_; conv => whnf) | (refine SeqOk.go ?_; conv => whnf))
  refine .eff [] _ _ _ _ 1 (copyAll_ok s.waits h3 h4) rfl rfl rfl rfl rfl ?_
  conv => whnf
  repeat (first | (refine Conf.mk (by kernel_rfl) ?_; conv => whnf) | (refine SeqOk.go ?_; conv => whnf))
  exact .mk [] [2, 3] (.agg [dInt s.region, .row 0, .row 1]) [(0, .rows 48 5 (s.log.map Entry'.enc) true), (1, .rows 48 5 (s.waits.map Entry'.enc) true)] rfl (.same rfl) ⟨⟨rfl, rfl, rfl, rfl⟩, ⟨rfl, rfl, rfl, rfl⟩, trivial⟩ rfl rfl ⟨rfl, rfl, rfl⟩
end Go.Proofs.YtlioojekjnigiaeGreat.AM
/- Orders: what is begun, and how it goes on, as the document says. -/
namespace Go.Proofs.YtlioojekjnigiaeGreat.AM
set_option linter.unusedVariables false
set_option linter.unusedSimpArgs false
def begunErr (l : List Entry') (c : Int) (ids : List Id) : Int := if idsErr l ids = 0 then (if c < 1 ∨ 7 < c then 3 else if begunOk l c ids = true then 0 else 4) else idsErr l ids
theorem begunErr_ok {l : List Entry'} {c : Int} {ids : List Id} (h : begunErr l c ids = 0) : idsErr l ids = 0 ∧ (1 ≤ c ∧ c ≤ 7) ∧ begunOk l c ids = true := by
  unfold begunErr at h
  split at h
  · rename_i h1
    split at h
    · simp at h
    · split at h
      · rename_i h2 h3; exact ⟨h1, by omega, h3⟩
      · simp at h
  · rename_i h1; exact absurd h h1
theorem between_ok' (n a b : Int) : PCall Tryz.prog 29 [dInt n, dInt a, dInt b] (dBool (decide (a ≤ n) && decide (n ≤ b))) := between_ok n a b
/-- What may be next. -/
def cand (l : List Entry') (c : Int) (out : List Id) (x : Id) : Bool := colored l c x && mayP l c out x
theorem nextOf_eq (l : List Entry') (c : Int) (out : List Id) : nextOf l c out = allIds.find? (cand l c out) := by
  unfold nextOf colIds
  rw [List.find?_filter]
  congr 1
  funext x
  unfold cand
  rw [Bool.eq_iff_iff]
  simp
theorem find_at {p : Id → Bool} {k : Nat} {x : Id} (hn : ∀ y ∈ allIds.take k, p y = false) (hx : allIds[k]? = some x) (hp : p x = true) : allIds.find? p = some x := by
  obtain ⟨hk, hxe⟩ := List.getElem?_eq_some_iff.1 hx
  have : allIds = allIds.take k ++ x :: allIds.drop (k + 1) := by rw [← hxe, ← List.drop_eq_getElem_cons hk, List.take_append_drop]
  rw [this, List.find?_append, List.find?_eq_none.2 fun y hy => by rw [hn y hy]; simp, List.find?_cons, hp]
  rfl
theorem take_more {p : Id → Bool} {k : Nat} {x : Id} (hn : ∀ y ∈ allIds.take k, p y = false) (hx : allIds[k]? = some x) (hp : p x = false) : ∀ y ∈ allIds.take (k + 1), p y = false := fun y hy => by
  rw [List.take_add_one, hx] at hy
  rcases List.mem_append.1 hy with hy | hy
  · exact hn y hy
  · have : y = x := by simpa using hy
    rw [this]; exact hp
/-- How far one has looked for who is next. -/
def Seek (l : List Entry') (c : Int) (out : List Id) (k : Nat) (mo : Bool) (out' : List Id) : Prop :=
  (mo = false ∧ out = out' ∧ ∀ x ∈ allIds.take k, cand l c out x = false) ∨ (mo = true ∧ ∃ x, nextOf l c out = some x ∧ out' = out ++ [x])
end Go.Proofs.YtlioojekjnigiaeGreat.AM
/- Rows of structs in memory: as they lie, and rows of one's own. -/
namespace Go.Proofs.YtlioojekjnigiaeGreat
open Go.RowKit

/-- Elements, one value behind another. -/
def flat {α : Type} (enc : α → List Value) (xs : List α) : List Value := xs.flatMap enc
section
variable {α : Type} {enc : α → List Value} {k : Nat}
theorem flat_cons (x : α) (xs : List α) : flat enc (x :: xs) = enc x ++ flat enc xs := rfl
theorem flat_append (xs ys : List α) : flat enc (xs ++ ys) = flat enc xs ++ flat enc ys := by simp [flat]
theorem flat_length (hk : ∀ x, (enc x).length = k) : ∀ xs : List α, (flat enc xs).length = xs.length * k
  | [] => by simp [flat]
  | x :: xs => by rw [flat_cons, List.length_append, hk, flat_length hk xs, List.length_cons, Nat.add_mul, Nat.one_mul, Nat.add_comm]
theorem flat_get (hk : ∀ x, (enc x).length = k) : ∀ (xs : List α) (i r : Nat) (x : α) (v : Value), xs[i]? = some x → (enc x)[r]? = some v → (flat enc xs)[i * k + r]? = some v
  | [], i, r, x, v, h, _ => by cases h
  | y :: ys, 0, r, x, v, h, hv => by
    obtain rfl : y = x := by simpa using h
    rw [flat_cons, Nat.zero_mul, Nat.zero_add, List.getElem?_append_left (List.getElem?_eq_some_iff.1 hv).1, hv]
  | y :: ys, i + 1, r, x, v, h, hv => by
    rw [flat_cons, List.getElem?_append_right (by rw [hk, Nat.add_mul]; omega), hk, show (i + 1) * k + r - k = i * k + r from by rw [Nat.add_mul]; omega]
    exact flat_get hk ys i r x v (by simpa using h) hv
theorem flat_at (hk : ∀ x, (enc x).length = k) : ∀ (xs : List α) (j : Nat) (v : Value), (flat enc xs)[j]? = some v → ∃ i r x, j = i * k + r ∧ xs[i]? = some x ∧ (enc x)[r]? = some v
  | [], j, v, h => by simp [flat] at h
  | y :: ys, j, v, h => by
    rw [flat_cons] at h
    by_cases hj : j < k
    · rw [List.getElem?_append_left (by rw [hk]; exact hj)] at h
      exact ⟨0, j, y, by simp, rfl, h⟩
    · rw [List.getElem?_append_right (by rw [hk]; omega), hk] at h
      obtain ⟨i, r, x, e, hx, hv⟩ := flat_at hk ys (j - k) v h
      exact ⟨i + 1, r, x, by rw [Nat.add_mul]; omega, by simpa using hx, hv⟩
theorem flat_one (h1 : ∀ x, ∀ v ∈ enc x, v.oneCell' = true) (xs : List α) : ∀ v ∈ flat enc xs, v.oneCell' = true := by
  intro v hv
  unfold flat at hv
  rw [List.mem_flatMap] at hv
  obtain ⟨x, _, hv⟩ := hv
  exact h1 x v hv
theorem flat_take (hk : ∀ x, (enc x).length = k) : ∀ (xs : List α) (i : Nat), (flat enc xs).take (i * k) = flat enc (xs.take i)
  | [], i => by simp [flat]
  | x :: xs, 0 => by simp [flat]
  | x :: xs, i + 1 => by
    rw [flat_cons, List.take_succ_cons, flat_cons, Nat.add_mul, Nat.one_mul, Nat.add_comm (i * k) k, ← hk x, List.take_length_add_append, hk x, flat_take hk xs i]
theorem flat_drop (hk : ∀ x, (enc x).length = k) : ∀ (xs : List α) (i : Nat), (flat enc xs).drop (i * k) = flat enc (xs.drop i)
  | [], i => by simp [flat]
  | x :: xs, 0 => by simp
  | x :: xs, i + 1 => by
    rw [flat_cons, List.drop_succ_cons, Nat.add_mul, Nat.one_mul, Nat.add_comm (i * k) k, ← hk x, List.drop_length_add_append, hk x, flat_drop hk xs i]

theorem add_at' {b off : Nat} (i : Nat) : (⟨b, off, none⟩ : Addr).add i = ⟨b, off + i, none⟩ := by unfold Addr.add; split <;> simp_all
/-- A row that lies in memory. -/
def RowAt (enc : α → List Value) (k : Nat) (w : World) (a : Option Addr) (cap : Nat) (xs : List α) : Prop :=
  xs.length ≤ 9223372036854775807 ∧ xs.length ≤ cap ∧ (xs = [] ∨ ∃ b off, a = some ⟨b, off, none⟩ ∧ ∀ i x, xs[i]? = some x → ∀ r v, (enc x)[r]? = some v → w.cell? ⟨b, off + i * k + r, none⟩ = some v)
theorem RowAt.nil (w : World) (a : Option Addr) (cap : Nat) : RowAt enc k w a cap [] := ⟨by simp, by simp, .inl rfl⟩
theorem RowAt.grow {w w' : World} {a : Option Addr} {cap : Nat} {xs : List α} (h : RowAt enc k w a cap xs) (hg : Grow w w') : RowAt enc k w' a cap xs := by
  refine ⟨h.1, h.2.1, h.2.2.imp id ?_⟩
  rintro ⟨b, off, ha, hc⟩
  exact ⟨b, off, ha, fun i x hi r v hv => cell_grow hg (hc i x hi r v hv)⟩
theorem RowAt.at {w : World} {a : Option Addr} {cap : Nat} {xs : List α} (h : RowAt enc k w a cap xs) {i : Nat} {x : α} (hi : xs[i]? = some x) :
    ∃ b off, a = some ⟨b, off, none⟩ ∧ ∀ r v, (enc x)[r]? = some v → w.cell? ⟨b, off + i * k + r, none⟩ = some v := by
  rcases h.2.2 with rfl | ⟨b, off, ha, hc⟩
  · cases hi
  · exact ⟨b, off, ha, hc i x hi⟩
theorem RowAt.news (hk : ∀ x, (enc x).length = k) {w : World} {b off cap : Nat} {xs : List α} (h : RowAt enc k w (some ⟨b, off, none⟩) cap xs) : ∀ j v, (flat enc xs)[j]? = some v → w.cell? ((⟨b, off, none⟩ : Addr).add j) = some v := by
  intro j v hv
  obtain ⟨i, r, x, rfl, hx, hv⟩ := flat_at hk xs j v hv
  obtain ⟨b', off', e, hc⟩ := h.at hx
  cases e
  rw [add_at', ← Nat.add_assoc]
  exact hc r v hv
/-- A row of one's own, as a row that lies in memory. -/
theorem RowAt.of_own (hk : ∀ x, (enc x).length = k) {w : World} {base : Nat} {e : TypeId} {a : Option Addr} {cap : Nat} {xs : List α} (hl : xs.length ≤ 9223372036854775807)
    (h : w.ownsRow base e k (.slice a xs.length cap) xs.length (flat enc xs)) : RowAt enc k w a cap xs := by
  rcases h.2 with ⟨h0, h1⟩ | ⟨g, cap', cur, hv, hb, hg, hle, _⟩
  · rw [List.length_eq_zero_iff.1 h1]
    exact RowAt.nil _ _ _
  · cases hv
    refine ⟨hl, hle, .inr ⟨g, 0, rfl, fun i x hi r v hv => ?_⟩⟩
    have := h.cells (g := g) rfl (i * k + r) v (flat_get hk xs i r x v hi hv)
    rwa [add_at', ← Nat.add_assoc] at this
theorem RowAt.take {w : World} {a : Option Addr} {cap : Nat} {xs : List α} (h : RowAt enc k w a cap xs) (n : Nat) : RowAt enc k w a cap (xs.take n) := by
  refine ⟨by have := h.1; rw [List.length_take]; omega, by have := h.2.1; rw [List.length_take]; omega, h.2.2.imp (fun e => by rw [e]; simp) ?_⟩
  rintro ⟨b, off, ha, hc⟩
  refine ⟨b, off, ha, fun i x hi => hc i x ?_⟩
  rw [List.getElem?_take] at hi
  split at hi
  · exact hi
  · cases hi
theorem grow_of_grown' {w w3 : World} (hg : w.grownBy w3 none) : Grow w w3 :=
  ⟨hg.os, hg.tape, hg.output, hg.size, fun k hk => hg.block k hk (by simp)⟩
/-- What is appended to a row of one's own leaves what lay ahead of it. -/
theorem below_grown {base : Nat} {w w' : World} {row : Option Nat} (hg : w.grownBy w' row) (hr : ∀ g, row = some g → base ≤ g) (hb : base ≤ w.heap.size) : Below base w w' :=
  ⟨hg.os, hg.tape, hg.output, hg.size, fun j hj => hg.block j (by omega) (fun e => by have := hr j e.symm; omega)⟩

/-- Nothing is appended to nothing. -/
theorem wpList_append_none {P : Program} {w : World} {ops : Array Oper} {rest : List Oper} {o : Oper} {a : Act} {Q : Exit → Act → World → Prop} (hgd : o.guard = none) (s x : Operand) (t : TypeId)
    (ho : o.op = .call { callee := .builtin .append, args := #[s, x], argTypes := #[t, t] }) (e : TypeId) (i : TypeInfo) (ht : P.underlying t = some (.slice e)) (hi : P.info? e = some i)
    (hs : a.eval s = .slice none 0 0) (a0 : Option Addr) (cap : Nat) (hx : a.eval x = .slice a0 0 cap) (h : wpList P ops Q rest (a.put o.dst (.slice none 0 0)) w) : wpList P ops Q (o :: rest) a w := by
  refine wpList_plain hgd fun K hK => ?_
  have hrun : (Builtin.append_ #[t, t] o.type #[.slice none 0 0, .slice a0 0 cap]).run P w = .ok (.slice none 0 0) w := by
    cases a0 <;> simp [Builtin.append_, run_underlying ht, sizeOf, typeInfo, hi, loadCells, loadCellsFrom, Builtin.lenOf, Builtin.firstCells]
  unfold Oper.wp
  simp [execOp, ho, resolve, invoke, builtin, hs, hx, hrun, Result.andThen]
  exact hK _ _ h
end
end Go.Proofs.YtlioojekjnigiaeGreat
/- Laws of rows of structs: copy, clear, and what slices.Insert and slices.Delete make of a row. -/
namespace Go.Proofs.YtlioojekjnigiaeGreat
open Go.RowKit

section
variable {P : Program}
/-- copy into a row that is known whole. -/
theorem run_copy_row (w : World) (dT sT ty elem : TypeId) (size g o dLen dCap : Nat) (a : Addr) (sLen sCap : Nat) (cs : List Value) (cur : Array Value) (t : TypeId)
    (hu : P.underlying dT = some (.slice elem)) (i : TypeInfo) (hi : P.info? elem = some i) (hs : i.size = size) (hn : cs.length = Nat.min sLen dLen * size)
    (hsrc : ∀ j v, cs[j]? = some v → w.cell? (a.add j) = some v) (hg : w.heap[g]? = some (.cells cur t (0, 0))) (hfit : o + cs.length ≤ cur.size) (h1 : ∀ v ∈ cs, v.oneCell' = true) :
    (Builtin.copy_ #[dT, sT] ty #[.slice (some ⟨g, o, none⟩) dLen dCap, .slice (some a) sLen sCap]).run P w = .ok (goInt (Nat.min sLen dLen)) (w.setRow g (cur.toList.take o ++ cs ++ cur.toList.drop (o + cs.length)).toArray) := by
  have hl := run_loadCells_list (P := P) w a cs hsrc
  have hst := run_storeCells_at P g o t cs 0 cur w hg (by simpa using hfit) h1
  simp only [Nat.add_zero] at hst
  rw [hn] at hl
  simp [Builtin.copy_, run_underlying hu, Builtin.lenOf, Builtin.firstCells, sizeOf, typeInfo, hi, hs, hl, hst]
/-- clear, of a row that is known whole. -/
theorem run_clear_row (w : World) (t e ty : TypeId) (z : Value) (ht : P.underlying t = some (.slice e)) (hv : ∀ w, (zeroValue e).run P w = .ok z w) (h1 : ∀ v ∈ z.cells.toList, v.oneCell' = true) (g o n c : Nat) (cur : Array Value) (et : TypeId)
    (hg : w.heap[g]? = some (.cells cur et (0, 0))) (hfit : o + (n + 1) * z.cells.size ≤ cur.size) :
    (Builtin.clear_ #[t] ty #[.slice (some ⟨g, o, none⟩) (n + 1) c]).run P w = .ok (.tuple #[]) (w.setRow g (cur.toList.take o ++ (Builtin.zeroCells z.cells (n + 1)).toList ++ cur.toList.drop (o + (n + 1) * z.cells.size)).toArray) := by
  have hl : (Builtin.zeroCells z.cells (n + 1)).toList.length = (n + 1) * z.cells.size := by simp [size_zeroCells]
  have hst := run_storeCells_at P g o et (Builtin.zeroCells z.cells (n + 1)).toList 0 cur w hg (by rw [hl]; simpa using hfit) (by
    intro v hv'
    simp only [Builtin.zeroCells, Array.toList_map, List.mem_map, Array.toList_range, List.mem_range] at hv'
    obtain ⟨j, hj, rfl⟩ := hv'
    have hz : 0 < z.cells.size := by
      rcases Nat.eq_zero_or_pos z.cells.size with h | h
      · rw [h] at hj; simp at hj
      · exact h
    have hlt : j % z.cells.size < z.cells.size := Nat.mod_lt _ hz
    rw [getElem!_pos z.cells (j % z.cells.size) hlt]
    exact h1 _ (by simp))
  simp only [Nat.add_zero] at hst
  rw [hl] at hst
  simp [Builtin.clear_, run_underlying ht, hv, hst]
theorem wpList_copy_run (w : World) {ops : Array Oper} {rest : List Oper} {o : Oper} {a : Act} {Q : Exit → Act → World → Prop} (hgd : o.guard = none) (d s : Operand) (t t' : TypeId)
    (ho : o.op = .call { callee := .builtin .copy, args := #[d, s], argTypes := #[t, t'] }) (v u : Value) (hd : a.eval d = v) (hs : a.eval s = u) {v' : Value} {w' : World}
    (hr : (Builtin.copy_ #[t, t'] o.type #[v, u]).run P w = .ok v' w') (h : wpList P ops Q rest (a.put o.dst v') w') : wpList P ops Q (o :: rest) a w :=
  wpList_plain hgd fun _ hK => by
    unfold Oper.wp execOp
    simp only [ho, resolve, invoke, builtin, Sem.run_bind, Sem.run_pure, Result.andThen_ok, List.map_toArray, List.map_cons, List.map_nil, hd, hs, hr]
    exact hK _ _ h
theorem wpList_clear_run (w : World) {ops : Array Oper} {rest : List Oper} {o : Oper} {a : Act} {Q : Exit → Act → World → Prop} (hgd : o.guard = none) (s : Operand) (t : TypeId)
    (ho : o.op = .call { callee := .builtin .clear, args := #[s], argTypes := #[t] }) (u : Value) (hs : a.eval s = u) {v' : Value} {w' : World}
    (hr : (Builtin.clear_ #[t] o.type #[u]).run P w = .ok v' w') (h : wpList P ops Q rest (a.put o.dst v') w') : wpList P ops Q (o :: rest) a w :=
  wpList_plain hgd fun _ hK => by
    unfold Oper.wp execOp
    simp only [ho, resolve, invoke, builtin, Sem.run_bind, Sem.run_pure, Result.andThen_ok, List.map_toArray, List.map_cons, List.map_nil, hs, hr]
    exact hK _ _ h
theorem wpList_append_ran (w : World) {ops : Array Oper} {rest : List Oper} {o : Oper} {a : Act} {Q : Exit → Act → World → Prop} (hgd : o.guard = none) (s x : Operand) (t tn : TypeId)
    (ho : o.op = .call { callee := .builtin .append, args := #[s, x], argTypes := #[t, tn] }) (vs vx : Value) (hs : a.eval s = vs) (hx : a.eval x = vx)
    {v' : Value} {w' : World} (hr : (Builtin.append_ #[t, tn] o.type #[vs, vx]).run P w = .ok v' w') (h : wpList P ops Q rest (a.put o.dst v') w') : wpList P ops Q (o :: rest) a w :=
  Lib.wpList_append_run w hgd s x t tn ho vs vx hs hx v' w' hr h
end

theorem grownBy_setRow {w : World} {g : Nat} {cur cur' : Array Value} {t : TypeId} (_h : w.heap[g]? = some (.cells cur t (0, 0))) : w.grownBy (w.setRow g cur') (some g) :=
  ⟨rfl, rfl, rfl, by simp [World.setRow], fun k hk hn => setRow_other _ _ _ _ (fun e => hn (by rw [e]))⟩
theorem grownBy_trans {a b c : World} {row : Option Nat} (h : a.grownBy b row) (k : b.grownBy c row) : a.grownBy c row :=
  ⟨k.os.trans h.os, k.tape.trans h.tape, k.output.trans h.output, Nat.le_trans h.size k.size, fun j hj hn => (k.block j (Nat.lt_of_lt_of_le hj h.size) hn).trans (h.block j hj hn)⟩
theorem grownBy_drew (w : World) (row : Option Nat) : w.grownBy w.drew row := ⟨rfl, rfl, rfl, Nat.le_refl _, fun _ _ _ => rfl⟩
theorem grownBy_refl (w : World) (row : Option Nat) : w.grownBy w row := ⟨rfl, rfl, rfl, Nat.le_refl _, fun _ _ _ => rfl⟩
theorem grownBy_of_grow {w w' : World} (h : Grow w w') (row : Option Nat) : w.grownBy w' row := ⟨Below.os h, Below.tape h, Below.output h, Below.size h, fun k hk _ => Below.block h k hk⟩

/-- What a row is behind a shift. -/
theorem row_shift {cur cs xs : List Value} {I N k : Nat} (hI : I ≤ N) (hx : xs.length = k) (hc : N + k ≤ cur.length) (ht : cur.take N = cs) :
    ((cur.take (I + k) ++ cs.drop I ++ cur.drop (I + k + (N - I))).take I ++ xs ++ (cur.take (I + k) ++ cs.drop I ++ cur.drop (I + k + (N - I))).drop (I + k)).take (N + k) = cs.take I ++ xs ++ cs.drop I := by
  have hl : cs.length = N := by rw [← ht, List.length_take]; omega
  have e1 : (cur.take (I + k) ++ cs.drop I ++ cur.drop (I + k + (N - I))).take I = cs.take I := by
    rw [List.append_assoc, List.take_append_of_le_length (by rw [List.length_take]; omega), List.take_take, Nat.min_eq_left (by omega), ← ht, List.take_take, Nat.min_eq_left hI]
  have e2 : (cur.take (I + k) ++ cs.drop I ++ cur.drop (I + k + (N - I))).drop (I + k) = cs.drop I ++ cur.drop (I + k + (N - I)) := by
    rw [List.append_assoc]
    exact List.drop_left' (by rw [List.length_take]; omega)
  rw [e1, e2, ← List.append_assoc]
  exact List.take_left' (by simp; omega)
theorem row_shift_size {cur cs xs : List Value} {I N k : Nat} (hI : I ≤ N) (hx : xs.length = k) (hc : N + k ≤ cur.length) (hl : cs.length = N) :
    ((cur.take (I + k) ++ cs.drop I ++ cur.drop (I + k + (N - I))).take I ++ xs ++ (cur.take (I + k) ++ cs.drop I ++ cur.drop (I + k + (N - I))).drop (I + k)).length = cur.length := by
  simp
  omega
/-- What a new row is. -/
theorem row_new {cur cs xs : List Value} {I N k : Nat} (hI : I ≤ N) (hx : xs.length = k) (ht : cur.take I = cs.take I) (hl : cs.length = N) :
    ((cur.take I ++ xs ++ cur.drop (I + k)).take (I + k) ++ cs.drop I ++ (cur.take I ++ xs ++ cur.drop (I + k)).drop (I + k + (N - I))).take (N + k) = cs.take I ++ xs ++ cs.drop I := by
  have e1 : (cur.take I ++ xs ++ cur.drop (I + k)).take (I + k) = cs.take I ++ xs := by
    rw [ht]
    exact List.take_left' (by simp; omega)
  rw [e1]
  exact List.take_left' (by simp; omega)
theorem row_new_size {cur cs xs : List Value} {I N k : Nat} (hI : I ≤ N) (hx : xs.length = k) (hc : N + k ≤ cur.length) (hl : cs.length = N) :
    ((cur.take I ++ xs ++ cur.drop (I + k)).take (I + k) ++ cs.drop I ++ (cur.take I ++ xs ++ cur.drop (I + k)).drop (I + k + (N - I))).length = cur.length := by
  simp
  omega
/-- What a row is where one is taken out, and its end cleared. -/
theorem row_cut {cur cs zs : List Value} {I N k : Nat} (hI : I + k ≤ N) (hz : zs.length = k) (hc : N ≤ cur.length) (ht : cur.take N = cs) :
    ((cur.take I ++ cs.drop (I + k) ++ cur.drop (I + (N - (I + k)))).take (N - k) ++ zs ++ (cur.take I ++ cs.drop (I + k) ++ cur.drop (I + (N - (I + k)))).drop (N - k + k)).take (N - k) = cs.take I ++ cs.drop (I + k) := by
  have hl : cs.length = N := by rw [← ht, List.length_take]; omega
  have e0 : cur.take I = cs.take I := by rw [← ht, List.take_take, Nat.min_eq_left (by omega)]
  have e1 : (cur.take I ++ cs.drop (I + k) ++ cur.drop (I + (N - (I + k)))).take (N - k) = cs.take I ++ cs.drop (I + k) := by
    rw [e0]
    exact List.take_left' (by simp; omega)
  rw [e1, List.append_assoc]
  exact List.take_left' (by simp; omega)
theorem row_cut_size {cur cs zs : List Value} {I N k : Nat} (hI : I + k ≤ N) (hz : zs.length = k) (hc : N ≤ cur.length) (hl : cs.length = N) :
    ((cur.take I ++ cs.drop (I + k) ++ cur.drop (I + (N - (I + k)))).take (N - k) ++ zs ++ (cur.take I ++ cs.drop (I + k) ++ cur.drop (I + (N - (I + k)))).drop (N - k + k)).length = cur.length := by
  simp
  omega
theorem ownsRow_grow {w w' : World} {base : Nat} {e : TypeId} {size : Nat} {v : Value} {n : Nat} {xs : List Value} (h : w.ownsRow base e size v n xs) (hg : Grow w w') : w'.ownsRow base e size v n xs :=
  h.kept (grownBy_of_grow hg none) (by cases hv : v.ownBlock <;> simp)
theorem ownsRow_set {w : World} {base : Nat} {e : TypeId} {size : Nat} {v : Value} {n : Nat} {xs : List Value} (h : w.ownsRow base e size v n xs) {p : Addr} (hp : v.ownBlock ≠ some p.block) (u : Value) : (w.setCell p u).ownsRow base e size v n xs := by
  obtain ⟨h1, h2⟩ := h
  refine ⟨h1, ?_⟩
  rcases h2 with h2 | ⟨g, cap, cur, hv, hg, hh, r⟩
  · exact .inl h2
  · subst hv
    exact .inr ⟨g, cap, cur, rfl, hg, block_far (fun e => hp (by rw [← e]; rfl)) hh, r⟩
section
variable {P : Program} {α : Type} {enc : α → List Value}
/-- A row is appended to nothing: a row of one's own. -/
theorem wpList_append_copy {w : World} {ops : Array Oper} {rest : List Oper} {o : Oper} {a : Act} {Q : Exit → Act → World → Prop} (hgd : o.guard = none) (s x : Operand) (t : TypeId)
    (ho : o.op = .call { callee := .builtin .append, args := #[s, x], argTypes := #[t, t] }) (base : Nat) (e : TypeId) (i : TypeInfo) (z : Value) (size bytes : Nat) (ht : P.underlying t = some (.slice e)) (hi : P.info? e = some i) (hz : i.zero = some z)
    (hsize : i.size = size) (hby : i.bytes = bytes) (hzs : z.cells.size = size) (hsz : 0 < size) (hs : a.eval s = .slice none 0 0) (a0 : Option Addr) (cap : Nat) (xs : List α) (hx : a.eval x = .slice a0 xs.length cap)
    (hrow : RowAt enc size w a0 cap xs) (hk : ∀ x, (enc x).length = size) (h1 : ∀ x, ∀ v ∈ enc x, v.oneCell' = true) (hn : xs.length * bytes ≤ 140737488355328) (h63 : xs.length ≤ maxLen) (hb : base ≤ w.heap.size) (H : Nat) (hH : w.heap.size = H)
    (h : ∀ a' cap' w', w'.ownsRow base e size (.slice a' xs.length cap') xs.length (flat enc xs) → Grow w w' → (∀ y, a' = some y → y.block = H) → wpList P ops Q rest (a.put o.dst (.slice a' xs.length cap')) w') : wpList P ops Q (o :: rest) a w := by
  by_cases hn0 : xs = []
  · subst hn0
    exact wpList_append_none hgd s x t ho e i ht hi hs a0 cap hx (h none 0 w ⟨by simp [flat], .inl ⟨rfl, rfl⟩⟩ (Grow.refl _) (fun y hy => by cases hy))
  · have hpos := List.length_pos_iff.2 hn0
    obtain ⟨b, off, rfl, _⟩ := hrow.at (List.getElem?_eq_getElem hpos)
    refine wpList_append_lies w hgd s x t ho base e i z size bytes ht hi hz hsize hby hzs hsz (.slice none 0 0) 0 [] hs (World.ownsRow_nil _ _ _ _) ⟨b, off, none⟩ xs.length cap (flat enc xs) hx (flat_length hk xs) (hrow.news hk) (flat_one h1 xs) hpos (by omega) (by rw [Nat.zero_add]; exact hn) hb H hH ?_
    intro g cap' w' hown hgrow hat _
    simp only [List.nil_append, Nat.zero_add] at hown
    rw [Nat.zero_add]
    exact h (some ⟨g, 0, none⟩) cap' w' hown (grow_of_grown' hgrow) (fun y hy => by
      cases hy
      rcases hat with h | h
      · cases h
      · exact h)
end
end Go.Proofs.YtlioojekjnigiaeGreat
/- slices.Insert and slices.Delete, of a row of waits of one's own. -/
namespace Go.Proofs.YtlioojekjnigiaeGreat.IT
open Go.RowKit
set_option linter.unusedVariables false

theorem news_block {w : World} {b : Nat} {xv : Array Value} {xs : List Value} {t : TypeId} {k : Nat} (h : w.heap[b]? = some (.cells xv t (0, 0))) (ht : xv.toList.take k = xs) : ∀ j u, xs[j]? = some u → w.cell? ((⟨b, 0, none⟩ : Addr).add j) = some u := fun j u hu => by
  rw [add_at', Nat.zero_add]
  rw [← ht, List.getElem?_take] at hu
  split at hu
  · exact cell_of_block h (by simpa using hu)
  · cases hu

end Go.Proofs.YtlioojekjnigiaeGreat.IT
/- A player's turns. -/
namespace Go.Proofs.YtlioojekjnigiaeGreat.AM
set_option linter.unusedVariables false
set_option linter.unusedSimpArgs false

structure Turn where
  id : Id
  needs : List Id
def Turn.enc (t : Turn) : List D := [.int .i64 t.id.r, .int .i64 t.id.n, .list (t.needs.map Id.enc)]
def Turn.arg (t : Turn) : AVal := .agg [.dat (.int .i64 t.id.r), .dat (.int .i64 t.id.n), .dat (.list (t.needs.map Id.enc))]
def putAt {α : Type} (l : List α) (i : Nat) (x : α) : List α := l.take i ++ x :: l.drop i
/-- Where a turn goes. -/
def placeOf' (ts : List Turn) (x : Id) : Nat := match ts with
  | [] => 0
  | t :: u => if t.id.less x = true then placeOf' u x + 1 else 0
theorem placeOf_cons (t : Turn) (u : List Turn) (x : Id) : placeOf' (t :: u) x = if t.id.less x = true then placeOf' u x + 1 else 0 := rfl
theorem placeOf_le (x : Id) : ∀ ts : List Turn, placeOf' ts x ≤ ts.length
  | [] => Nat.le_refl _
  | t :: u => by
    unfold placeOf'
    have := placeOf_le x u
    split <;> simp <;> omega
theorem placeOf_lt {x : Id} : ∀ {ts : List Turn} {i : Nat} (hi : i < ts.length), i < placeOf' ts x → ts[i].id.less x = true
  | [], i, hi, _ => by simp at hi
  | t :: u, i, hi, h => by
    unfold placeOf' at h
    split at h
    · rename_i hl
      match i with
      | 0 => exact hl
      | i + 1 => exact placeOf_lt (ts := u) (by simpa using hi) (by omega)
    · omega
theorem placeOf_at {x : Id} : ∀ {ts : List Turn} (hi : placeOf' ts x < ts.length), (ts[placeOf' ts x]).id.less x = false
  | [], hi => by simp at hi
  | t :: u, hi => by
    by_cases hl : t.id.less x = true
    · have e : placeOf' (t :: u) x = placeOf' u x + 1 := by rw [placeOf_cons, if_pos hl]
      have hi' : placeOf' u x < u.length := by rw [e] at hi; simpa using hi
      have := placeOf_at (ts := u) hi'
      simp only [e, List.getElem_cons_succ]
      exact this
    · have e : placeOf' (t :: u) x = 0 := by rw [placeOf_cons, if_neg hl]
      simp only [e, List.getElem_cons_zero]
      simpa using hl
def insT (ts : List Turn) (t : Turn) : List Turn := putAt ts (placeOf' ts t.id) t
end Go.Proofs.YtlioojekjnigiaeGreat.AM
/- slices.Insert and slices.Delete, of a row of waits of one's own. -/
namespace Go.Proofs.YtlioojekjnigiaeGreat.IE
open Go.RowKit
set_option linter.unusedVariables false

theorem infoT : (Tryz.prog.info? 48).map (fun i => (i.zero, i.size, i.bytes)) = some (some (.agg #[.int .i64 0, .int .i64 0, .int .i64 0, .string ⟨#[]⟩, .slice none 0 0]), 5, 64) := by kernel_rfl
theorem news_block {w : World} {b : Nat} {xv : Array Value} {xs : List Value} {t : TypeId} {k : Nat} (h : w.heap[b]? = some (.cells xv t (0, 0))) (ht : xv.toList.take k = xs) : ∀ j u, xs[j]? = some u → w.cell? ((⟨b, 0, none⟩ : Addr).add j) = some u := fun j u hu => by
  rw [add_at', Nat.zero_add]
  rw [← ht, List.getElem?_take] at hu
  split at hu
  · exact cell_of_block h (by simpa using hu)
  · cases hu

set_option maxHeartbeats 2000000 in
set_option maxRecDepth 100000 in
theorem insert_end (base : Nat) (v : Value) (n : Nat) (cs xs : List Value) (vb vc : Nat) (xv : Array Value) (w : World) (hown : w.ownsRow base 48 5 v n cs) (hx : w.heap[vb]? = some (.cells xv 48 (0, 0))) (hxl : xs.length = 5) (hxt : xv.toList.take 5 = xs) (hxs : xv.size = vc * 5) (hvc : 1 ≤ vc) (h1 : ∀ u ∈ xs, u.oneCell' = true) (hn : n ≤ 1000) (hb : base ≤ w.heap.size) :
    Calls Tryz.prog 107 #[v, .int .i64 n, .slice (some ⟨vb, 0, none⟩) 1 vc] w fun e w' => ∃ g cap, e = .returned (.slice (some ⟨g, 0, none⟩) (n + 1) cap) ∧ w'.ownsRow base 48 5 (.slice (some ⟨g, 0, none⟩) (n + 1) cap) (n + 1) (cs ++ xs) ∧ w.grownBy w' v.ownBlock ∧ (v.ownBlock = some g ∨ g = w.heap.size) := by
  obtain ⟨i0, hinf, hz0, hz1, hz2⟩ := info_parts infoT
  have HX : Hid (∀ j u, xs[j]? = some u → w.cell? ((⟨vb, 0, none⟩ : Addr).add j) = some u) := news_block hx hxt
  have HO : Hid (w.ownsRow base 48 5 v n cs) := hown
  have H3 : Hid (xs.length = 1 * 5) := by show xs.length = _; omega
  clear hx hxt hxs hxl
  rcases hown.2 with ⟨rfl, rfl⟩ | ⟨g, cap, cur, rfl, hbg, hg, hle, hcm, hcs, ht⟩
  · clear hown
    go_enter Tryz.func107, Tryz.ntmps107
    go_wp2_with (at_builtin; go_must (refine wpList_append_lies _ (by rfl) _ _ 22 (by rfl) base 48 i0 (.agg #[.int .i64 0, .int .i64 0, .int .i64 0, .string ⟨#[]⟩, .slice none 0 0]) 5 64 Tryz.underlying22 hinf hz0 hz1 hz2 (by rfl) (by decide) (.slice none 0 0) 0 cs (by rfl) HO.out ⟨vb, 0, none⟩ 1 vc xs (by rfl) H3.out HX.out h1 (by decide) (by unfold maxLen; omega) (by omega) hb w.heap.size rfl ?_; intro g cap' w3 hown3 hgrow hat hltg))
    go_ret
    exact ⟨g, cap', rfl, hown3, hgrow, hat⟩
  · clear hown hg hcs ht hbg
    have hcm' : cap ≤ 9223372036854775807 := by unfold maxLen at hcm; omega
    clear hcm
    go_enter Tryz.func107, Tryz.ntmps107
    go_wp2_with (at_builtin; go_must (refine wpList_append_lies _ (by rfl) _ _ 22 (by rfl) base 48 i0 (.agg #[.int .i64 0, .int .i64 0, .int .i64 0, .string ⟨#[]⟩, .slice none 0 0]) 5 64 Tryz.underlying22 hinf hz0 hz1 hz2 (by rfl) (by decide) (.slice (some ⟨g, 0, none⟩) n cap) n cs (by rfl) HO.out ⟨vb, 0, none⟩ 1 vc xs (by rfl) H3.out HX.out h1 (by decide) (by unfold maxLen; omega) (by omega) hb w.heap.size rfl ?_; intro g' cap' w3 hown3 hgrow hat hltg))
    all_goals
      go_ret
      exact ⟨g', cap', rfl, hown3, hgrow, hat⟩

set_option maxHeartbeats 4000000 in
set_option maxRecDepth 100000 in
theorem insert_room (base g n cap i : Nat) (cur : Array Value) (cs xs : List Value) (vb vc : Nat) (xv : Array Value) (w : World) (hg : w.heap[g]? = some (.cells cur 48 (0, 0))) (hbg : base ≤ g) (hcm : cap ≤ maxLen) (hcs : cur.size = cap * 5) (ht : cur.toList.take (n * 5) = cs) (hroom : n + 1 ≤ cap) (hi : i < n)
    (hx : w.heap[vb]? = some (.cells xv 48 (0, 0))) (hne : vb ≠ g) (hxl : xs.length = 5) (hxt : xv.toList.take 5 = xs) (hxs : xv.size = vc * 5) (hvc : 1 ≤ vc) (h1 : ∀ u ∈ xs, u.oneCell' = true) (h1c : ∀ u ∈ cs, u.oneCell' = true) (hn : n ≤ 1000) :
    Calls Tryz.prog 107 #[.slice (some ⟨g, 0, none⟩) n cap, .int .i64 i, .slice (some ⟨vb, 0, none⟩) 1 vc] w fun e w' => e = .returned (.slice (some ⟨g, 0, none⟩) (n + 1) cap) ∧ w'.ownsRow base 48 5 (.slice (some ⟨g, 0, none⟩) (n + 1) cap) (n + 1) (cs.take (i * 5) ++ xs ++ cs.drop (i * 5)) ∧ w.grownBy w' (some g) := by
  obtain ⟨i0, hinf, hz0, hz1, hz2⟩ := info_parts infoT
  have hlt := lt_of_block hg
  have hcm' : cap ≤ 9223372036854775807 := by unfold maxLen at hcm; omega
  have hcsl : cs.length = n * 5 := by rw [← ht, List.length_take]; simp; omega
  have hov : ∀ lb cb, (callFunc 126 #[.slice (some ⟨vb, 0, none⟩) 1 vc, .slice (some ⟨g, (i + 1) * 5, none⟩) lb cb]).run Tryz.prog w = .ok (.value (.bool false)) w := fun lb cb => by
    rw [run_callFunc_extern Tryz.func126 (by kernel_rfl) (by kernel_rfl) (by kernel_rfl) (e := Extern.SlicesOverlaps.overlaps #[22, 22] #[4]) (by kernel_rfl),
      Lib.run_overlaps_apart w 22 4 48 Tryz.underlying22 5 Tryz.sizeOf48 ⟨vb, 0, none⟩ ⟨g, (i + 1) * 5, none⟩ 1 vc lb cb hne 48 48 (vc * 5) (cap * 5) (by simp [World.shape?, hx, hxs]) (by simp [World.shape?, hg, hcs]) (by omega) (by simp [World.frozen?, hx]) (by simp [World.frozen?, hx])]
    rfl
  have hnq : ¬ ((i : Int) = (n : Int)) := by omega
  have hnq' : decide ((i : Int) = (n : Int)) = false := by simpa using hnq
  have hroom' : decide ((cap : Int) < (n : Int) + 1) = false := by simp; omega
  obtain ⟨R1, hR1⟩ : ∃ R1 : List Value, R1 = cur.toList.take (i * 5 + 5) ++ cs.drop (i * 5) ++ cur.toList.drop (i * 5 + 5 + (n * 5 - i * 5)) := ⟨_, rfl⟩
  obtain ⟨R2, hR2⟩ : ∃ R2 : List Value, R2 = R1.take (i * 5) ++ xs ++ R1.drop (i * 5 + 5) := ⟨_, rfl⟩
  have hcl : cur.toList.length = cap * 5 := by simpa using hcs
  have t2 : R2.take ((n + 1) * 5) = cs.take (i * 5) ++ xs ++ cs.drop (i * 5) := by
    rw [hR2, hR1, show (n + 1) * 5 = n * 5 + 5 from by omega]
    exact row_shift (by omega) hxl (by omega) ht
  have s2 : R2.toArray.size = cap * 5 := by
    have := row_shift_size (cur := cur.toList) (cs := cs) (xs := xs) (I := i * 5) (N := n * 5) (k := 5) (by omega) hxl (by omega) hcsl
    rw [hR2, hR1]
    simpa [hcl] using this
  have l1 : R1.length = cap * 5 := by rw [hR1]; simp [hcsl, hcs]; omega
  have hdl : (cs.drop (i * 5)).length = (n - i) * 5 := by rw [List.length_drop]; omega
  have hcp1 : ∀ ty dc sc, (Builtin.copy_ #[22, 22] ty #[.slice (some ⟨g, (i + 1) * 5, none⟩) (n - i) dc, .slice (some ⟨g, i * 5, none⟩) (n + 1 - i) sc]).run Tryz.prog w.drew = .ok (goInt ((n - i : Nat) : Int)) (w.drew.setRow g R1.toArray) := fun ty dc sc => by
    have hm : Nat.min (n + 1 - i) (n - i) = n - i := by simp only [Nat.min_def]; split <;> omega
    have := run_copy_row (P := Tryz.prog) w.drew 22 22 ty 48 5 g ((i + 1) * 5) (n - i) dc ⟨g, i * 5, none⟩ (n + 1 - i) sc (cs.drop (i * 5)) cur 48 Tryz.underlying22 i0 hinf hz1 (by rw [hm, hdl])
      (fun j v hj => by
        rw [add_at']
        rw [List.getElem?_drop, ← ht, List.getElem?_take] at hj
        split at hj
        · exact cell_of_block (w := w.drew) hg (by simpa using hj)
        · cases hj) hg (by rw [hdl]; omega) (fun v hv => h1c v (List.mem_of_mem_drop hv))
    rw [hm, hdl, show (i + 1) * 5 = i * 5 + 5 from by omega, show i * 5 + 5 + (n - i) * 5 = i * 5 + 5 + (n * 5 - i * 5) from by omega, ← hR1] at this
    rw [show (i + 1) * 5 = i * 5 + 5 from by omega]
    exact this
  have g1 : (w.drew.setRow g R1.toArray).heap[g]? = some (.cells R1.toArray 48 (0, 0)) := setRow_heap w.drew g _ R1.toArray 48 (0, 0) hg
  have x1 : (w.drew.setRow g R1.toArray).heap[vb]? = some (.cells xv 48 (0, 0)) := (setRow_other w.drew g _ _ hne).trans hx
  have gr1 : w.grownBy (w.drew.setRow g R1.toArray) (some g) := grownBy_trans (grownBy_drew w _) (grownBy_setRow (w := w.drew) hg)
  generalize w.drew.setRow g R1.toArray = W1 at *
  have hcp2 : ∀ ty dc, (Builtin.copy_ #[22, 22] ty #[.slice (some ⟨g, i * 5, none⟩) (n + 1 - i) dc, .slice (some ⟨vb, 0, none⟩) 1 vc]).run Tryz.prog W1 = .ok (goInt 1) (W1.setRow g R2.toArray) := fun ty dc => by
    have hm : Nat.min 1 (n + 1 - i) = 1 := by simp only [Nat.min_def]; split <;> omega
    have := run_copy_row (P := Tryz.prog) W1 22 22 ty 48 5 g (i * 5) (n + 1 - i) dc ⟨vb, 0, none⟩ 1 vc xs R1.toArray 48 Tryz.underlying22 i0 hinf hz1 (by rw [hm, hxl]) (news_block x1 hxt) g1 (by rw [hxl]; simp; omega) h1
    rw [hm, hxl] at this
    simp only at this
    rw [← hR2] at this
    exact this
  have HG2 : Hid ((W1.setRow g R2.toArray).ownsRow base 48 5 (.slice (some ⟨g, 0, none⟩) (n + 1) cap) (n + 1) (cs.take (i * 5) ++ xs ++ cs.drop (i * 5))) :=
    ⟨by simp [hxl, hcsl]; omega, .inr ⟨g, cap, R2.toArray, rfl, hbg, setRow_heap W1 g _ R2.toArray 48 (0, 0) g1, hroom, hcm, s2, t2⟩⟩
  have HGR : Hid (w.grownBy (W1.setRow g R2.toArray) (some g)) := grownBy_trans gr1 (grownBy_setRow g1)
  clear hR1 hR2 t2 s2 l1 g1 x1 gr1 hcl hdl hcsl ht h1c h1 hx hxt hxs hxl hg hcs
  have hcn : ¬ (cap = i + 1) := by omega
  have hcn' : ¬ (cap = i) := by omega
  go_enter Tryz.func107, Tryz.ntmps107
  go_wp2_with (simp only [hov])
  refine wp_region_path [(0, 0), (1, 0), (2, 0), (3, 2), (4, 2), (5, 0), (6, 0), (7, 2), (8, 3)] (by kernel_rfl) (by kernel_rfl) (by kernel_rfl) (by kernel_rfl) ?_
  simp only [parts, headed, headed2, List.getElem?_toArray, List.getElem?_cons_zero, List.getElem?_cons_succ]
  refine parts_step fun K HK => ?_
  go_wp2_with fail
  refine HK.out _ _ (Grow.refl _) ?_
  clear HK K
  refine parts_step2 (fun hw => by first | (cases hw; done) | (apply looks_run; intro w'; go_simp; try first | rfl | rw [if_neg (by omega)] | rw [if_pos (by omega)])) fun K HK => ?_
  go_wp2_with fail
  refine HK.out _ _ (Grow.refl _) ?_
  clear HK K
  refine parts_step2 (fun hw => by first | (cases hw; done) | (apply looks_run; intro w'; go_simp; try first | rfl | rw [if_neg (by omega)] | rw [if_pos (by omega)])) fun K HK => ?_
  go_wp2_with fail
  refine HK.out _ _ (Grow.refl _) ?_
  clear HK K
  refine parts_cut2 (fun hw => by first | (cases hw; done) | (apply looks_run; intro w'; go_simp; try first | rfl | rw [if_neg (by omega)] | rw [if_pos (by omega)])) fun K HK => ?_
  go_wp2_with (at_builtin; go_must (refine wpList_copy_run _ (by rfl) _ _ 22 22 (by rfl) _ _ (by rfl) (by rfl) (hcp1 _ _ _) ?_))
  refine HK.out _ _ ?_
  clear HK K
  refine parts_step fun K HK => ?_
  go_wp2_with fail
  refine HK.out _ _ (Grow.refl _) ?_
  clear HK K
  refine parts_done ?_
  go_wp2_with (at_builtin; refine wpList_copy_run _ (by rfl) _ _ 22 22 (by rfl) _ _ (by rfl) (by rfl) (hcp2 _ _) ?_)
  go_ret
  exact ⟨rfl, HG2.out, HGR.out⟩

set_option maxHeartbeats 4000000 in
set_option maxRecDepth 100000 in
theorem insert_grow (base g n cap i : Nat) (cur : Array Value) (cs xs : List Value) (vb vc : Nat) (xv : Array Value) (w : World) (hg : w.heap[g]? = some (.cells cur 48 (0, 0))) (hb : base ≤ w.heap.size) (hcm : cap ≤ maxLen) (hcs : cur.size = cap * 5) (ht : cur.toList.take (n * 5) = cs) (hnc : n ≤ cap) (hroom : cap < n + 1) (hi : i < n)
    (hx : w.heap[vb]? = some (.cells xv 48 (0, 0))) (hxl : xs.length = 5) (hxt : xv.toList.take 5 = xs) (hxs : xv.size = vc * 5) (hvc : 1 ≤ vc) (h1 : ∀ u ∈ xs, u.oneCell' = true) (h1c : ∀ u ∈ cs, u.oneCell' = true) (hn : n ≤ 1000) :
    Calls Tryz.prog 107 #[.slice (some ⟨g, 0, none⟩) n cap, .int .i64 i, .slice (some ⟨vb, 0, none⟩) 1 vc] w fun e w' => ∃ cap', e = .returned (.slice (some ⟨w.heap.size, 0, none⟩) (n + 1) cap') ∧ w'.ownsRow base 48 5 (.slice (some ⟨w.heap.size, 0, none⟩) (n + 1) cap') (n + 1) (cs.take (i * 5) ++ xs ++ cs.drop (i * 5)) ∧ Grow w w' := by
  obtain ⟨i0, hinf, hz0, hz1, hz2⟩ := info_parts infoT
  have hlt := lt_of_block hg
  have hltv := lt_of_block hx
  have hcm' : cap ≤ 9223372036854775807 := by unfold maxLen at hcm; omega
  have hcsl : cs.length = n * 5 := by rw [← ht, List.length_take]; simp; omega
  have hnq : ¬ ((i : Int) = (n : Int)) := by omega
  have hnq' : decide ((i : Int) = (n : Int)) = false := by simpa using hnq
  have hroom' : decide ((cap : Int) < (n : Int) + 1) = true := by simp; omega
  have hsrc : ∀ j v, cs[j]? = some v → w.cell? ⟨g, j, none⟩ = some v := fun j v hj => by
    rw [← ht, List.getElem?_take] at hj
    split at hj
    · exact cell_of_block hg (by simpa using hj)
    · cases hj
  obtain ⟨G, hG⟩ : ∃ G, G = grownCap w (n + 1) cap 48 := ⟨_, rfl⟩
  have hGn : n + 1 ≤ G := by rw [hG]; exact grownCap_ge w _ _ _
  have hGm : G ≤ maxLen := by rw [hG]; exact grownCap_le_maxLen w (n + 1) cap _ (by unfold maxLen; omega)
  have hG63 : G ≤ 9223372036854775807 := by unfold maxLen at hGm; omega
  obtain ⟨R0, hR0⟩ : ∃ R0 : Array Value, R0 = (cs.take (i * 5)).toArray ++ Builtin.zeroCells (Value.agg #[.int .i64 0, .int .i64 0, .int .i64 0, .string ⟨#[]⟩, .slice none 0 0]).cells (n + 1 - i) ++ Builtin.zeroCells (Value.agg #[.int .i64 0, .int .i64 0, .int .i64 0, .string ⟨#[]⟩, .slice none 0 0]).cells (G - (n + 1)) := ⟨_, rfl⟩
  have hrz : ∀ ty, (Builtin.append_ #[22, 3] ty #[.slice (some ⟨g, 0, none⟩) i cap, .int .i64 ((n : Int) + 1 - (i : Int))]).run Tryz.prog w = .ok (.slice (some ⟨w.heap.size, 0, none⟩) (n + 1) G) (w.drew.alloc (.cells R0 48)) := fun ty => by
    have hold : (Builtin.firstCells i0.size i (.slice (some ⟨g, 0, none⟩) i cap)).run Tryz.prog w.drew = .ok (cs.take (i * 5)).toArray w.drew := by
      rw [hz1]
      exact run_firstCells_some w.drew 5 i ⟨g, 0, none⟩ i cap (cs.take (i * 5)) (by rw [List.length_take]; omega) (fun j v hj => by
        rw [add_at', Nat.zero_add]
        rw [List.getElem?_take] at hj
        split at hj
        · exact hsrc j v hj
        · cases hj)
    have h := Lib.run_append_grow_zeros w 22 3 ty 48 i0 _ .i64 .i64 Tryz.underlying22 Tryz.underlying3 hinf hz0 (some ⟨g, 0, none⟩) i cap (cs.take (i * 5)) hold (n + 1 - i) (by omega) (by omega) (by omega) (by omega) (by rw [hz2]; omega) (growslice_fits_wide (by omega) (by rw [hz2]; omega))
    rw [show i + (n + 1 - i) = n + 1 from by omega, ← hG, ← hR0] at h
    rw [show (n : Int) + 1 - (i : Int) = ((n + 1 - i : Nat) : Int) from by omega]
    exact h
  have hzc : (Value.agg #[.int .i64 0, .int .i64 0, .int .i64 0, .string ⟨#[]⟩, .slice none 0 0]).cells.size = 5 := rfl
  have s0 : R0.toList.length = G * 5 := by
    rw [hR0]
    simp [size_zeroCells, hzc, hcsl]
    omega
  have t0 : R0.toList.take (i * 5) = cs.take (i * 5) := by
    rw [hR0]
    simp only [Array.toList_append, List.append_assoc]
    exact List.take_left' (by simp [hcsl]; omega)
  have g0 : (w.drew.alloc (.cells R0 48)).heap[w.heap.size]? = some (.cells R0 48 (0, 0)) := heap_alloc_new w.drew _
  have gr0 : Grow w (w.drew.alloc (.cells R0 48)) := (Grow.refl w).drew.alloc _
  generalize w.drew.alloc (.cells R0 48) = W0 at *
  have x0 := grow_block gr0 hx
  obtain ⟨R1, hR1⟩ : ∃ R1 : List Value, R1 = R0.toList.take (i * 5) ++ xs ++ R0.toList.drop (i * 5 + 5) := ⟨_, rfl⟩
  obtain ⟨R2, hR2⟩ : ∃ R2 : List Value, R2 = R1.take (i * 5 + 5) ++ cs.drop (i * 5) ++ R1.drop (i * 5 + 5 + (n * 5 - i * 5)) := ⟨_, rfl⟩
  have t2 : R2.take ((n + 1) * 5) = cs.take (i * 5) ++ xs ++ cs.drop (i * 5) := by
    rw [hR2, hR1, show (n + 1) * 5 = n * 5 + 5 from by omega]
    exact row_new (by omega) hxl t0 hcsl
  have l1 : R1.length = G * 5 := by rw [hR1]; simp [hxl]; simp at s0; omega
  have l2 : R2.length = G * 5 := by rw [hR2]; simp [hcsl, l1]; omega
  have hdl : (cs.drop (i * 5)).length = (n - i) * 5 := by rw [List.length_drop]; omega
  have hcp1 : ∀ ty dc, (Builtin.copy_ #[22, 22] ty #[.slice (some ⟨w.heap.size, i * 5, none⟩) (n + 1 - i) dc, .slice (some ⟨vb, 0, none⟩) 1 vc]).run Tryz.prog W0 = .ok (goInt 1) (W0.setRow w.heap.size R1.toArray) := fun ty dc => by
    have hm : Nat.min 1 (n + 1 - i) = 1 := by simp only [Nat.min_def]; split <;> omega
    have := run_copy_row (P := Tryz.prog) W0 22 22 ty 48 5 w.heap.size (i * 5) (n + 1 - i) dc ⟨vb, 0, none⟩ 1 vc xs R0 48 Tryz.underlying22 i0 hinf hz1 (by rw [hm, hxl]) (news_block x0 hxt) g0 (by rw [hxl]; simp at s0; omega) h1
    rw [hm, hxl, ← hR1] at this
    exact this
  have g1 : (W0.setRow w.heap.size R1.toArray).heap[w.heap.size]? = some (.cells R1.toArray 48 (0, 0)) := setRow_heap W0 w.heap.size _ R1.toArray 48 (0, 0) g0
  have gr1 : Grow w (W0.setRow w.heap.size R1.toArray) := Below.trans gr0 ⟨rfl, rfl, rfl, by simp [World.setRow], fun k hk => setRow_other _ _ _ _ (by omega)⟩
  generalize W0.setRow w.heap.size R1.toArray = W1 at *
  have hcp2 : ∀ ty dc sc, (Builtin.copy_ #[22, 22] ty #[.slice (some ⟨w.heap.size, (i + 1) * 5, none⟩) (n - i) dc, .slice (some ⟨g, i * 5, none⟩) (n - i) sc]).run Tryz.prog W1.drew = .ok (goInt ((n - i : Nat) : Int)) (W1.drew.setRow w.heap.size R2.toArray) := fun ty dc sc => by
    have hm : Nat.min (n - i) (n - i) = n - i := Nat.min_self _
    have := run_copy_row (P := Tryz.prog) W1.drew 22 22 ty 48 5 w.heap.size ((i + 1) * 5) (n - i) dc ⟨g, i * 5, none⟩ (n - i) sc (cs.drop (i * 5)) R1.toArray 48 Tryz.underlying22 i0 hinf hz1 (by rw [hm, hdl])
      (fun j v hj => by
        rw [add_at']
        rw [List.getElem?_drop] at hj
        exact cell_grow gr1.drew (hsrc _ v hj)) g1 (by rw [hdl]; simp; omega) (fun v hv => h1c v (List.mem_of_mem_drop hv))
    rw [hm, hdl, show (i + 1) * 5 = i * 5 + 5 from by omega, show i * 5 + 5 + (n - i) * 5 = i * 5 + 5 + (n * 5 - i * 5) from by omega] at this
    simp only at this
    rw [← hR2] at this
    rw [show (i + 1) * 5 = i * 5 + 5 from by omega]
    exact this
  have HG2 : Hid ((W1.drew.setRow w.heap.size R2.toArray).ownsRow base 48 5 (.slice (some ⟨w.heap.size, 0, none⟩) (n + 1) G) (n + 1) (cs.take (i * 5) ++ xs ++ cs.drop (i * 5))) :=
    ⟨by simp [hxl, hcsl]; omega, .inr ⟨w.heap.size, G, R2.toArray, rfl, hb, setRow_heap W1.drew w.heap.size _ R2.toArray 48 (0, 0) g1, hGn, hGm, by simpa using l2, t2⟩⟩
  have HGR : Hid (Grow w (W1.drew.setRow w.heap.size R2.toArray)) := Below.trans gr1.drew ⟨rfl, rfl, rfl, by simp [World.setRow], fun k hk => setRow_other _ _ _ _ (by omega)⟩
  generalize W1.drew.setRow w.heap.size R2.toArray = W2 at *
  clear hR0 hR1 hR2 t0 t2 s0 l1 l2 g0 x0 gr0 g1 gr1 hdl hcsl ht h1c h1 hx hxt hxs hxl hg hcs hsrc hG hb hGm
  have hcn : ¬ (G = i + 1) := by omega
  have hcn' : ¬ (G = i) := by omega
  have hcn2 : ¬ (cap = i) := by omega
  go_enter Tryz.func107, Tryz.ntmps107
  go_wp2_with (first
    | (at_builtin; go_must (refine wpList_append_ran _ (by rfl) _ _ 22 3 (by rfl) _ _ (by rfl) (by rfl) (hrz _) ?_))
    | (at_builtin; go_must (refine wpList_copy_run _ (by rfl) _ _ 22 22 (by rfl) _ _ (by rfl) (by rfl) (hcp1 _ _) ?_)))
  refine wp_region_path [(0, 0), (1, 0), (2, 0), (3, 2), (4, 2), (5, 0), (6, 0), (7, 2), (8, 3)] (by kernel_rfl) (by kernel_rfl) (by kernel_rfl) (by kernel_rfl) ?_
  simp only [parts, headed, headed2, List.getElem?_toArray, List.getElem?_cons_zero, List.getElem?_cons_succ]
  refine parts_step fun K HK => ?_
  go_wp2_with fail
  refine HK.out _ _ (Grow.refl _) ?_
  clear HK K
  refine parts_step2 (fun hw => by first | (cases hw; done) | (apply looks_run; intro w'; go_simp; try first | rfl | rw [if_neg (by omega)] | rw [if_pos (by omega)])) fun K HK => ?_
  go_wp2_with fail
  refine HK.out _ _ (Grow.refl _) ?_
  clear HK K
  refine parts_step2 (fun hw => by first | (cases hw; done) | (apply looks_run; intro w'; go_simp; try first | rfl | rw [if_neg (by omega)] | rw [if_pos (by omega)])) fun K HK => ?_
  go_wp2_with fail
  refine HK.out _ _ (Grow.refl _) ?_
  clear HK K
  refine parts_cut2 (fun hw => by first | (cases hw; done) | (apply looks_run; intro w'; go_simp; try first | rfl | rw [if_neg (by omega)] | rw [if_pos (by omega)])) fun K HK => ?_
  go_wp2_with (at_builtin; go_must (refine wpList_copy_run _ (by rfl) _ _ 22 22 (by rfl) _ _ (by rfl) (by rfl) (hcp2 _ _ _) ?_))
  refine HK.out _ _ ?_
  clear HK K
  refine parts_step fun K HK => ?_
  go_wp2_with fail
  refine HK.out _ _ (Grow.refl _) ?_
  clear HK K
  refine parts_done ?_
  go_wp2
  go_ret
  exact ⟨G, rfl, HG2.out, HGR.out⟩

/-- slices.Insert of one wait into a row of one's own. -/
theorem insert_any (base : Nat) (v : Value) (n i : Nat) (cs xs : List Value) (vb vc : Nat) (xv : Array Value) (w : World) (hown : w.ownsRow base 48 5 v n cs) (hx : w.heap[vb]? = some (.cells xv 48 (0, 0))) (hne : v.ownBlock ≠ some vb) (hxl : xs.length = 5) (hxt : xv.toList.take 5 = xs) (hxs : xv.size = vc * 5) (hvc : 1 ≤ vc) (h1 : ∀ u ∈ xs, u.oneCell' = true) (h1c : ∀ u ∈ cs, u.oneCell' = true) (hn : n ≤ 1000) (hi : i ≤ n) (hb : base ≤ w.heap.size) :
    Calls Tryz.prog 107 #[v, .int .i64 i, .slice (some ⟨vb, 0, none⟩) 1 vc] w fun e w' => ∃ g cap, e = .returned (.slice (some ⟨g, 0, none⟩) (n + 1) cap) ∧ w'.ownsRow base 48 5 (.slice (some ⟨g, 0, none⟩) (n + 1) cap) (n + 1) (cs.take (i * 5) ++ xs ++ cs.drop (i * 5)) ∧ w.grownBy w' v.ownBlock ∧ (v.ownBlock = some g ∨ w.heap.size ≤ g) := by
  by_cases e : i = n
  · subst e
    refine (insert_end base v i cs xs vb vc xv w hown hx hxl hxt hxs hvc h1 hn hb).mono ?_
    rintro e w' ⟨g, cap, he, ho, hgr, hat⟩
    refine ⟨g, cap, he, ?_, hgr, hat.imp id fun h => by omega⟩
    have hl := hown.1
    rw [List.take_of_length_le (by omega), List.drop_of_length_le (by omega), List.append_nil]
    exact ho
  · rcases hown.2 with ⟨rfl, rfl⟩ | ⟨g, cap, cur, rfl, hbg, hg, hle, hcm, hcs, ht⟩
    · omega
    · by_cases hroom : n + 1 ≤ cap
      · refine (insert_room base g n cap i cur cs xs vb vc xv w hg hbg hcm hcs ht hroom (by omega) hx (fun e => hne (by rw [e]; rfl)) hxl hxt hxs hvc h1 h1c hn).mono ?_
        rintro e w' ⟨he, ho, hgr⟩
        exact ⟨g, cap, he, ho, hgr, .inl rfl⟩
      · refine (insert_grow base g n cap i cur cs xs vb vc xv w hg hb hcm hcs ht hle (by omega) (by omega) hx hxl hxt hxs hvc h1 h1c hn).mono ?_
        rintro e w' ⟨cap', he, ho, hgr⟩
        exact ⟨w.heap.size, cap', he, ho, grownBy_of_grow hgr _, .inr (Nat.le_refl _)⟩
end Go.Proofs.YtlioojekjnigiaeGreat.IE
/- Sites: one more waits. -/
namespace Go.Proofs.YtlioojekjnigiaeGreat.AM
set_option linter.unusedVariables false
set_option linter.unusedSimpArgs false
set_option maxHeartbeats 0 in
theorem insertEntry_end (es : List (List D)) (x : List D) (hs : es.length ≤ 1000) (hx : x.length = 5) : ECall Tryz.prog 107 [.row 0, dInt es.length, .row 1] [(0, .rows 48 5 es true), (1, .rows 48 5 [x] true)] 2 (.row 2) [(0, .dead), (1, .dead), (2, .rows 48 5 (es ++ [x]) true)] 1 := by
  refine acall_intro tab_all tab_mixed Tryz.func107 (by kernel_rfl) Tryz.ntmps107 rfl ?_
  conv => whnf
  refine .mk es.length es.length rfl rfl (Nat.le_refl _) (Nat.le_refl _) ?_
  conv => whnf
  repeat (first | (refine Conf.mk (by kernel_rfl) ?_; conv => whnf) | (refine SeqOk.go ?_; conv => whnf))
  refine BoolCase.no rfl ?_
  conv => whnf
  repeat (first | (refine Conf.mk (by kernel_rfl) ?_; conv => whnf) | (refine SeqOk.go ?_; conv => whnf))
  refine BoolCase.yes (beq_self_eq_true _) ?_
  conv => whnf
  repeat (first | (refine Conf.mk (by kernel_rfl) ?_; conv => whnf) | (refine SeqOk.go ?_; conv => whnf))
  refine ⟨by simpa using hx, by simp; omega, ?_⟩
  conv => whnf
  repeat (first | (refine Conf.mk (by kernel_rfl) ?_; conv => whnf) | (refine SeqOk.go ?_; conv => whnf))
  exact .mk [] [0, 1, 2] (.row 2) [(0, .dead), (1, .dead), (2, .rows 48 5 (es ++ [x]) true)] rfl (.same rfl) ⟨trivial, trivial, ⟨rfl, rfl, rfl, rfl⟩, trivial⟩ rfl rfl ⟨rfl, rfl, rfl⟩
theorem insertEntry_ok (l : List Entry') (t : Entry') (i : Nat) (hi : i ≤ l.length) (hs : l.length ≤ 1000) : ECall Tryz.prog 107 [.row 0, dInt i, .row 1] [(0, .rows 48 5 (l.map Entry'.enc) true), (1, .rows 48 5 [t.enc] true)] 2 (.row 2) [(0, .dead), (1, .dead), (2, .rows 48 5 ((putAt l i t).map Entry'.enc) true)] 1 := by
  have e : (putAt l i t).map Entry'.enc = (l.map Entry'.enc).take i ++ t.enc :: (l.map Entry'.enc).drop i := by
    unfold putAt
    rw [List.map_append, List.map_cons, map_take', map_drop']
  rw [e]
  by_cases h : i = l.length
  · have := insertEntry_end (l.map Entry'.enc) t.enc (by simpa using hs) rfl
    rw [h, List.take_of_length_le (by simp), List.drop_of_length_le (by simp)]
    rw [List.length_map] at this
    exact this
  · exact acall_insert (T := 48) (k := 5) (by decide) (by kernel_rfl) (l.map Entry'.enc) t.enc i (by simp; omega) (by simpa using hs) fun n i v cs xs vb vc xv w h1 h2 h3 h4 h5 h6 h7 h8 h9 h10 h11 => IE.insert_any 0 v n i cs xs vb vc xv w h1 h2 h3 h4 h5 h6 h7 h8 h9 h10 h11 (Nat.zero_le _)
/-- Where one that waits goes. -/
def waitAt (ws : List Entry') (x : Id) : Nat := match ws with
  | [] => 0
  | t :: u => if t.id.less x = true then waitAt u x + 1 else 0
theorem waitAt_cons (t : Entry') (u : List Entry') (x : Id) : waitAt (t :: u) x = if t.id.less x = true then waitAt u x + 1 else 0 := rfl
theorem waitAt_le (x : Id) : ∀ ws : List Entry', waitAt ws x ≤ ws.length
  | [] => Nat.le_refl _
  | t :: u => by
    unfold waitAt
    have := waitAt_le x u
    split <;> simp <;> omega
theorem waitAt_lt {x : Id} : ∀ {ws : List Entry'} {i : Nat} (hi : i < ws.length), i < waitAt ws x → ws[i].id.less x = true
  | [], i, hi, _ => by simp at hi
  | t :: u, i, hi, h => by
    unfold waitAt at h
    split at h
    · rename_i hl
      match i with
      | 0 => exact hl
      | i + 1 => exact waitAt_lt (ws := u) (by simpa using hi) (by omega)
    · omega
theorem waitAt_at {x : Id} : ∀ {ws : List Entry'} (hi : waitAt ws x < ws.length), (ws[waitAt ws x]).id.less x = false
  | [], hi => by simp at hi
  | t :: u, hi => by
    by_cases hl : t.id.less x = true
    · have e : waitAt (t :: u) x = waitAt u x + 1 := by rw [waitAt_cons, if_pos hl]
      have hi' : waitAt u x < u.length := by rw [e] at hi; simpa using hi
      have := waitAt_at (ws := u) hi'
      simp only [e, List.getElem_cons_succ]
      exact this
    · have e : waitAt (t :: u) x = 0 := by rw [waitAt_cons, if_neg hl]
      simp only [e, List.getElem_cons_zero]
      simpa using hl
set_option maxHeartbeats 0 in
theorem await_ok (r : Int) (log ws : List Entry') (e : Entry') (hs : ws.length ≤ 1000) : ECall Tryz.prog 83 [.ptr 0 0, e.arg] [(0, .vars 84 3 [dInt r, .row 1, .row 2] true), (1, .rows 48 5 (log.map Entry'.enc) true), (2, .rows 48 5 (ws.map Entry'.enc) true)] 3 (.tup []) [(0, .vars 84 3 [dInt r, .row 1, .row 3] true), (1, .rows 48 5 (log.map Entry'.enc) true), (2, .dead), (3, .rows 48 5 ((putAt ws (waitAt ws e.id) e).map Entry'.enc) true)] 1 := by
  have hple := waitAt_le e.id ws
  refine acall_cut tab_all tab_mixed Tryz.func83 (by kernel_rfl) Tryz.ntmps83 rfl ?_
  conv => whnf
  conv => whnf
  refine SeqOk.cut' ⟨[(0, .ptr 0 0), (4, dInt (waitAt ws e.id)), (3, .ptr 3 0)], 4, [(0, .vars 84 3 [dInt r, .row 1, .row 2] true), (1, .rows 48 5 (log.map Entry'.enc) true), (2, .rows 48 5 (ws.map Entry'.enc) true), (3, .vars 48 5 [dInt e.id.r, dInt e.id.n, dInt e.colors, .dat (.str e.text), .dat (.list (e.links.map Id.enc))] true)]⟩ ?_ ?_
  · conv => whnf
    refine LoopOk.mk (fun m s => ∃ i, i + m = waitAt ws e.id ∧ s = ⟨[(0, .ptr 0 0), (4, dInt i), (3, .ptr 3 0)], 4, [(0, .vars 84 3 [dInt r, .row 1, .row 2] true), (1, .rows 48 5 (log.map Entry'.enc) true), (2, .rows 48 5 (ws.map Entry'.enc) true), (3, .vars 48 5 [dInt e.id.r, dInt e.id.n, dInt e.colors, .dat (.str e.text), .dat (.list (e.links.map Id.enc))] true)]⟩) (waitAt ws e.id) (Into.mono (Into.to [0, 1, 2, 3] [(0, .ptr 0 0), (4, dInt (0 : Nat)), (3, .ptr 3 0)] [(0, .vars 84 3 [dInt r, .row 1, .row 2] true), (1, .rows 48 5 (log.map Entry'.enc) true), (2, .rows 48 5 (ws.map Entry'.enc) true), (3, .vars 48 5 [dInt e.id.r, dInt e.id.n, dInt e.colors, .dat (.str e.text), .dat (.list (e.links.map Id.enc))] true)] (by repeat (first | exact trivial | refine ⟨.same (congrArg dInt (wrap_up (by omega))), ?_⟩ | refine ⟨.same rfl, ?_⟩ | refine ⟨.any _, ?_⟩)) ⟨⟨rfl, rfl, rfl, .same rfl, rfl, .same rfl, rfl, .same rfl, rfl, trivial⟩, ⟨rfl, rfl, rfl, rfl⟩, ⟨rfl, rfl, rfl, rfl⟩, ⟨rfl, rfl, rfl, .same rfl, rfl, .same rfl, rfl, .same rfl, rfl, .same rfl, rfl, .same rfl, rfl, trivial⟩, trivial⟩ rfl rfl) fun s' h => ⟨0, by omega, h⟩) ?_
    rintro m s ⟨i, hi, rfl⟩
    conv => whnf
    repeat (first | (refine Conf.mk (by kernel_rfl) ?_; conv => whnf) | (refine SeqOk.go ?_; conv => whnf))
    refine ⟨fun h => ?_, fun h => ?_⟩
    · have hi' := lt_of_len h
      conv => whnf
      repeat (first | (refine Conf.mk (by kernel_rfl) ?_; conv => whnf) | (refine SeqOk.go ?_; conv => whnf))
      refine AtIdx.ofMap hi' rfl ?_
      conv => whnf
      repeat (first | (refine Conf.mk (by kernel_rfl) ?_; conv => whnf) | (refine SeqOk.go ?_; conv => whnf))
      refine .mk _ (by rw [List.getElem?_map, List.getElem?_eq_getElem hi']; rfl) ?_
      conv => whnf
      repeat (first | (refine Conf.mk (by kernel_rfl) ?_; conv => whnf) | (refine SeqOk.go ?_; conv => whnf))
      refine .look _ _ (less_ok ws[i].id e.id) rfl rfl ?_
      conv => whnf
      repeat (first | (refine Conf.mk (by kernel_rfl) ?_; conv => whnf) | (refine SeqOk.go ?_; conv => whnf))
      by_cases hlt : i < waitAt ws e.id
      · refine BoolCase.yes (waitAt_lt hi' hlt) ?_
        conv => whnf
        repeat (first | (refine Conf.mk (by kernel_rfl) ?_; conv => whnf) | (refine SeqOk.go ?_; conv => whnf))
        exact Into.mono (Into.to [0, 1, 2, 3] [(0, .ptr 0 0), (4, dInt (i + 1 : Nat)), (3, .ptr 3 0)] [(0, .vars 84 3 [dInt r, .row 1, .row 2] true), (1, .rows 48 5 (log.map Entry'.enc) true), (2, .rows 48 5 (ws.map Entry'.enc) true), (3, .vars 48 5 [dInt e.id.r, dInt e.id.n, dInt e.colors, .dat (.str e.text), .dat (.list (e.links.map Id.enc))] true)] (by repeat (first | exact trivial | refine ⟨.same (congrArg dInt (wrap_up (by omega))), ?_⟩ | refine ⟨.same rfl, ?_⟩ | refine ⟨.any _, ?_⟩)) ⟨⟨rfl, rfl, rfl, .same rfl, rfl, .same rfl, rfl, .same rfl, rfl, trivial⟩, ⟨rfl, rfl, rfl, rfl⟩, ⟨rfl, rfl, rfl, rfl⟩, ⟨rfl, rfl, rfl, .same rfl, rfl, .same rfl, rfl, .same rfl, rfl, .same rfl, rfl, .same rfl, rfl, trivial⟩, trivial⟩ rfl rfl) fun s' h => ⟨m - 1, by omega, i + 1, by omega, h⟩
      · have hie : i = waitAt ws e.id := by omega
        subst hie
        refine BoolCase.no (waitAt_at hi') ?_
        conv => whnf
        repeat (first | (refine Conf.mk (by kernel_rfl) ?_; conv => whnf) | (refine SeqOk.go ?_; conv => whnf))
        exact Into.to [0, 1, 2, 3] [(0, .ptr 0 0), (4, dInt (waitAt ws e.id)), (3, .ptr 3 0)] [(0, .vars 84 3 [dInt r, .row 1, .row 2] true), (1, .rows 48 5 (log.map Entry'.enc) true), (2, .rows 48 5 (ws.map Entry'.enc) true), (3, .vars 48 5 [dInt e.id.r, dInt e.id.n, dInt e.colors, .dat (.str e.text), .dat (.list (e.links.map Id.enc))] true)] (by repeat (first | exact trivial | refine ⟨.same (congrArg dInt (wrap_up (by omega))), ?_⟩ | refine ⟨.same rfl, ?_⟩ | refine ⟨.any _, ?_⟩)) ⟨⟨rfl, rfl, rfl, .same rfl, rfl, .same rfl, rfl, .same rfl, rfl, trivial⟩, ⟨rfl, rfl, rfl, rfl⟩, ⟨rfl, rfl, rfl, rfl⟩, ⟨rfl, rfl, rfl, .same rfl, rfl, .same rfl, rfl, .same rfl, rfl, .same rfl, rfl, .same rfl, rfl, trivial⟩, trivial⟩ rfl rfl
    · have hie : i = waitAt ws e.id := by have := ge_of_len h; omega
      subst hie
      conv => whnf
      repeat (first | (refine Conf.mk (by kernel_rfl) ?_; conv => whnf) | (refine SeqOk.go ?_; conv => whnf))
      exact Into.to [0, 1, 2, 3] [(0, .ptr 0 0), (4, dInt (waitAt ws e.id)), (3, .ptr 3 0)] [(0, .vars 84 3 [dInt r, .row 1, .row 2] true), (1, .rows 48 5 (log.map Entry'.enc) true), (2, .rows 48 5 (ws.map Entry'.enc) true), (3, .vars 48 5 [dInt e.id.r, dInt e.id.n, dInt e.colors, .dat (.str e.text), .dat (.list (e.links.map Id.enc))] true)] (by repeat (first | exact trivial | refine ⟨.same (congrArg dInt (wrap_up (by omega))), ?_⟩ | refine ⟨.same rfl, ?_⟩ | refine ⟨.any _, ?_⟩)) ⟨⟨rfl, rfl, rfl, .same rfl, rfl, .same rfl, rfl, .same rfl, rfl, trivial⟩, ⟨rfl, rfl, rfl, rfl⟩, ⟨rfl, rfl, rfl, rfl⟩, ⟨rfl, rfl, rfl, .same rfl, rfl, .same rfl, rfl, .same rfl, rfl, .same rfl, rfl, .same rfl, rfl, trivial⟩, trivial⟩ rfl rfl
  · conv => whnf
    repeat (first | (refine Conf.mk (by kernel_rfl) ?_; conv => whnf) | (refine SeqOk.go ?_; conv => whnf))
    refine .eff [2, 4] _ _ _ _ 1 (insertEntry_ok ws e (waitAt ws e.id) hple hs) rfl rfl rfl rfl rfl ?_
    conv => whnf
    repeat (first | (refine Conf.mk (by kernel_rfl) ?_; conv => whnf) | (refine SeqOk.go ?_; conv => whnf))
    exact .mk [] [0, 1, 2, 5] (.tup []) [(0, .vars 84 3 [dInt r, .row 1, .row 3] true), (1, .rows 48 5 (log.map Entry'.enc) true), (2, .dead), (3, .rows 48 5 ((putAt ws (waitAt ws e.id) e).map Entry'.enc) true)] rfl (.same rfl) ⟨⟨rfl, rfl, rfl, .same rfl, rfl, .same rfl, rfl, .same rfl, rfl, trivial⟩, ⟨rfl, rfl, rfl, rfl⟩, trivial, ⟨rfl, rfl, rfl, rfl⟩, trivial⟩ rfl rfl ⟨rfl, rfl, rfl⟩
end Go.Proofs.YtlioojekjnigiaeGreat.AM
/- One less in the midst of a row of one's own, told as a call. -/
namespace Go.Proofs.YtlioojekjnigiaeGreat.AM
open Go.RowKit
set_option linter.unusedVariables false
set_option linter.unusedSimpArgs false

theorem get_one' {e : Entry} {h : Nat} : Heap.get [(0, e)] h = if h = 0 then e else .dead := by
  match h with
  | 0 => rfl
  | h + 1 => rfl
theorem get_next {e : Entry} {h : Nat} : Heap.get [(0, .dead), (1, e)] h = if h = 1 then e else .dead := by
  match h with
  | 0 => rfl
  | 1 => rfl
  | h + 2 => rfl
theorem acall_delete {P : Program} {f T k : Nat} (hk0 : 0 < k) (hcall : callable P f = true) (es : List (List D)) (i : Nat) (hi : i < es.length) (hn : es.length ≤ 1000)
    (hdel : ∀ (g m cap i : Nat) (cs : List Value) (w : World), w.ownsRow 0 T k (.slice (some ⟨g, 0, none⟩) (m + 1) cap) (m + 1) cs → i ≤ m → (∀ u ∈ cs, u.oneCell' = true) → m ≤ 1000 →
      Calls P f #[.slice (some ⟨g, 0, none⟩) (m + 1) cap, .int .i64 i, .int .i64 ((i : Int) + 1)] w fun e w' => e = .returned (.slice (some ⟨g, 0, none⟩) m cap) ∧ w'.ownsRow 0 T k (.slice (some ⟨g, 0, none⟩) m cap) m (cs.take (i * k) ++ cs.drop (i * k + k)) ∧ w.grownBy w' (some g)) :
    ECall P f [.row 0, .dat (.int .i64 i), .dat (.int .i64 ((i : Int) + 1))] [(0, .rows T k es true)] 1 (.row 1) [(0, .dead), (1, .rows T k (es.take i ++ es.drop (i + 1)) true)] 1 := by
  refine ⟨hcall, fun r A w vs hr hc hs hv => ?_⟩
  obtain ⟨v0, v1, v2, rfl⟩ : ∃ v0 v1 v2, vs = #[v0, v1, v2] := by
    match vs, hs with
    | ⟨[v0, v1, v2]⟩, _ => exact ⟨v0, v1, v2, rfl⟩
  have h0 : VRel r A v0 (.row 0) := hv 0 _ rfl
  have h1 : VRel r A v1 (.dat (.int .i64 i)) := hv 1 _ rfl
  have h2 : VRel r A v2 (.dat (.int .i64 ((i : Int) + 1))) := hv 2 _ rfl
  obtain rfl : v1 = .int .i64 i := by
    cases h1 with | dat hr => cases hr; rfl
  obtain rfl : v2 = .int .i64 ((i : Int) + 1) := by
    cases h2 with | dat hr => cases hr; rfl
  have e0 := hc.ent 0
  rw [get_one', if_pos rfl] at e0
  obtain ⟨k0, ⟨q1, q2⟩ | ⟨g, cap, cur, a1, a2, a3, a4, a5, a6, a7⟩⟩ := e0
  · subst q2; simp at hi
  cases h0 with
  | rowNil _ a ha hb => rw [hb] at a1; cases a1
  | row _ b n cap' hb =>
  rw [hb] at a1
  simp only [Option.some.injEq, Loc.mk.injEq] at a1
  obtain ⟨rfl, rfl, rfl⟩ := a1
  obtain ⟨m, hm⟩ : ∃ m, es.length = m + 1 := ⟨es.length - 1, by omega⟩
  have hlen : es.length * k ≤ cur.size := by rw [a3]; exact Nat.mul_le_mul_right _ a5
  let cs := cur.toList.take (es.length * k)
  have hcsl : cs.length = es.length * k := by simp [cs]; omega
  have hown : w.ownsRow 0 T k (.slice (some ⟨b, 0, none⟩) (m + 1) cap') (m + 1) cs := by
    rw [← hm]
    exact ⟨hcsl, .inr ⟨b, cap', cur, rfl, Nat.zero_le _, a2, a5, a4, a3, rfl⟩⟩
  have hcl := hdel b m cap' i cs w hown (by omega) (fun u hu => row_cells k0 hlen a6 u hu) (by omega)
  rw [← hm] at hcl
  refine hcl.mono fun e w' he => ?_
  obtain ⟨rfl, ho, hgr⟩ := he
  obtain ⟨hol, ⟨q1, _⟩ | ⟨g2, cap4, cur', q1, _, hg', hle', hcm', hsz', ht'⟩⟩ := ho
  · cases q1
  simp only [Value.slice.injEq, Option.some.injEq, Addr.mk.injEq, and_true, true_and] at q1
  obtain ⟨rfl, rfl⟩ := q1
  have hr1 : r 1 = none := hr 1 (Nat.le_refl _)
  have hsub := Rho.set_sub (l := ⟨some b, m, cap'⟩) hr1
  have hlb : LiveB r (Heap.get [(0, .rows T k es true)]) b := ⟨0, rfl, by simp [Rho.blk, hb]⟩
  have hfr : Fr w A w' A (fun x => x = b) := ⟨hgr.os, hgr.tape, hgr.output, hgr.size, fun y hy hny => hgr.block y hy (by simpa using hny), Sub.refl A, fun _ _ _ => rfl⟩
  have hnew : (es.take i ++ es.drop (i + 1)).length = m := by simp; omega
  refine ⟨_, r.set 1 ⟨some b, m, cap'⟩, A, .row 1, _, 2, rfl, ⟨rfl, rfl, rfl⟩, by decide, fun h hh => Rho.set_ne (by omega), fun h hh => (Rho.set_ne (by omega)).trans (hr h (by omega)), ⟨fun b3 o v hA => ?_, fun h => ?_, fun h h' b3 hl hl' _ _ => ?_⟩, .row 1 b _ cap' Rho.set_same, hfr.weaken fun y hy => by rw [hy]; exact hlb, fun b3 hb3 => ?_⟩
  · have hv3 := hc.view b3 o v hA
    have hny : b3 ≠ b := fun e => by rw [e, a7] at hA; cases hA
    rw [← hv3]
    exact World.cell?_of_block (w := w) (hfr.block b3 (cell_lt' hv3) hny)
  · rw [get_next]
    by_cases hh : h = 1
    · subst hh
      rw [if_pos rfl]
      refine ⟨fun e he => ?_, .inr ⟨b, cap', cur', by rw [Rho.set_same, hnew], hg', hsz', hcm', by rw [hnew]; exact hle', fun i' e he j d hd => ?_, a7⟩⟩
      · rcases List.mem_append.1 he with he | he
        · exact k0 e (List.mem_of_mem_take he)
        · exact k0 e (List.mem_of_mem_drop he)
      · have hi' : i' < m := by rw [← hnew]; exact (List.getElem?_eq_some_iff.1 he).1
        have hel : e.length = k := by
          rcases List.mem_append.1 (List.mem_of_getElem? he) with he | he
          · exact k0 e (List.mem_of_mem_take he)
          · exact k0 e (List.mem_of_mem_drop he)
        have hj : j < k := by rw [← hel]; exact (List.getElem?_eq_some_iff.1 hd).1
        have hpos : i' * k + j < m * k := by
          have h5 : (i' + 1) * k ≤ m * k := Nat.mul_le_mul_right _ hi'
          rw [Nat.add_mul, Nat.one_mul] at h5
          omega
        have hcell : cur'.getD (i' * k + j) undef = ((cs.take (i * k) ++ cs.drop (i * k + k))[i' * k + j]?).getD undef := by
          rw [← ht', List.getElem?_take, if_pos hpos, Array.getElem?_toList, Array.getD_eq_getD_getElem?]
        rw [hcell]
        have hti : (cs.take (i * k)).length = i * k := by
          rw [List.length_take, hcsl]
          exact Nat.min_eq_left (Nat.mul_le_mul_right _ (by omega))
        have csg : ∀ p, p < es.length * k → cs[p]? = cur[p]? := fun p hp => by
          simp only [cs]
          rw [List.getElem?_take, if_pos hp, Array.getElem?_toList]
        by_cases hlt : i' < i
        · rw [List.getElem?_append_left (by simp; omega)] at he
          rw [List.getElem?_take, if_pos hlt] at he
          have hp1 : i' * k + j < i * k := by
            have h5 : (i' + 1) * k ≤ i * k := Nat.mul_le_mul_right _ hlt
            rw [Nat.add_mul, Nat.one_mul] at h5
            omega
          rw [List.getElem?_append_left (by rw [hti]; exact hp1), List.getElem?_take, if_pos hp1, csg _ (Nat.lt_of_lt_of_le hp1 (Nat.mul_le_mul_right _ (by omega))), ← Array.getD_eq_getD_getElem?]
          exact a6 i' e he j d hd
        · rw [List.getElem?_append_right (by simp; omega)] at he
          have hsub1 : i + 1 + (i' - (es.take i).length) = i' + 1 := by simp; omega
          rw [List.getElem?_drop, hsub1] at he
          have hp2 : i * k ≤ i' * k + j := by
            have h5 : i * k ≤ i' * k := Nat.mul_le_mul_right _ (by omega)
            omega
          have hp3 : i * k + k + (i' * k + j - i * k) = (i' + 1) * k + j := by
            rw [Nat.add_mul, Nat.one_mul]
            omega
          have h9 : (i' + 1) * k + j < es.length * k := by
            rw [hm, Nat.add_mul m, Nat.add_mul, Nat.one_mul]
            omega
          rw [List.getElem?_append_right (by rw [hti]; exact hp2), hti, List.getElem?_drop, hp3, csg _ h9, ← Array.getD_eq_getD_getElem?]
          exact a6 (i' + 1) e he j d hd
    · rw [if_neg hh]; trivial
  · rw [get_next] at hl hl'
    by_cases hh : h = 1
    · by_cases hh' : h' = 1
      · rw [hh, hh']
      · rw [if_neg hh'] at hl'; cases hl'
    · rw [if_neg hh] at hl; cases hl
  · obtain ⟨h, hl, hbb⟩ := hb3
    rw [get_next] at hl
    by_cases hh : h = 1
    · subst hh
      obtain rfl : b = b3 := by simpa [Rho.blk, Rho.set_same] using hbb
      exact .inl hlb
    · rw [if_neg hh] at hl; cases hl
end Go.Proofs.YtlioojekjnigiaeGreat.AM
/- slices.Delete of one wait, of a row of one's own. -/
namespace Go.Proofs.YtlioojekjnigiaeGreat.ID
open Go.RowKit

set_option maxHeartbeats 4000000 in
set_option maxRecDepth 100000 in
theorem delete_any (base g m cap i : Nat) (cs : List Value) (w : World) (hown : w.ownsRow base 48 5 (.slice (some ⟨g, 0, none⟩) (m + 1) cap) (m + 1) cs) (hi : i ≤ m) (h1c : ∀ u ∈ cs, u.oneCell' = true) (hm : m ≤ 1000) :
    Calls Tryz.prog 90 #[.slice (some ⟨g, 0, none⟩) (m + 1) cap, .int .i64 i, .int .i64 ((i : Int) + 1)] w fun e w' => e = .returned (.slice (some ⟨g, 0, none⟩) m cap) ∧ w'.ownsRow base 48 5 (.slice (some ⟨g, 0, none⟩) m cap) m (cs.take (i * 5) ++ cs.drop (i * 5 + 5)) ∧ w.grownBy w' (some g) := by
  obtain ⟨i0, hinf, hz0, hz1, hz2⟩ := info_parts IE.infoT
  rcases hown with ⟨hl, ⟨h0, _⟩ | ⟨g', cap', cur, hv, hbg, hg, hle, hcm, hcs, ht⟩⟩
  · cases h0
  cases hv
  have hcm' : cap ≤ 9223372036854775807 := by unfold maxLen at hcm; omega
  obtain ⟨R1, hR1⟩ : ∃ R1 : List Value, R1 = cur.toList.take (i * 5) ++ cs.drop (i * 5 + 5) ++ cur.toList.drop (i * 5 + ((m + 1) * 5 - (i * 5 + 5))) := ⟨_, rfl⟩
  obtain ⟨R2, hR2⟩ : ∃ R2 : List Value, R2 = R1.take (m * 5) ++ (Builtin.zeroCells (Value.agg #[.int .i64 0, .int .i64 0, .int .i64 0, .string ⟨#[]⟩, .slice none 0 0]).cells (0 + 1)).toList ++ R1.drop (m * 5 + 5) := ⟨_, rfl⟩
  have hcl : cur.toList.length = cap * 5 := by simpa using hcs
  have hzc : (Value.agg #[.int .i64 0, .int .i64 0, .int .i64 0, .string ⟨#[]⟩, .slice none 0 0]).cells.size = 5 := rfl
  have hzl : (Builtin.zeroCells (Value.agg #[.int .i64 0, .int .i64 0, .int .i64 0, .string ⟨#[]⟩, .slice none 0 0]).cells (0 + 1)).toList.length = 5 := by simp [size_zeroCells, hzc]
  have t2 : R2.take (m * 5) = cs.take (i * 5) ++ cs.drop (i * 5 + 5) := by
    have := row_cut (cur := cur.toList) (cs := cs) (I := i * 5) (N := (m + 1) * 5) (k := 5) (by omega) hzl (by omega) ht
    rw [show (m + 1) * 5 - 5 = m * 5 from by omega, ← hR1, ← hR2] at this
    exact this
  have s1 : R1.length = cap * 5 := by rw [hR1]; simp [hl, hcs]; omega
  have s2 : R2.length = cap * 5 := by
    rw [hR2]
    simp only [List.length_append, hzl, List.length_take, List.length_drop, s1]
    omega
  have hdl : (cs.drop (i * 5 + 5)).length = (m - i) * 5 := by rw [List.length_drop]; omega
  have hrz : ∀ ty A c, (i < m → A = ⟨g, (i + 1) * 5, none⟩) → (Builtin.append_ #[22, 22] ty #[.slice (some ⟨g, 0, none⟩) i cap, .slice (some A) (m - i) c]).run Tryz.prog w.drew = .ok (.slice (some ⟨g, 0, none⟩) m cap) (w.drew.setRow g R1.toArray) := fun ty A c hA => by
    have := run_append_room (P := Tryz.prog) w.drew 22 ty 48 i0 Tryz.underlying22 hinf g i cap cur hg A (m - i) c (cs.drop (i * 5 + 5)) (by rw [hz1, hdl])
      (fun j u hj => by
        have hlt : j < (cs.drop (i * 5 + 5)).length := (List.getElem?_eq_some_iff.1 hj).1
        rw [hA (by omega), add_at']
        rw [List.getElem?_drop, ← ht, List.getElem?_take] at hj
        split at hj
        · exact cell_of_block (w := w.drew) hg (by rw [show (i + 1) * 5 + j = i * 5 + 5 + j from by omega]; simpa using hj)
        · cases hj) (fun v hv => h1c v (List.mem_of_mem_drop hv)) (by omega) (by rw [hz1, hdl]; omega)
    rw [hz1, hdl, show i + (m - i) = m from by omega, show i * 5 + (m - i) * 5 = i * 5 + ((m + 1) * 5 - (i * 5 + 5)) from by omega, ← hR1] at this
    exact this
  have g1 : (w.drew.setRow g R1.toArray).heap[g]? = some (.cells R1.toArray 48 (0, 0)) := setRow_heap w.drew g _ R1.toArray 48 (0, 0) hg
  have gr1 : w.grownBy (w.drew.setRow g R1.toArray) (some g) := grownBy_trans (grownBy_drew w _) (grownBy_setRow (w := w.drew) hg)
  generalize w.drew.setRow g R1.toArray = W1 at *
  have hcr : ∀ ty c, (Builtin.clear_ #[22] ty #[.slice (some ⟨g, m * 5, none⟩) 1 c]).run Tryz.prog W1 = .ok (.tuple #[]) (W1.setRow g R2.toArray) := fun ty c => by
    have := run_clear_row (P := Tryz.prog) W1 22 48 ty (.agg #[.int .i64 0, .int .i64 0, .int .i64 0, .string ⟨#[]⟩, .slice none 0 0]) Tryz.underlying22 Tryz.zeroValue48 (by decide) g (m * 5) 0 c R1.toArray 48 g1 (by rw [hzc]; simp; omega)
    rw [hzc] at this
    simp only [Nat.zero_add, Nat.one_mul] at this
    rw [hR2]
    exact this
  have HG2 : Hid ((W1.setRow g R2.toArray).ownsRow base 48 5 (.slice (some ⟨g, 0, none⟩) m cap) m (cs.take (i * 5) ++ cs.drop (i * 5 + 5))) :=
    ⟨by simp [hl]; omega, .inr ⟨g, cap, R2.toArray, rfl, hbg, setRow_heap W1 g _ R2.toArray 48 (0, 0) g1, by omega, hcm, by simpa using s2, t2⟩⟩
  have HGR : Hid (w.grownBy (W1.setRow g R2.toArray) (some g)) := grownBy_trans gr1 (grownBy_setRow g1)
  generalize W1.setRow g R2.toArray = W2 at *
  clear hR1 hR2 t2 s1 s2 hzl hzc hdl g1 gr1 hcl ht h1c hg hcs hl
  have hcn : ¬ (cap = m) := by omega
  by_cases hc : cap = i + 1
  · obtain rfl : m = i := by omega
    subst hc
    have hr := fun ty A c => hrz ty A c (fun h => absurd h (Nat.lt_irrefl _))
    clear hrz
    simp only [Nat.sub_self] at hr
    go_enter Tryz.func90, Tryz.ntmps90
    go_wp2_with fail
    refine wp_region_path [(0, 0), (1, 0), (2, 2), (3, 0), (4, 0), (5, 2), (6, 3), (7, 0)] (by kernel_rfl) (by kernel_rfl) (by kernel_rfl) (by kernel_rfl) ?_
    simp only [parts, headed, headed2, List.getElem?_toArray, List.getElem?_cons_zero, List.getElem?_cons_succ]
    refine parts_step fun K HK => ?_
    go_wp2_with fail
    refine HK.out _ _ (Grow.refl _) ?_
    clear HK K
    refine parts_step2 (fun hw => by first | (cases hw; done) | (apply looks_run; intro w'; go_simp; try first | rfl | rw [if_neg (by omega)] | rw [if_pos (by omega)])) fun K HK => ?_
    go_wp2_with fail
    refine HK.out _ _ (Grow.refl _) ?_
    clear HK K
    refine parts_cut2 (fun hw => by first | (cases hw; done) | (apply looks_run; intro w'; go_simp; try first | rfl | rw [if_neg (by omega)] | rw [if_pos (by omega)])) fun K HK => ?_
    go_wp2_with (at_builtin; go_must (refine wpList_append_ran _ (by rfl) _ _ 22 22 (by rfl) _ _ (by rfl) (by rfl) (hr _ _ _) ?_))
    refine HK.out _ _ ?_
    clear HK K
    refine parts_step fun K HK => ?_
    go_wp2_with fail
    refine HK.out _ _ (Grow.refl _) ?_
    clear HK K
    refine parts_done ?_
    go_wp2_with (at_builtin; go_must (refine wpList_clear_run _ (by rfl) _ 22 (by rfl) _ (by rfl) (hcr _ _) ?_))
    go_ret
    exact ⟨rfl, HG2.out, HGR.out⟩
  · have hr := fun ty c => hrz ty ⟨g, (i + 1) * 5, none⟩ c (fun _ => rfl)
    clear hrz
    go_enter Tryz.func90, Tryz.ntmps90
    go_wp2_with fail
    refine wp_region_path [(0, 0), (1, 0), (2, 2), (3, 0), (4, 0), (5, 2), (6, 3), (7, 0)] (by kernel_rfl) (by kernel_rfl) (by kernel_rfl) (by kernel_rfl) ?_
    simp only [parts, headed, headed2, List.getElem?_toArray, List.getElem?_cons_zero, List.getElem?_cons_succ]
    refine parts_step fun K HK => ?_
    go_wp2_with fail
    refine HK.out _ _ (Grow.refl _) ?_
    clear HK K
    refine parts_step2 (fun hw => by first | (cases hw; done) | (apply looks_run; intro w'; go_simp; try first | rfl | rw [if_neg (by omega)] | rw [if_pos (by omega)])) fun K HK => ?_
    go_wp2_with fail
    refine HK.out _ _ (Grow.refl _) ?_
    clear HK K
    refine parts_cut2 (fun hw => by first | (cases hw; done) | (apply looks_run; intro w'; go_simp; try first | rfl | rw [if_neg (by omega)] | rw [if_pos (by omega)])) fun K HK => ?_
    go_wp2_with (at_builtin; go_must (refine wpList_append_ran _ (by rfl) _ _ 22 22 (by rfl) _ _ (by rfl) (by rfl) (hr _ _) ?_))
    refine HK.out _ _ ?_
    clear HK K
    refine parts_step fun K HK => ?_
    go_wp2_with fail
    refine HK.out _ _ (Grow.refl _) ?_
    clear HK K
    refine parts_done ?_
    go_wp2_with (at_builtin; go_must (refine wpList_clear_run _ (by rfl) _ 22 (by rfl) _ (by rfl) (hcr _ _) ?_))
    go_ret
    exact ⟨rfl, HG2.out, HGR.out⟩
end Go.Proofs.YtlioojekjnigiaeGreat.ID
/- Sites: what waits settles. -/
namespace Go.Proofs.YtlioojekjnigiaeGreat.AM
set_option linter.unusedVariables false
set_option linter.unusedSimpArgs false
theorem deleteEntry_ok (l : List Entry') (i : Nat) (hi : i < l.length) (hs : l.length ≤ 1000) : ECall Tryz.prog 90 [.row 0, dInt i, dInt (IntKind.i64.wrap ((i : Int) + 1))] [(0, .rows 48 5 (l.map Entry'.enc) true)] 1 (.row 1) [(0, .dead), (1, .rows 48 5 ((l.eraseIdx i).map Entry'.enc) true)] 1 := by
  have e : (l.eraseIdx i).map Entry'.enc = (l.map Entry'.enc).take i ++ (l.map Entry'.enc).drop (i + 1) := by
    rw [List.eraseIdx_eq_take_drop_succ, List.map_append, map_take', map_drop']
  rw [e, wrap_id (by omega) (by omega)]
  exact acall_delete (T := 48) (k := 5) (by decide) (by kernel_rfl) (l.map Entry'.enc) i (by simpa using hi) (by simpa using hs) fun g m cap i cs w h1 h2 h3 h4 => ID.delete_any 0 g m cap i cs w h1 h2 h3 h4
theorem settle1_ok (r : Int) (log : List Entry') (ds : List (List D)) (hl : log.length ≤ 1000) (e : Entry') (he : e.links.length ≤ 1000) : PCall Tryz.prog 89 [e.arg, .dat (.ptr [.ptr [.int .i64 r, .list (log.map Entry'.enc), .list ds]])] (dBool (readyP log e)) := by
  refine pcall_intro tab_all tab_mixed Tryz.func89 (by kernel_rfl) Tryz.ntmps89 rfl ?_
  conv => whnf
  refine .data _ _ (siteReady_ok log hl e (by omega)) rfl ?_
  conv => whnf
  repeat (first | (refine Conf.mk (by kernel_rfl) ?_; conv => whnf) | (refine SeqOk.go ?_; conv => whnf))
  exact Ret.bool rfl
set_option maxHeartbeats 0 in
theorem settle_ok (r : Int) (log ws : List Entry') (hlen : log.length + ws.length ≤ 1000) (hk : ∀ e ∈ ws, e.links.length ≤ 1000) : ACall Tryz.prog 63 [.ptr 0 0] [(0, .vars 84 3 [dInt r, .row 1, .row 2] true), (1, .rows 48 5 (log.map Entry'.enc) true), (2, .rows 48 5 (ws.map Entry'.enc) true)] 3 fun x H' n' => (x = .tup [] ∧ settle log ws = (log, ws) ∧ H' = [(0, .vars 84 3 [dInt r, .row 1, .row 2] true), (1, .rows 48 5 (log.map Entry'.enc) true), (2, .rows 48 5 (ws.map Entry'.enc) true)] ∧ n' = 3) ∨ (x = .tup [] ∧ H' = [(0, .vars 84 3 [dInt r, .row 3, .row 4] true), (1, .dead), (2, .dead), (3, .rows 48 5 ((settle log ws).1.map Entry'.enc) true), (4, .rows 48 5 ((settle log ws).2.map Entry'.enc) true)] ∧ n' = 5) := by
  refine acall_cut tab_all tab_mixed Tryz.func63 (by kernel_rfl) Tryz.ntmps63 rfl ?_
  conv => whnf
  refine LoopOk.hide fun Q1 hQ1 => ?_
  refine LoopOk.mk (fun m s => ∃ lg wt, wt.length = m ∧ lg.length + wt.length ≤ 1000 ∧ (∀ e ∈ wt, e.links.length ≤ 1000) ∧ settle log ws = settle lg wt ∧ ((lg = log ∧ wt = ws ∧ s = ⟨[(1, .ptr 3 0)], 4, [(0, .vars 84 3 [dInt r, .row 1, .row 2] true), (1, .rows 48 5 (log.map Entry'.enc) true), (2, .rows 48 5 (ws.map Entry'.enc) true), (3, .vars 105 1 [.ptr 0 0] true)]⟩) ∨ s = ⟨[(1, .ptr 5 0)], 6, [(0, .vars 84 3 [dInt r, .row 3, .row 4] true), (1, .dead), (2, .dead), (3, .rows 48 5 (lg.map Entry'.enc) true), (4, .rows 48 5 (wt.map Entry'.enc) true), (5, .vars 105 1 [.ptr 0 0] true)]⟩)) ws.length (Into.mono (Into.to [0, 1, 2, 3] [(1, .ptr 3 0)] [(0, .vars 84 3 [dInt r, .row 1, .row 2] true), (1, .rows 48 5 (log.map Entry'.enc) true), (2, .rows 48 5 (ws.map Entry'.enc) true), (3, .vars 105 1 [.ptr 0 0] true)] (by repeat (first | exact trivial | refine ⟨.same (congrArg dInt (wrap_up (by omega))), ?_⟩ | refine ⟨.same rfl, ?_⟩ | refine ⟨.any _, ?_⟩)) ⟨⟨rfl, rfl, rfl, .same rfl, rfl, .same rfl, rfl, .same rfl, rfl, trivial⟩, ⟨rfl, rfl, rfl, rfl⟩, ⟨rfl, rfl, rfl, rfl⟩, ⟨rfl, rfl, rfl, .same rfl, rfl, trivial⟩, trivial⟩ rfl rfl) fun s' h => ⟨log, ws, rfl, hlen, hk, rfl, .inl ⟨rfl, rfl, h⟩⟩) ?_
  rintro m s ⟨lg, wt, hm, hle, hkw, hst, hs⟩
  have hidx := indexFunc_entry (l := wt) (by omega) fun e he => settle1_ok r lg (wt.map Entry'.enc) (by omega) e (hkw e he)
  rcases hs with ⟨hA1, hA2, rfl⟩ | rfl
  · have hA1 := hA1.symm
    have hA2 := hA2.symm
    subst hA1 hA2
    cases hii : isIdx (readyP log) ws 0 with
    | none =>
      rw [hii] at hidx
      conv => whnf
      repeat (first | (refine Conf.mk (by kernel_rfl) ?_; conv => whnf) | (refine SeqOk.go ?_; conv => whnf))
      refine .look _ _ hidx rfl rfl ?_
      conv => whnf
      repeat (first | (refine Conf.mk (by kernel_rfl) ?_; conv => whnf) | (refine SeqOk.go ?_; conv => whnf))
      refine BoolCase.yes rfl ?_
      conv => whnf
      repeat (first | (refine Conf.mk (by kernel_rfl) ?_; conv => whnf) | (refine SeqOk.go ?_; conv => whnf))
      subst hQ1
      conv => whnf
      exact .mk [] [0, 1, 2] (.tup []) [(0, .vars 84 3 [dInt r, .row 1, .row 2] true), (1, .rows 48 5 (log.map Entry'.enc) true), (2, .rows 48 5 (ws.map Entry'.enc) true)] rfl (.same rfl) ⟨⟨rfl, rfl, rfl, .same rfl, rfl, .same rfl, rfl, .same rfl, rfl, trivial⟩, ⟨rfl, rfl, rfl, rfl⟩, ⟨rfl, rfl, rfl, rfl⟩, trivial⟩ rfl rfl (.inl ⟨rfl, settle_none hii, rfl, rfl⟩)
    | some i =>
      obtain ⟨k, hik, hiw, _⟩ := isIdx_some hii
      obtain rfl : i = k := by omega
      rw [hii] at hidx
      have hss := settle_some hii hiw
      have hlw : (ws.eraseIdx i).length = ws.length - 1 := List.length_eraseIdx_of_lt hiw
      conv => whnf
      repeat (first | (refine Conf.mk (by kernel_rfl) ?_; conv => whnf) | (refine SeqOk.go ?_; conv => whnf))
      refine .look _ _ hidx rfl rfl ?_
      conv => whnf
      repeat (first | (refine Conf.mk (by kernel_rfl) ?_; conv => whnf) | (refine SeqOk.go ?_; conv => whnf))
      refine BoolCase.no (decide_eq_false (by show ¬ ((i : Int) < 0); omega)) ?_
      conv => whnf
      repeat (first | (refine Conf.mk (by kernel_rfl) ?_; conv => whnf) | (refine SeqOk.go ?_; conv => whnf))
      refine AtIdx.ofMap hiw rfl ?_
      conv => whnf
      repeat (first | (refine Conf.mk (by kernel_rfl) ?_; conv => whnf) | (refine SeqOk.go ?_; conv => whnf))
      refine .mk _ (by rw [List.getElem?_map, List.getElem?_eq_getElem hiw]; rfl) ?_
      conv => whnf
      repeat (first | (refine Conf.mk (by kernel_rfl) ?_; conv => whnf) | (refine SeqOk.go ?_; conv => whnf))
      refine ⟨by simp [Entry'.enc], by simp; omega, ?_⟩
      conv => whnf
      repeat (first | (refine Conf.mk (by kernel_rfl) ?_; conv => whnf) | (refine SeqOk.go ?_; conv => whnf))
      refine .eff [2] _ _ _ _ 1 (deleteEntry_ok ws i hiw (by omega)) rfl rfl rfl rfl rfl ?_
      conv => whnf
      repeat (first | (refine Conf.mk (by kernel_rfl) ?_; conv => whnf) | (refine SeqOk.go ?_; conv => whnf))
      have hrow : (log ++ [ws[i]]).map Entry'.enc = log.map Entry'.enc ++ [ws[i].enc] := by rw [List.map_append]; rfl
      exact Into.mono (Into.to [0, 1, 2, 5, 6, 3] [(1, .ptr 5 0)] [(0, .vars 84 3 [dInt r, .row 3, .row 4] true), (1, .dead), (2, .dead), (3, .rows 48 5 ((log ++ [ws[i]]).map Entry'.enc) true), (4, .rows 48 5 ((ws.eraseIdx i).map Entry'.enc) true), (5, .vars 105 1 [.ptr 0 0] true)] (by repeat (first | exact trivial | refine ⟨.same (congrArg dInt (wrap_up (by omega))), ?_⟩ | refine ⟨.same rfl, ?_⟩ | refine ⟨.any _, ?_⟩)) ⟨⟨rfl, rfl, rfl, .same rfl, rfl, .same rfl, rfl, .same rfl, rfl, trivial⟩, trivial, trivial, ⟨rfl, rfl, rfl, hrow⟩, ⟨rfl, rfl, rfl, rfl⟩, ⟨rfl, rfl, rfl, .same rfl, rfl, trivial⟩, trivial⟩ rfl rfl) fun s' h => ⟨ws.length - 1, by omega, log ++ [ws[i]], ws.eraseIdx i, hlw, by rw [List.length_append, hlw]; simp; omega, fun e he => hkw e (List.mem_of_mem_eraseIdx he), by rw [hst, hss], .inr h⟩
  · cases hii : isIdx (readyP lg) wt 0 with
    | none =>
      rw [hii] at hidx
      conv => whnf
      repeat (first | (refine Conf.mk (by kernel_rfl) ?_; conv => whnf) | (refine SeqOk.go ?_; conv => whnf))
      refine .look _ _ hidx rfl rfl ?_
      conv => whnf
      repeat (first | (refine Conf.mk (by kernel_rfl) ?_; conv => whnf) | (refine SeqOk.go ?_; conv => whnf))
      refine BoolCase.yes rfl ?_
      conv => whnf
      repeat (first | (refine Conf.mk (by kernel_rfl) ?_; conv => whnf) | (refine SeqOk.go ?_; conv => whnf))
      subst hQ1
      conv => whnf
      exact .mk [] [0, 1, 2, 3, 4] (.tup []) [(0, .vars 84 3 [dInt r, .row 3, .row 4] true), (1, .dead), (2, .dead), (3, .rows 48 5 ((settle log ws).1.map Entry'.enc) true), (4, .rows 48 5 ((settle log ws).2.map Entry'.enc) true)] rfl (.same rfl) ⟨⟨rfl, rfl, rfl, .same rfl, rfl, .same rfl, rfl, .same rfl, rfl, trivial⟩, trivial, trivial, ⟨rfl, rfl, rfl, by rw [hst, settle_none hii]⟩, ⟨rfl, rfl, rfl, by rw [hst, settle_none hii]⟩, trivial⟩ rfl rfl (.inr ⟨rfl, rfl, rfl⟩)
    | some i =>
      obtain ⟨k, hik, hiw, _⟩ := isIdx_some hii
      obtain rfl : i = k := by omega
      rw [hii] at hidx
      have hss := settle_some hii hiw
      have hlw : (wt.eraseIdx i).length = wt.length - 1 := List.length_eraseIdx_of_lt hiw
      conv => whnf
      repeat (first | (refine Conf.mk (by kernel_rfl) ?_; conv => whnf) | (refine SeqOk.go ?_; conv => whnf))
      refine .look _ _ hidx rfl rfl ?_
      conv => whnf
      repeat (first | (refine Conf.mk (by kernel_rfl) ?_; conv => whnf) | (refine SeqOk.go ?_; conv => whnf))
      refine BoolCase.no (decide_eq_false (by show ¬ ((i : Int) < 0); omega)) ?_
      conv => whnf
      repeat (first | (refine Conf.mk (by kernel_rfl) ?_; conv => whnf) | (refine SeqOk.go ?_; conv => whnf))
      refine AtIdx.ofMap hiw rfl ?_
      conv => whnf
      repeat (first | (refine Conf.mk (by kernel_rfl) ?_; conv => whnf) | (refine SeqOk.go ?_; conv => whnf))
      refine .mk _ (by rw [List.getElem?_map, List.getElem?_eq_getElem hiw]; rfl) ?_
      conv => whnf
      repeat (first | (refine Conf.mk (by kernel_rfl) ?_; conv => whnf) | (refine SeqOk.go ?_; conv => whnf))
      refine ⟨by simp [Entry'.enc], by simp; omega, ?_⟩
      conv => whnf
      repeat (first | (refine Conf.mk (by kernel_rfl) ?_; conv => whnf) | (refine SeqOk.go ?_; conv => whnf))
      refine .eff [4] _ _ _ _ 1 (deleteEntry_ok wt i hiw (by omega)) rfl rfl rfl rfl rfl ?_
      conv => whnf
      repeat (first | (refine Conf.mk (by kernel_rfl) ?_; conv => whnf) | (refine SeqOk.go ?_; conv => whnf))
      have hrow : (lg ++ [wt[i]]).map Entry'.enc = lg.map Entry'.enc ++ [wt[i].enc] := by rw [List.map_append]; rfl
      exact Into.mono (Into.to [0, 1, 2, 7, 8, 5] [(1, .ptr 5 0)] [(0, .vars 84 3 [dInt r, .row 3, .row 4] true), (1, .dead), (2, .dead), (3, .rows 48 5 ((lg ++ [wt[i]]).map Entry'.enc) true), (4, .rows 48 5 ((wt.eraseIdx i).map Entry'.enc) true), (5, .vars 105 1 [.ptr 0 0] true)] (by repeat (first | exact trivial | refine ⟨.same (congrArg dInt (wrap_up (by omega))), ?_⟩ | refine ⟨.same rfl, ?_⟩ | refine ⟨.any _, ?_⟩)) ⟨⟨rfl, rfl, rfl, .same rfl, rfl, .same rfl, rfl, .same rfl, rfl, trivial⟩, trivial, trivial, ⟨rfl, rfl, rfl, hrow⟩, ⟨rfl, rfl, rfl, rfl⟩, ⟨rfl, rfl, rfl, .same rfl, rfl, trivial⟩, trivial⟩ rfl rfl) fun s' h => ⟨wt.length - 1, by omega, lg ++ [wt[i]], wt.eraseIdx i, hlw, by rw [List.length_append, hlw]; simp; omega, fun e he => hkw e (List.mem_of_mem_eraseIdx he), by rw [hst, hss], .inr h⟩
end Go.Proofs.YtlioojekjnigiaeGreat.AM
/- A player: what it needs, who may be next, and its beginning. -/
namespace Go.Proofs.YtlioojekjnigiaeGreat.AM
set_option linter.unusedVariables false
set_option linter.unusedSimpArgs false

/-- What is in the past of one and has one of some colors, as they stand. -/
def needsL (l : List Entry') (c : Int) (x : Id) : List Id := (l.filter fun e => bothOf e.colors c && (pastOfId l x).any (isId2 e.id)).map (·.id)
theorem needsL_all {l : List Entry'} (hr : Right l) {c : Int} (hc : 1 ≤ c ∧ c ≤ 7) (x : Id) (out : List Id) : (needsL l c x).all (hasId out) = (needs l c x).all (hasId out) := by
  have : ∀ y, y ∈ needsL l c x ↔ y ∈ needs l c x := fun y => by
    rw [mem_needs hr]
    unfold needsL
    simp only [List.mem_map, List.mem_filter, Bool.and_eq_true]
    constructor
    · rintro ⟨e, ⟨h1, h2, h3⟩, rfl⟩
      exact ⟨(mem_pastOfId hr).1 (any_isId2.1 h3), colored_iff.2 ⟨e, h1, rfl, by rw [← meets_bothOf (hr.colors h1) hc]; exact h2⟩⟩
    · rintro ⟨h1, h2⟩
      obtain ⟨e, he, rfl, hm⟩ := colored_iff.1 h2
      exact ⟨e, ⟨he, by rw [meets_bothOf (hr.colors he) hc]; exact hm, any_isId2.2 ((mem_pastOfId hr).2 h1)⟩, rfl⟩
  rw [Bool.eq_iff_iff, List.all_eq_true, List.all_eq_true]
  exact ⟨fun h y hy => h y ((this y).2 hy), fun h y hy => h y ((this y).1 hy)⟩
theorem needsL_len (l : List Entry') (c : Int) (x : Id) : (needsL l c x).length ≤ l.length := by
  unfold needsL
  rw [List.length_map]
  exact List.length_filter_le _ _
def mayT (played : List Id) (t : Turn) : Bool := !hasId played t.id && t.needs.all (hasId played)
theorem any_hasId (l : List Id) (x : Id) : l.any (isId2 x) = hasId l x := by rw [Bool.eq_iff_iff, any_isId2, hasId_iff]
end Go.Proofs.YtlioojekjnigiaeGreat.AM
/- A player's beginning, and its plays. -/
namespace Go.Proofs.YtlioojekjnigiaeGreat.AM
set_option linter.unusedVariables false
set_option linter.unusedSimpArgs false

def turnStep (l : List Entry') (c : Int) (ts : List Turn) (e : Entry') : List Turn := if bothOf e.colors c = true then insT ts ⟨e.id, needsL l c e.id⟩ else ts
def turnsTo (l : List Entry') (c : Int) (k : Nat) : List Turn := (l.take k).foldl (turnStep l c) []
def turnsOf (l : List Entry') (c : Int) : List Turn := turnsTo l c l.length
theorem turnsTo_snoc {l : List Entry'} {c : Int} {k : Nat} (hk : k < l.length) : turnsTo l c (k + 1) = turnStep l c (turnsTo l c k) l[k] := by
  unfold turnsTo
  rw [take_snoc hk, List.foldl_append]
  rfl
theorem putAt_len {α : Type} {l : List α} {i : Nat} (h : i ≤ l.length) (x : α) : (putAt l i x).length = l.length + 1 := by simp [putAt]; omega
theorem mem_putAt {α : Type} {l : List α} {i : Nat} {x y : α} : y ∈ putAt l i x ↔ y = x ∨ y ∈ l := by
  unfold putAt
  rw [List.mem_append, List.mem_cons]
  constructor
  · rintro (h | h | h)
    · exact .inr (List.mem_of_mem_take h)
    · exact .inl h
    · exact .inr (List.mem_of_mem_drop h)
  · rintro (h | h)
    · exact .inr (.inl h)
    · rw [← List.take_append_drop i l, List.mem_append] at h
      exact h.elim .inl fun h => .inr (.inr h)
theorem turnsTo_len {l : List Entry'} {c : Int} : ∀ {k : Nat}, k ≤ l.length → (turnsTo l c k).length ≤ k
  | 0, _ => by simp [turnsTo]
  | k + 1, h => by
    rw [turnsTo_snoc h]
    have := turnsTo_len (l := l) (c := c) (k := k) (by omega)
    unfold turnStep
    split
    · unfold insT
      rw [putAt_len (placeOf_le _ _)]
      omega
    · omega
end Go.Proofs.YtlioojekjnigiaeGreat.AM
/- Sites: one comes in. -/
namespace Go.Proofs.YtlioojekjnigiaeGreat.AM
set_option linter.unusedVariables false
set_option linter.unusedSimpArgs false
def roomErr (p : List Entry' × List Entry') : Int := if 20 < p.2.length ∨ 40 < p.1.length then 2 else 0
theorem checkRoom_ok (r : Int) (log ws : List Entry') : PCall Tryz.prog 65 [.dat (.ptr [.int .i64 r, .list (log.map Entry'.enc), .list (ws.map Entry'.enc)])] (dInt (roomErr (log, ws))) := by
  refine pcall_intro tab_all tab_mixed Tryz.func65 (by kernel_rfl) Tryz.ntmps65 rfl ?_
  conv => whnf
  conv => whnf
  repeat (first | (refine Conf.mk (by kernel_rfl) ?_; conv => whnf) | (refine SeqOk.go ?_; conv => whnf))
  refine ⟨fun h => ?_, fun h => ?_⟩
  · have h : 20 < ws.length := by simp at h; omega
    conv => whnf
    repeat (first | (refine Conf.mk (by kernel_rfl) ?_; conv => whnf) | (refine SeqOk.go ?_; conv => whnf))
    exact Ret.int (by unfold roomErr; rw [if_pos (.inl h)])
  · have h : ¬ 20 < ws.length := by simp at h; omega
    conv => whnf
    repeat (first | (refine Conf.mk (by kernel_rfl) ?_; conv => whnf) | (refine SeqOk.go ?_; conv => whnf))
    refine ⟨fun h2 => ?_, fun h2 => ?_⟩
    · have h2 : 40 < log.length := by simp at h2; omega
      conv => whnf
      repeat (first | (refine Conf.mk (by kernel_rfl) ?_; conv => whnf) | (refine SeqOk.go ?_; conv => whnf))
      exact Ret.int (by unfold roomErr; rw [if_pos (.inr h2)])
    · have h2 : ¬ 40 < log.length := by simp at h2; omega
      conv => whnf
      repeat (first | (refine Conf.mk (by kernel_rfl) ?_; conv => whnf) | (refine SeqOk.go ?_; conv => whnf))
      exact Ret.int (by unfold roomErr; rw [if_neg (by simp only [not_or]; exact ⟨h, h2⟩)])
/-- The waits, with one more. -/
def putW (ws : List Entry') (e : Entry') : List Entry' := putAt ws (waitAt ws e.id) e
set_option maxHeartbeats 0 in
theorem receive_ok (r : Int) (log ws : List Entry') (e : Entry') (hlen : log.length + ws.length ≤ 500) (hk : ∀ e ∈ ws, e.links.length ≤ 1000) (he : e.links.length ≤ 1000) : ACall Tryz.prog 59 [.ptr 0 0, e.arg] [(0, .vars 84 3 [dInt r, .row 1, .row 2] true), (1, .rows 48 5 (log.map Entry'.enc) true), (2, .rows 48 5 (ws.map Entry'.enc) true)] 3 fun x H' n' =>
    ((log.any (isThe e.id) || ws.any (isThe e.id)) = true ∧ x = dInt 0 ∧ H' = [(0, .vars 84 3 [dInt r, .row 1, .row 2] true), (1, .rows 48 5 (log.map Entry'.enc) true), (2, .rows 48 5 (ws.map Entry'.enc) true)] ∧ n' = 3)
    ∨ ((log.any (isThe e.id) || ws.any (isThe e.id)) = false ∧ e.id.r = r ∧ x = dInt 4 ∧ H' = [(0, .vars 84 3 [dInt r, .row 1, .row 2] true), (1, .rows 48 5 (log.map Entry'.enc) true), (2, .rows 48 5 (ws.map Entry'.enc) true)] ∧ n' = 3)
    ∨ ((log.any (isThe e.id) || ws.any (isThe e.id)) = false ∧ e.id.r ≠ r ∧ x = dInt (roomErr (settle log (putW ws e))) ∧
        ((settle log (putW ws e) = (log, putW ws e) ∧ H' = [(0, .vars 84 3 [dInt r, .row 1, .row 3] true), (1, .rows 48 5 (log.map Entry'.enc) true), (2, .dead), (3, .rows 48 5 ((putW ws e).map Entry'.enc) true)] ∧ n' = 4)
        ∨ (H' = [(0, .vars 84 3 [dInt r, .row 4, .row 5] true), (1, .dead), (2, .dead), (3, .dead), (4, .rows 48 5 ((settle log (putW ws e)).1.map Entry'.enc) true), (5, .rows 48 5 ((settle log (putW ws e)).2.map Entry'.enc) true)] ∧ n' = 6))) := by
  have hple := waitAt_le e.id ws
  have hpl : (putW ws e).length = ws.length + 1 := putAt_len hple e
  have hpk : ∀ x ∈ putW ws e, x.links.length ≤ 1000 := fun x hx => by
    rcases mem_putAt.1 hx with rfl | hx
    · exact he
    · exact hk x hx
  refine acall_intro tab_all tab_mixed Tryz.func59 (by kernel_rfl) Tryz.ntmps59 rfl ?_
  conv => whnf
  conv => whnf
  repeat (first | (refine Conf.mk (by kernel_rfl) ?_; conv => whnf) | (refine SeqOk.go ?_; conv => whnf))
  refine .look _ _ (siteHas_ok e.id log (by omega)) rfl rfl ?_
  conv => whnf
  repeat (first | (refine Conf.mk (by kernel_rfl) ?_; conv => whnf) | (refine SeqOk.go ?_; conv => whnf))
  refine ⟨fun h1 => ?_, fun h1 => ?_⟩
  · have hth : (log.any (isThe e.id) || ws.any (isThe e.id)) = true := by rw [show log.any (isThe e.id) = true from h1]; rfl
    conv => whnf
    repeat (first | (refine Conf.mk (by kernel_rfl) ?_; conv => whnf) | (refine SeqOk.go ?_; conv => whnf))
    exact .mk [] [0, 1, 2] (dInt 0) [(0, .vars 84 3 [dInt r, .row 1, .row 2] true), (1, .rows 48 5 (log.map Entry'.enc) true), (2, .rows 48 5 (ws.map Entry'.enc) true)] rfl (.same rfl) ⟨⟨rfl, rfl, rfl, .same rfl, rfl, .same rfl, rfl, .same rfl, rfl, trivial⟩, ⟨rfl, rfl, rfl, rfl⟩, ⟨rfl, rfl, rfl, rfl⟩, trivial⟩ rfl rfl (.inl ⟨hth, rfl, rfl, rfl⟩)
  · have h1 : log.any (isThe e.id) = false := h1
    conv => whnf
    repeat (first | (refine Conf.mk (by kernel_rfl) ?_; conv => whnf) | (refine SeqOk.go ?_; conv => whnf))
    refine .look _ _ (siteHas_ok e.id ws (by omega)) rfl rfl ?_
    conv => whnf
    repeat (first | (refine Conf.mk (by kernel_rfl) ?_; conv => whnf) | (refine SeqOk.go ?_; conv => whnf))
    refine ⟨fun h2 => ?_, fun h2 => ?_⟩
    · have hth : (log.any (isThe e.id) || ws.any (isThe e.id)) = true := by rw [h1, show ws.any (isThe e.id) = true from h2]; rfl
      conv => whnf
      repeat (first | (refine Conf.mk (by kernel_rfl) ?_; conv => whnf) | (refine SeqOk.go ?_; conv => whnf))
      exact .mk [] [0, 1, 2] (dInt 0) [(0, .vars 84 3 [dInt r, .row 1, .row 2] true), (1, .rows 48 5 (log.map Entry'.enc) true), (2, .rows 48 5 (ws.map Entry'.enc) true)] rfl (.same rfl) ⟨⟨rfl, rfl, rfl, .same rfl, rfl, .same rfl, rfl, .same rfl, rfl, trivial⟩, ⟨rfl, rfl, rfl, rfl⟩, ⟨rfl, rfl, rfl, rfl⟩, trivial⟩ rfl rfl (.inl ⟨hth, rfl, rfl, rfl⟩)
    · have hth : (log.any (isThe e.id) || ws.any (isThe e.id)) = false := by rw [h1, show ws.any (isThe e.id) = false from h2]; rfl
      conv => whnf
      repeat (first | (refine Conf.mk (by kernel_rfl) ?_; conv => whnf) | (refine SeqOk.go ?_; conv => whnf))
      refine ⟨fun h3 => ?_, fun h3 => ?_⟩
      · have h3 : e.id.r = r := by simpa using h3
        conv => whnf
        repeat (first | (refine Conf.mk (by kernel_rfl) ?_; conv => whnf) | (refine SeqOk.go ?_; conv => whnf))
        exact .mk [] [0, 1, 2] (dInt 4) [(0, .vars 84 3 [dInt r, .row 1, .row 2] true), (1, .rows 48 5 (log.map Entry'.enc) true), (2, .rows 48 5 (ws.map Entry'.enc) true)] rfl (.same rfl) ⟨⟨rfl, rfl, rfl, .same rfl, rfl, .same rfl, rfl, .same rfl, rfl, trivial⟩, ⟨rfl, rfl, rfl, rfl⟩, ⟨rfl, rfl, rfl, rfl⟩, trivial⟩ rfl rfl (.inr (.inl ⟨hth, h3, rfl, rfl, rfl⟩))
      · have h3 : e.id.r ≠ r := by simpa using h3
        conv => whnf
        repeat (first | (refine Conf.mk (by kernel_rfl) ?_; conv => whnf) | (refine SeqOk.go ?_; conv => whnf))
        refine .data _ _ (copyEntry_ok e he) rfl ?_
        conv => whnf
        repeat (first | (refine Conf.mk (by kernel_rfl) ?_; conv => whnf) | (refine SeqOk.go ?_; conv => whnf))
        refine .eff [0, 1, 2] _ _ _ _ 1 (await_ok r log ws e (by omega)) rfl rfl rfl rfl rfl ?_
        conv => whnf
        repeat (first | (refine Conf.mk (by kernel_rfl) ?_; conv => whnf) | (refine SeqOk.go ?_; conv => whnf))
        refine .some [0, 1, 4] _ _ _ rfl (settle_ok r log (putW ws e) (by omega) hpk) rfl rfl rfl rfl rfl ?_
        rintro x Hc' m' (⟨rfl, hst, rfl, hm'⟩ | ⟨rfl, rfl, hm'⟩)
        · obtain rfl : m' = 0 := by simp at hm'; omega
          have hro := checkRoom_ok r log (putW ws e)
          conv => whnf
          repeat (first | (refine Conf.mk (by kernel_rfl) ?_; conv => whnf) | (refine SeqOk.go ?_; conv => whnf))
          refine .look _ _ hro rfl rfl ?_
          conv => whnf
          repeat (first | (refine Conf.mk (by kernel_rfl) ?_; conv => whnf) | (refine SeqOk.go ?_; conv => whnf))
          exact .mk [] [0, 1, 2, 4] (dInt (roomErr (log, putW ws e))) [(0, .vars 84 3 [dInt r, .row 1, .row 3] true), (1, .rows 48 5 (log.map Entry'.enc) true), (2, .dead), (3, .rows 48 5 ((putW ws e).map Entry'.enc) true)] rfl (.same rfl) ⟨⟨rfl, rfl, rfl, .same rfl, rfl, .same rfl, rfl, .same rfl, rfl, trivial⟩, ⟨rfl, rfl, rfl, rfl⟩, trivial, ⟨rfl, rfl, rfl, rfl⟩, trivial⟩ rfl rfl (.inr (.inr ⟨hth, h3, by rw [hst], .inl ⟨hst, rfl, rfl⟩⟩))
        · obtain rfl : m' = 2 := by simp at hm'; omega
          have hro := checkRoom_ok r (settle log (putW ws e)).1 (settle log (putW ws e)).2
          conv => whnf
          repeat (first | (refine Conf.mk (by kernel_rfl) ?_; conv => whnf) | (refine SeqOk.go ?_; conv => whnf))
          refine .look _ _ hro rfl rfl ?_
          conv => whnf
          repeat (first | (refine Conf.mk (by kernel_rfl) ?_; conv => whnf) | (refine SeqOk.go ?_; conv => whnf))
          exact .mk [] [0, 1, 2, 4, 5, 6] (dInt (roomErr (settle log (putW ws e)))) [(0, .vars 84 3 [dInt r, .row 4, .row 5] true), (1, .dead), (2, .dead), (3, .dead), (4, .rows 48 5 ((settle log (putW ws e)).1.map Entry'.enc) true), (5, .rows 48 5 ((settle log (putW ws e)).2.map Entry'.enc) true)] rfl (.same rfl) ⟨⟨rfl, rfl, rfl, .same rfl, rfl, .same rfl, rfl, .same rfl, rfl, trivial⟩, trivial, trivial, trivial, ⟨rfl, rfl, rfl, rfl⟩, ⟨rfl, rfl, rfl, rfl⟩, trivial⟩ rfl rfl (.inr (.inr ⟨hth, h3, rfl, .inr ⟨rfl, rfl⟩⟩))
end Go.Proofs.YtlioojekjnigiaeGreat.AM
/- Sites: Receive. -/
namespace Go.Proofs.YtlioojekjnigiaeGreat.AM
set_option linter.unusedVariables false
set_option linter.unusedSimpArgs false

def thereS (s : Site') (e : Entry') : Bool := s.log.any (isThe e.id) || s.waits.any (isThe e.id)
def recvErr (s : Site') (e : Entry') : Int :=
  if siteErr s ≠ 0 then siteErr s else if e.err ≠ 0 then e.err else if thereS s e = true then 0 else if e.id.r = s.region then 4 else roomErr (settle s.log (putW s.waits e))
def recvAns (s : Site') (e : Entry') : Site' :=
  if recvErr s e ≠ 0 then ⟨0, [], []⟩ else if thereS s e = true then s else ⟨s.region, (settle s.log (putW s.waits e)).1, (settle s.log (putW s.waits e)).2⟩
theorem site_facts {s : Site'} (h : siteErr s = 0) : (s.region = 0 ∨ s.region = 1) ∧ Right s.log ∧ s.waits.length ≤ 20 ∧ waitsFrom s 0 s.waits = 0 := by
  unfold siteErr at h
  split at h
  · cases h
  · rename_i h1
    split at h
    · rename_i h2; exact absurd h h2
    · rename_i h2
      split at h
      · cases h
      · rename_i h3
        exact ⟨by omega, right_iff.1 (by simpa using h2), by omega, h⟩
theorem waits_facts {s : Site'} : ∀ {t : List Entry'} {i : Nat}, waitsFrom s i t = 0 → ∀ x ∈ t, x.err = 0
  | [], i, _, x, hx => by cases hx
  | y :: t, i, h, x, hx => by
    unfold waitsFrom at h
    split at h
    · rename_i h1; exact absurd h h1
    · rename_i h1
      rcases List.mem_cons.1 hx with rfl | hx
      · have h1 : waitErr s i x = 0 := by simpa using h1
        unfold waitErr at h1
        split at h1
        · rename_i h2; exact absurd h1 h2
        · rename_i h2; simpa using h2
      · exact waits_facts h x hx
set_option maxHeartbeats 0 in
theorem Receive_ok (s : Site') (hs : SiteOk s) (e : Entry') (he : e.links.length ≤ 140737488355328) : PCall Tryz.prog 35 [s.arg, e.arg] (.tup [(recvAns s e).arg, dInt (recvErr s e)]) := by
  refine pcall_intro tab_all tab_mixed Tryz.func35 (by kernel_rfl) Tryz.ntmps35 rfl ?_
  conv => whnf
  refine .data _ _ (siteCheck_ok s hs) rfl ?_
  conv => whnf
  repeat (first | (refine Conf.mk (by kernel_rfl) ?_; conv => whnf) | (refine SeqOk.go ?_; conv => whnf))
  refine ⟨fun h1 => ?_, fun h1 => ?_⟩
  · have h1 : siteErr s ≠ 0 := by simpa using h1
    have hE : recvErr s e = siteErr s := by unfold recvErr; rw [if_pos h1]
    have hA : recvAns s e = ⟨0, [], []⟩ := by unfold recvAns; rw [hE, if_pos h1]
    conv => whnf
    repeat (first | (refine Conf.mk (by kernel_rfl) ?_; conv => whnf) | (refine SeqOk.go ?_; conv => whnf))
    exact Ret.to (by rw [hE, hA]; rfl)
  · have h1 : siteErr s = 0 := by simpa using h1
    obtain ⟨hreg, hr, hwl, hwf⟩ := site_facts h1
    have hll := hr.len
    conv => whnf
    repeat (first | (refine Conf.mk (by kernel_rfl) ?_; conv => whnf) | (refine SeqOk.go ?_; conv => whnf))
    refine .data _ _ (check_ok e he) rfl ?_
    conv => whnf
    repeat (first | (refine Conf.mk (by kernel_rfl) ?_; conv => whnf) | (refine SeqOk.go ?_; conv => whnf))
    refine ⟨fun h2 => ?_, fun h2 => ?_⟩
    · have h2 : e.err ≠ 0 := by simpa using h2
      have hE : recvErr s e = e.err := by unfold recvErr; rw [if_neg (by simp [h1]), if_pos h2]
      have hA : recvAns s e = ⟨0, [], []⟩ := by unfold recvAns; rw [hE, if_pos h2]
      conv => whnf
      repeat (first | (refine Conf.mk (by kernel_rfl) ?_; conv => whnf) | (refine SeqOk.go ?_; conv => whnf))
      exact Ret.to (by rw [hE, hA]; rfl)
    · have h2 : e.err = 0 := by simpa using h2
      have hE : recvErr s e = if thereS s e = true then 0 else if e.id.r = s.region then 4 else roomErr (settle s.log (putW s.waits e)) := by unfold recvErr; rw [if_neg (by simp [h1]), if_neg (by simp [h2])]
      have h6 := (six_of h2).2
      have hk1 : ∀ x ∈ s.log, x.links.length ≤ 1000 := fun x hx => by have := hr.six hx; omega
      have hk2 : ∀ x ∈ s.waits, x.links.length ≤ 1000 := fun x hx => by have := (six_of (waits_facts hwf x hx)).2; omega
      conv => whnf
      repeat (first | (refine Conf.mk (by kernel_rfl) ?_; conv => whnf) | (refine SeqOk.go ?_; conv => whnf))
      refine .eff [] _ _ _ _ 2 (copyOf_ok s hk1 (by omega) hk2 (by omega)) rfl rfl rfl rfl rfl ?_
      conv => whnf
      repeat (first | (refine Conf.mk (by kernel_rfl) ?_; conv => whnf) | (refine SeqOk.go ?_; conv => whnf))
      refine .some [5, 3, 4] _ _ _ rfl (receive_ok s.region s.log s.waits e (by omega) hk2 (by omega)) rfl rfl rfl rfl rfl ?_
      rintro x Hc' m' (⟨ht, rfl, rfl, hm'⟩ | ⟨ht, hg, rfl, rfl, hm'⟩ | ⟨ht, hg, rfl, (⟨hst, rfl, hm'⟩ | ⟨rfl, hm'⟩)⟩)
      · obtain rfl : m' = 0 := by simp at hm'; omega
        have ht : thereS s e = true := ht
        have hE2 : recvErr s e = 0 := by rw [hE, if_pos ht]
        have hA : recvAns s e = s := by unfold recvAns; rw [hE2, if_neg (by simp), if_pos ht]
        conv => whnf
        repeat (first | (refine Conf.mk (by kernel_rfl) ?_; conv => whnf) | (refine SeqOk.go ?_; conv => whnf))
        refine BoolCase.no rfl ?_
        conv => whnf
        repeat (first | (refine Conf.mk (by kernel_rfl) ?_; conv => whnf) | (refine SeqOk.go ?_; conv => whnf))
        exact Ret.to (by rw [hE2, hA]; rfl)
      · obtain rfl : m' = 0 := by simp at hm'; omega
        have hE2 : recvErr s e = 4 := by rw [hE, if_neg (by show ¬ thereS s e = true; rw [show thereS s e = false from ht]; decide), if_pos hg]
        have hA : recvAns s e = ⟨0, [], []⟩ := by unfold recvAns; rw [hE2, if_pos (by decide)]
        conv => whnf
        repeat (first | (refine Conf.mk (by kernel_rfl) ?_; conv => whnf) | (refine SeqOk.go ?_; conv => whnf))
        refine BoolCase.yes rfl ?_
        conv => whnf
        repeat (first | (refine Conf.mk (by kernel_rfl) ?_; conv => whnf) | (refine SeqOk.go ?_; conv => whnf))
        exact Ret.to (by rw [hE2, hA]; rfl)
      · obtain rfl : m' = 1 := by simp at hm'; omega
        have hE2 : recvErr s e = roomErr (settle s.log (putW s.waits e)) := by rw [hE, if_neg (by show ¬ thereS s e = true; rw [show thereS s e = false from ht]; decide), if_neg hg]
        conv => whnf
        repeat (first | (refine Conf.mk (by kernel_rfl) ?_; conv => whnf) | (refine SeqOk.go ?_; conv => whnf))
        refine ⟨fun h5 => ?_, fun h5 => ?_⟩
        · have h5 : roomErr (settle s.log (putW s.waits e)) ≠ 0 := by simpa using h5
          have hA : recvAns s e = ⟨0, [], []⟩ := by unfold recvAns; rw [hE2, if_pos h5]
          conv => whnf
          repeat (first | (refine Conf.mk (by kernel_rfl) ?_; conv => whnf) | (refine SeqOk.go ?_; conv => whnf))
          exact Ret.to (by rw [hE2, hA]; rfl)
        · have h5 : roomErr (settle s.log (putW s.waits e)) = 0 := by simpa using h5
          have hA : recvAns s e = ⟨s.region, s.log, putW s.waits e⟩ := by unfold recvAns; rw [hE2, if_neg (by simp [h5]), if_neg (by rw [show thereS s e = false from ht]; decide), hst]
          conv => whnf
          repeat (first | (refine Conf.mk (by kernel_rfl) ?_; conv => whnf) | (refine SeqOk.go ?_; conv => whnf))
          exact Ret.to (by rw [hE2, h5, hA]; rfl)
      · obtain rfl : m' = 3 := by simp at hm'; omega
        have hE2 : recvErr s e = roomErr (settle s.log (putW s.waits e)) := by rw [hE, if_neg (by show ¬ thereS s e = true; rw [show thereS s e = false from ht]; decide), if_neg hg]
        conv => whnf
        repeat (first | (refine Conf.mk (by kernel_rfl) ?_; conv => whnf) | (refine SeqOk.go ?_; conv => whnf))
        refine ⟨fun h5 => ?_, fun h5 => ?_⟩
        · have h5 : roomErr (settle s.log (putW s.waits e)) ≠ 0 := by simpa using h5
          have hA : recvAns s e = ⟨0, [], []⟩ := by unfold recvAns; rw [hE2, if_pos h5]
          conv => whnf
          repeat (first | (refine Conf.mk (by kernel_rfl) ?_; conv => whnf) | (refine SeqOk.go ?_; conv => whnf))
          exact Ret.to (by rw [hE2, hA]; rfl)
        · have h5 : roomErr (settle s.log (putW s.waits e)) = 0 := by simpa using h5
          have hA : recvAns s e = ⟨s.region, (settle s.log (putW s.waits e)).1, (settle s.log (putW s.waits e)).2⟩ := by unfold recvAns; rw [hE2, if_neg (by simp [h5]), if_neg (by rw [show thereS s e = false from ht]; decide)]
          conv => whnf
          repeat (first | (refine Conf.mk (by kernel_rfl) ?_; conv => whnf) | (refine SeqOk.go ?_; conv => whnf))
          exact Ret.to (by rw [hE2, h5, hA]; rfl)
end Go.Proofs.YtlioojekjnigiaeGreat.AM
/- Plain: what settles, and what can. -/
namespace Go.Proofs.YtlioojekjnigiaeGreat.AM
set_option linter.unusedVariables false
set_option linter.unusedSimpArgs false

theorem settleN_ind {P : List Entry' → List Entry' → Prop} (hs : ∀ l w i (hi : i < w.length), P l w → isIdx (readyP l) w 0 = some i → P (l ++ [w[i]]) (w.eraseIdx i)) : ∀ (n : Nat) (l w : List Entry'), w.length ≤ n → P l w → P (settleN n l w).1 (settleN n l w).2 ∧ isIdx (readyP (settleN n l w).1) (settleN n l w).2 0 = none
  | 0, l, w, hn, h => by
    have : w = [] := List.length_eq_zero_iff.1 (by omega)
    subst this
    exact ⟨h, rfl⟩
  | n + 1, l, w, hn, h => by
    unfold settleN
    cases hx : isIdx (readyP l) w 0 with
    | none => exact ⟨h, hx⟩
    | some i =>
      obtain ⟨k, hik, hk, _⟩ := isIdx_some hx
      obtain rfl : i = k := by omega
      simp only [List.getElem?_eq_getElem hk]
      exact settleN_ind hs n _ _ (by rw [List.length_eraseIdx_of_lt hk]; omega) (hs l w i hk h hx)
theorem settle_ind {P : List Entry' → List Entry' → Prop} (hs : ∀ l w i (hi : i < w.length), P l w → isIdx (readyP l) w 0 = some i → P (l ++ [w[i]]) (w.eraseIdx i)) {l w : List Entry'} (h : P l w) : P (settle l w).1 (settle l w).2 ∧ isIdx (readyP (settle l w).1) (settle l w).2 0 = none :=
  settleN_ind hs _ l w (Nat.le_refl _) h
theorem idx_ready {l w : List Entry'} {i : Nat} (hi : i < w.length) (h : isIdx (readyP l) w 0 = some i) : readyP l w[i] = true := by
  obtain ⟨k, hik, hk, hp⟩ := isIdx_some h
  obtain rfl : i = k := by omega
  exact hp
/-- A right log, and what waits beside it. -/
structure Beside (l w : List Entry') : Prop where
  log : Right l
  err : ∀ x ∈ w, x.err = 0
  new : ∀ x ∈ w, ∀ e ∈ l, e.id ≠ x.id
  once : w.Pairwise fun a b => a.id ≠ b.id
theorem mem_erase {w : List Entry'} {i : Nat} (hi : i < w.length) (ho : w.Pairwise fun a b => a.id ≠ b.id) {x : Entry'} (hx : x ∈ w.eraseIdx i) : w[i].id ≠ x.id := by
  obtain ⟨j, hj, hne, rfl⟩ := List.mem_eraseIdx_iff_getElem.1 hx
  rcases Nat.lt_or_gt_of_ne hne with h | h
  · exact fun e => List.pairwise_iff_getElem.1 ho j i hj hi h e.symm
  · exact List.pairwise_iff_getElem.1 ho i j hi hj h
theorem mem_erase_or {w : List Entry'} {i : Nat} (hi : i < w.length) {x : Entry'} : x ∈ w ↔ x = w[i] ∨ x ∈ w.eraseIdx i := by
  refine ⟨fun h => ?_, fun h => ?_⟩
  · obtain ⟨j, hj, rfl⟩ := List.getElem_of_mem h
    by_cases e : j = i
    · subst e; exact .inl rfl
    · exact .inr (List.mem_eraseIdx_iff_getElem.2 ⟨j, hj, e, rfl⟩)
  · rcases h with rfl | h
    · exact List.getElem_mem hi
    · exact List.mem_of_mem_eraseIdx h
theorem Beside.step {l w : List Entry'} (h : Beside l w) {i : Nat} (hi : i < w.length) (hx : isIdx (readyP l) w 0 = some i) : Beside (l ++ [w[i]]) (w.eraseIdx i) := by
  have hm := List.getElem_mem hi
  refine ⟨h.log.snoc (readyP_behind (h.err _ hm) (h.new _ hm) (idx_ready hi hx)), fun x hx => h.err x (List.mem_of_mem_eraseIdx hx), fun x hx e he => ?_, h.once.sublist (List.eraseIdx_sublist _ _)⟩
  rcases List.mem_append.1 he with he | he
  · exact h.new x (List.mem_of_mem_eraseIdx hx) e he
  · have : e = w[i] := by simpa using he
    rw [this]
    exact mem_erase hi h.once hx
/-- All numbers of a region are there, up to how many there are. -/
theorem Right.num_of {l : List Entry'} (hr : Right l) (r : Int) {k : Nat} (h1 : 1 ≤ k) (h2 : k ≤ cnt r l) : ∃ e ∈ l, e.id = ⟨r, k⟩ := by
  have key : ∀ m, m ≤ l.length → k ≤ cnt r (l.take m) → ∃ e ∈ l, e.id = ⟨r, k⟩ := by
    intro m
    induction m with
    | zero => intro _ h; simp [cnt] at h; omega
    | succ m ih =>
      intro hm hc
      have hs := cnt_succ r (l := l) (i := m) hm
      by_cases hx : l[m].id.r = r
      · rw [if_pos (by simp [hx])] at hs
        by_cases hk : k ≤ cnt r (l.take m)
        · exact ih (by omega) hk
        · refine ⟨l[m], List.getElem_mem hm, ?_⟩
          have := (hr.get hm).num
          rw [hx] at this
          have h3 : l[m].id = ⟨l[m].id.r, l[m].id.n⟩ := rfl
          rw [h3, hx, this]
          congr 1
          omega
      · rw [if_neg (by simp [hx])] at hs
        exact ih (by omega) (by omega)
  exact key l.length (Nat.le_refl _) (by rw [List.take_of_length_le (Nat.le_refl _)]; exact h2)
/-- What can be there in the end. -/
inductive Can (l w : List Entry') : Id → Prop
  | there {e : Entry'} : e ∈ l → Can l w e.id
  | goes {e : Entry'} : e ∈ w → (∀ y ∈ e.links, Can l w y) → (1 < e.id.n → Can l w ⟨e.id.r, e.id.n - 1⟩) → Can l w e.id
structure After (l w l' w' : List Entry') : Prop where
  inv : Beside l' w'
  ext : ∃ t, l' = l ++ t
  sub : w'.Sublist w
  both : ∀ e, (e ∈ l' ∨ e ∈ w') ↔ (e ∈ l ∨ e ∈ w)
  can : ∀ e ∈ l', Can l w e.id
theorem After.start {l w : List Entry'} (h : Beside l w) : After l w l w := ⟨h, ⟨[], by simp⟩, List.Sublist.refl _, fun _ => Iff.rfl, fun e he => .there he⟩
theorem After.step {l w l' w' : List Entry'} (h : After l w l' w') {i : Nat} (hi : i < w'.length) (hx : isIdx (readyP l') w' 0 = some i) : After l w (l' ++ [w'[i]]) (w'.eraseIdx i) := by
  have hm := List.getElem_mem hi
  refine ⟨h.inv.step hi hx, ?_, (List.eraseIdx_sublist _ _).trans h.sub, fun e => ?_, fun e he => ?_⟩
  · obtain ⟨t, ht⟩ := h.ext
    exact ⟨t ++ [w'[i]], by rw [ht, List.append_assoc]⟩
  · rw [← h.both e, List.mem_append, List.mem_singleton, mem_erase_or hi (x := e)]
    constructor
    · rintro ((h | h) | h)
      · exact .inl h
      · exact .inr (.inl h)
      · exact .inr (.inr h)
    · rintro (h | h | h)
      · exact .inl (.inl h)
      · exact .inl (.inr h)
      · exact .inr h
  · rcases List.mem_append.1 he with he | he
    · exact h.can e he
    · have : e = w'[i] := by simpa using he
      subst this
      have hrd := idx_ready hi hx
      unfold readyP at hrd
      rw [Bool.and_eq_true, decide_eq_true_eq, List.all_eq_true] at hrd
      refine .goes (h.sub.subset hm) (fun y hy => ?_) fun h1 => ?_
      · obtain ⟨x, hx, rfl⟩ := any_isThe.1 (hrd.2 y hy)
        exact h.can x hx
      · obtain ⟨x, hx, hxe⟩ := h.inv.log.num_of w'[i].id.r (k := cnt w'[i].id.r l') (by omega) (Nat.le_refl _)
        have := h.can x hx
        rw [hxe] at this
        rw [hrd.1, Int.add_sub_cancel]
        exact this
theorem settle_after {l w : List Entry'} (h : Beside l w) : After l w (settle l w).1 (settle l w).2 ∧ ∀ x ∈ (settle l w).2, readyP (settle l w).1 x = false := by
  have := settle_ind (P := After l w) (fun l' w' i hi h hx => h.step hi hx) (After.start h)
  exact ⟨this.1, isIdx_none.1 this.2⟩
theorem num_pos {e : Entry'} (h : e.err = 0) : 1 ≤ e.id.n ∧ e.id.n ≤ 20 := by
  have := ok_of_err h
  simp [Id.ok] at this
  omega
/-- All that can be there is. -/
theorem settle_full {l w : List Entry'} (h : Beside l w) {x : Id} (hx : Can l w x) : ∃ e ∈ (settle l w).1, e.id = x := by
  obtain ⟨ha, hn⟩ := settle_after h
  induction hx with
  | there he =>
    obtain ⟨t, ht⟩ := ha.ext
    exact ⟨_, by rw [ht]; exact List.mem_append_left _ he, rfl⟩
  | @goes e he _ _ ih1 ih2 =>
    rcases (ha.both e).2 (.inr he) with h1 | h1
    · exact ⟨e, h1, rfl⟩
    · have hp := num_pos (h.err e he)
      have hrd : readyP (settle l w).1 e = true := by
        unfold readyP
        rw [Bool.and_eq_true, decide_eq_true_eq, List.all_eq_true]
        refine ⟨?_, fun y hy => any_isThe.2 (ih1 y hy)⟩
        by_cases hle : e.id.n ≤ (cnt e.id.r (settle l w).1 : Int)
        · obtain ⟨x, hx, hxe⟩ := ha.inv.log.num_of e.id.r (k := e.id.n.toNat) (by omega) (by omega)
          refine absurd ?_ (ha.inv.new e h1 x hx)
          rw [hxe]
          have h3 : e.id = ⟨e.id.r, e.id.n⟩ := rfl
          have h4 : ((e.id.n.toNat : Nat) : Int) = e.id.n := by omega
          rw [h4]
        · by_cases h2 : 1 < e.id.n
          · obtain ⟨x, hx, hxe⟩ := ih2 h2
            have := ha.inv.log.num_le hx
            rw [hxe] at this
            simp at this
            omega
          · omega
      rw [hn e h1] at hrd
      cases hrd
theorem settle_can {l w : List Entry'} (h : Beside l w) {x : Id} : (∃ e ∈ (settle l w).1, e.id = x) ↔ Can l w x :=
  ⟨fun ⟨e, he, hx⟩ => hx ▸ (settle_after h).1.can e he, settle_full h⟩
end Go.Proofs.YtlioojekjnigiaeGreat.AM
/- Plain: sites of which Check has nothing to say stay so; whatever the order. -/
namespace Go.Proofs.YtlioojekjnigiaeGreat.AM
set_option linter.unusedVariables false
set_option linter.unusedSimpArgs false

theorem less_ne {x y : Id} (h : x.less y = true) : x ≠ y := fun e => by rw [e, less_irrefl] at h; cases h
theorem adj_pairwise {w : List Entry'} (h : ∀ i (hi : i + 1 < w.length), w[i].id.less w[i + 1].id = true) : w.Pairwise fun a b => a.id.less b.id = true :=
  List.pairwise_iff_getElem.2 fun i j hi hj hij => by
    induction j with
    | zero => omega
    | succ j ih =>
      by_cases e : i = j
      · subst e; exact h i hj
      · exact less_trans (ih (by omega) (by omega)) (h j hj)
structure SiteR (s : Site') : Prop where
  reg : s.region = 0 ∨ s.region = 1
  log : Right s.log
  len : s.waits.length ≤ 20
  err : ∀ x ∈ s.waits, x.err = 0
  far : ∀ x ∈ s.waits, x.id.r ≠ s.region
  new : ∀ x ∈ s.waits, ∀ e ∈ s.log, e.id ≠ x.id
  wait : ∀ x ∈ s.waits, readyP s.log x = false
  sort : s.waits.Pairwise fun a b => a.id.less b.id = true
theorem waitErr_iff {s : Site'} {i : Nat} {x : Entry'} : waitErr s i x = 0 ↔ x.err = 0 ∧ badAhead s i x = false ∧ x.id.r ≠ s.region ∧ s.log.any (isThe x.id) = false ∧ readyP s.log x = false := by
  unfold waitErr
  by_cases h1 : x.err = 0
  · rw [if_neg (by simp [h1])]
    cases h2 : badAhead s i x <;> cases h3 : decide (x.id.r = s.region) <;> cases h4 : s.log.any (isThe x.id) <;> cases h5 : readyP s.log x <;> simp at h3 <;> simp [h1, h3]
  · rw [if_pos h1]
    exact ⟨fun h => absurd h h1, fun h => absurd h.1 h1⟩
theorem waitsFrom_iff (s : Site') : ∀ (t : List Entry') (i : Nat), waitsFrom s i t = 0 ↔ ∀ k (hk : k < t.length), waitErr s (i + k) t[k] = 0
  | [], i => ⟨fun _ k hk => by simp at hk, fun _ => rfl⟩
  | x :: t, i => by
    unfold waitsFrom
    by_cases h : waitErr s i x = 0
    · rw [if_neg (by simp [h]), waitsFrom_iff s t (i + 1)]
      refine ⟨fun k j hj => ?_, fun k j hj => ?_⟩
      · match j with
        | 0 => exact h
        | j + 1 =>
          have := k j (by simpa using hj)
          rw [show i + 1 + j = i + (j + 1) by omega] at this
          exact this
      · have := k (j + 1) (by simpa using hj)
        rw [show i + (j + 1) = i + 1 + j by omega] at this
        exact this
    · rw [if_pos h]
      exact ⟨fun k => absurd k h, fun k => absurd (k 0 (by simp)) h⟩
theorem siteErr_iff {s : Site'} : siteErr s = 0 ↔ SiteR s := by
  constructor
  · intro h
    obtain ⟨h1, h2, h3, h4⟩ := site_facts h
    have hw := fun i (hi : i < s.waits.length) => waitErr_iff.1 ((waitsFrom_iff s s.waits 0).1 h4 i hi)
    have hm : ∀ x ∈ s.waits, ∃ i, ∃ hi : i < s.waits.length, s.waits[i] = x := fun x hx => List.getElem_of_mem hx
    refine ⟨h1, h2, h3, fun x hx => ?_, fun x hx => ?_, fun x hx e he => ?_, fun x hx => ?_, adj_pairwise fun i hi => ?_⟩
    · obtain ⟨i, hi, rfl⟩ := hm x hx
      exact (hw i hi).1
    · obtain ⟨i, hi, rfl⟩ := hm x hx
      exact (hw i hi).2.2.1
    · obtain ⟨i, hi, rfl⟩ := hm x hx
      intro k
      have := (hw i hi).2.2.2.1
      rw [any_isThe.2 ⟨e, he, k⟩] at this
      cases this
    · obtain ⟨i, hi, rfl⟩ := hm x hx
      exact (hw i hi).2.2.2.2
    · have := (hw (i + 1) hi).2.1
      unfold badAhead at this
      rw [Nat.zero_add, Nat.add_sub_cancel, List.getElem?_eq_getElem (by omega)] at this
      simpa using this
  · intro h
    have hll := h.log
    unfold siteErr
    rw [if_neg (by have := h.reg; omega), if_neg (by simp [right_iff.2 h.log]), if_neg (by have := h.len; omega), waitsFrom_iff]
    intro k hk
    have hm := List.getElem_mem hk
    refine waitErr_iff.2 ⟨h.err _ hm, ?_, h.far _ hm, ?_, h.wait _ hm⟩
    · rw [Nat.zero_add]
      unfold badAhead
      match k with
      | 0 => rfl
      | k + 1 =>
        have := List.pairwise_iff_getElem.1 h.sort k (k + 1) (by omega) hk (by omega)
        rw [Nat.add_sub_cancel, List.getElem?_eq_getElem (by omega)]
        simp [this]
    · rw [Bool.eq_false_iff]
      intro k'
      obtain ⟨e, he, hid⟩ := any_isThe.1 k'
      exact h.new _ hm e he hid
theorem SiteR.beside {s : Site'} (h : SiteR s) : Beside s.log s.waits := ⟨h.log, h.err, h.new, h.sort.imp less_ne⟩
theorem thereS_iff {s : Site'} {e : Entry'} : thereS s e = true ↔ ∃ x, (x ∈ s.log ∨ x ∈ s.waits) ∧ x.id = e.id := by
  unfold thereS
  rw [Bool.or_eq_true, any_isThe, any_isThe]
  constructor
  · rintro (⟨x, h1, h2⟩ | ⟨x, h1, h2⟩)
    · exact ⟨x, .inl h1, h2⟩
    · exact ⟨x, .inr h1, h2⟩
  · rintro ⟨x, h1 | h1, h2⟩
    · exact .inl ⟨x, h1, h2⟩
    · exact .inr ⟨x, h1, h2⟩
theorem thereS_not {s : Site'} {e : Entry'} (h : thereS s e = false) {x : Entry'} (hx : x ∈ s.log ∨ x ∈ s.waits) : x.id ≠ e.id := fun k => by
  rw [thereS_iff.2 ⟨x, hx, k⟩] at h; cases h
theorem putW_cons (t : Entry') (u : List Entry') (x : Entry') : putW (t :: u) x = if t.id.less x.id = true then t :: putW u x else x :: t :: u := by
  unfold putW
  rw [waitAt_cons]
  split
  · rfl
  · rfl
theorem mem_putW {w : List Entry'} {e x : Entry'} : x ∈ putW w e ↔ x = e ∨ x ∈ w := mem_putAt
theorem putW_sorted (x : Entry') : ∀ {ts : List Entry'}, ts.Pairwise (fun a b => a.id.less b.id = true) → (∀ t ∈ ts, t.id ≠ x.id) → (putW ts x).Pairwise (fun a b => a.id.less b.id = true)
  | [], _, _ => by simp [putW, waitAt, putAt]
  | t :: u, h, hn => by
    rw [List.pairwise_cons] at h
    rw [putW_cons]
    split
    · rename_i hl
      rw [List.pairwise_cons]
      refine ⟨fun y hy => ?_, putW_sorted x h.2 fun t ht => hn t (by simp [ht])⟩
      rcases mem_putW.1 hy with rfl | hy
      · exact hl
      · exact h.1 y hy
    · rename_i hl
      have hxt : x.id.less t.id = true := by
        cases hh : x.id.less t.id
        · exact absurd (less_total (by simpa using hl) hh) (hn t (by simp))
        · rfl
      rw [List.pairwise_cons]
      refine ⟨fun y hy => ?_, List.pairwise_cons.2 h⟩
      rcases List.mem_cons.1 hy with rfl | hy
      · exact hxt
      · exact less_trans hxt (h.1 y hy)
theorem SiteR.put {s : Site'} (h : SiteR s) {e : Entry'} (he : e.err = 0) (ht : thereS s e = false) : Beside s.log (putW s.waits e) ∧ (putW s.waits e).Pairwise fun a b => a.id.less b.id = true := by
  have hs := putW_sorted e h.sort fun t hx => thereS_not ht (.inr hx)
  refine ⟨⟨h.log, fun x hx => ?_, fun x hx y hy => ?_, hs.imp less_ne⟩, hs⟩
  · rcases mem_putW.1 hx with rfl | hx
    · exact he
    · exact h.err x hx
  · rcases mem_putW.1 hx with rfl | hx
    · exact thereS_not ht (.inl hy)
    · exact h.new x hx y hy
/-- There are no more than twenty of the other region. -/
theorem far_len {r : Int} (hr : r = 0 ∨ r = 1) {w : List Entry'} (he : ∀ x ∈ w, x.err = 0) (hf : ∀ x ∈ w, x.id.r ≠ r) (hs : w.Pairwise fun a b => a.id ≠ b.id) : w.length ≤ 20 := by
  have hnd : (w.map (·.id)).Nodup := List.pairwise_map.2 hs
  have := nodup_len (b := (List.range 20).map fun (i : Nat) => (⟨1 - r, (i : Int) + 1⟩ : Id)) hnd fun x hx => by
    obtain ⟨e, hw, rfl⟩ := List.mem_map.1 hx
    have h1 := ok_of_err (he e hw)
    have h2 := hf e hw
    have h3 := r_of_ok h1
    have h4 := num_pos (he e hw)
    refine List.mem_map.2 ⟨(e.id.n - 1).toNat, List.mem_range.2 (by omega), ?_⟩
    have h5 : e.id = ⟨e.id.r, e.id.n⟩ := rfl
    have h6 : (((e.id.n - 1).toNat : Nat) : Int) + 1 = e.id.n := by omega
    have h7 : 1 - r = e.id.r := by omega
    simp only [h6, h7]
  simpa using this
theorem settle_right {r : Int} (hr : r = 0 ∨ r = 1) {l w : List Entry'} (h : Beside l w) (hf : ∀ x ∈ w, x.id.r ≠ r) (hs : w.Pairwise fun a b => a.id.less b.id = true) : SiteR ⟨r, (settle l w).1, (settle l w).2⟩ := by
  obtain ⟨ha, hn⟩ := settle_after h
  have hf' : ∀ x ∈ (settle l w).2, x.id.r ≠ r := fun x hx => hf x (ha.sub.subset hx)
  exact ⟨hr, ha.inv.log, far_len hr ha.inv.err hf' ha.inv.once, ha.inv.err, hf', ha.inv.new, hn, hs.sublist ha.sub⟩
theorem room_zero {s : Site'} (h : SiteR s) : roomErr (s.log, s.waits) = 0 := by
  unfold roomErr
  rw [if_neg]
  have := h.len
  have := h.log.len
  simp only [not_or]
  omega
/-- What comes in, where nothing is wrong. -/
theorem recv_there {s : Site'} {e : Entry'} (h : SiteR s) (he : e.err = 0) (ht : thereS s e = true) : recvErr s e = 0 ∧ recvAns s e = s := by
  have hE : recvErr s e = 0 := by unfold recvErr; rw [if_neg (by simp [siteErr_iff.2 h]), if_neg (by simp [he]), if_pos ht]
  exact ⟨hE, by unfold recvAns; rw [hE, if_neg (by decide), if_pos ht]⟩
theorem recv_comes {s : Site'} {e : Entry'} (h : SiteR s) (he : e.err = 0) (ht : thereS s e = false) (hf : e.id.r ≠ s.region) : recvErr s e = 0 ∧ recvAns s e = ⟨s.region, (settle s.log (putW s.waits e)).1, (settle s.log (putW s.waits e)).2⟩ ∧ SiteR (recvAns s e) := by
  obtain ⟨h1, h2⟩ := h.put he ht
  have hR := settle_right h.reg h1 (fun x hx => by
    rcases mem_putW.1 hx with rfl | hx
    · exact hf
    · exact h.far x hx) h2
  have hz : roomErr (settle s.log (putW s.waits e)) = 0 := room_zero hR
  have hE : recvErr s e = 0 := by unfold recvErr; rw [if_neg (by simp [siteErr_iff.2 h]), if_neg (by simp [he]), if_neg (by simp [ht]), if_neg hf, hz]
  have hA : recvAns s e = ⟨s.region, (settle s.log (putW s.waits e)).1, (settle s.log (putW s.waits e)).2⟩ := by unfold recvAns; rw [hE, if_neg (by decide), if_neg (by simp [ht])]
  exact ⟨hE, hA, by rw [hA]; exact hR⟩
theorem recvErr_zero {s : Site'} {e : Entry'} (h : recvErr s e = 0) : SiteR s ∧ e.err = 0 ∧ (thereS s e = true ∨ thereS s e = false ∧ e.id.r ≠ s.region) := by
  unfold recvErr at h
  split at h
  · rename_i h1; exact absurd h h1
  · rename_i h1
    split at h
    · rename_i h2; exact absurd h h2
    · rename_i h2
      refine ⟨siteErr_iff.1 (by simpa using h1), by simpa using h2, ?_⟩
      split at h
      · rename_i h3; exact .inl h3
      · rename_i h3
        split at h
        · cases h
        · rename_i h4; exact .inr ⟨by simpa using h3, h4⟩
theorem recv_right {s : Site'} {e : Entry'} (h : recvErr s e = 0) : SiteR (recvAns s e) := by
  obtain ⟨h1, h2, h3 | ⟨h3, h4⟩⟩ := recvErr_zero h
  · rw [(recv_there h1 h2 h3).2]; exact h1
  · exact (recv_comes h1 h2 h3 h4).2.2
theorem recv_ext {s : Site'} {e : Entry'} (h : recvErr s e = 0) : (∃ t, (recvAns s e).log = s.log ++ t) ∧ (recvAns s e).region = s.region := by
  obtain ⟨h1, h2, h3 | ⟨h3, h4⟩⟩ := recvErr_zero h
  · rw [(recv_there h1 h2 h3).2]; exact ⟨⟨[], by simp⟩, rfl⟩
  · rw [(recv_comes h1 h2 h3 h4).2.1]; exact ⟨(settle_after (h1.put h2 h3).1).1.ext, rfl⟩
theorem recv_in {s : Site'} {a : Entry'} (h : recvErr s a = 0) (e : Entry') : thereS (recvAns s a) e = true ↔ thereS s e = true ∨ a.id = e.id := by
  obtain ⟨h1, h2, h3 | ⟨h3, h4⟩⟩ := recvErr_zero h
  · rw [(recv_there h1 h2 h3).2]
    refine ⟨fun k => .inl k, fun k => k.elim id fun k => ?_⟩
    obtain ⟨x, hx, hxe⟩ := thereS_iff.1 h3
    exact thereS_iff.2 ⟨x, hx, hxe.trans k⟩
  · rw [(recv_comes h1 h2 h3 h4).2.1, thereS_iff, thereS_iff]
    have hb := (settle_after (h1.put h2 h3).1).1.both
    constructor
    · rintro ⟨x, hx, hxe⟩
      rcases (hb x).1 hx with hx | hx
      · exact .inl ⟨x, .inl hx, hxe⟩
      · rcases mem_putW.1 hx with rfl | hx
        · exact .inr hxe
        · exact .inl ⟨x, .inr hx, hxe⟩
    · rintro (⟨x, hx, hxe⟩ | hxe)
      · exact ⟨x, (hb x).2 (hx.imp id fun hx => mem_putW.2 (.inr hx)), hxe⟩
      · exact ⟨a, (hb a).2 (.inr (mem_putW.2 (.inl rfl))), hxe⟩
theorem Can.mono {l l' w w' : List Entry'} (hl : ∀ e ∈ l, e ∈ l') (hw : ∀ e ∈ w, e ∈ w') {x : Id} (h : Can l w x) : Can l' w' x := by
  induction h with
  | there he => exact .there (hl _ he)
  | goes he _ _ ih1 ih2 => exact .goes (hw _ he) ih1 ih2
theorem Can.two {l w W : List Entry'} {b : Entry'} (h : Beside l w) (hW : ∀ e, e ∈ W ↔ e = b ∨ e ∈ (settle l w).2) {x : Id} : Can (settle l w).1 W x ↔ Can l (b :: w) x := by
  obtain ⟨ha, _⟩ := settle_after h
  constructor
  · intro k
    induction k with
    | there he => exact (ha.can _ he).mono (fun _ h => h) fun e he => List.mem_cons_of_mem _ he
    | goes he _ _ ih1 ih2 =>
      refine .goes ?_ ih1 ih2
      rcases (hW _).1 he with rfl | he
      · exact List.mem_cons_self
      · exact List.mem_cons_of_mem _ (ha.sub.subset he)
  · intro k
    induction k with
    | there he =>
      obtain ⟨t, ht⟩ := ha.ext
      exact .there (by rw [ht]; exact List.mem_append_left _ he)
    | goes he _ _ ih1 ih2 =>
      rcases List.mem_cons.1 he with rfl | he
      · exact .goes ((hW _).2 (.inl rfl)) ih1 ih2
      · rcases (ha.both _).2 (.inr he) with he | he
        · exact .there he
        · exact .goes ((hW _).2 (.inr he)) ih1 ih2
theorem sortedE_ext : ∀ {a b : List Entry'}, a.Pairwise (fun x y => x.id.less y.id = true) → b.Pairwise (fun x y => x.id.less y.id = true) → (∀ x, x ∈ a ↔ x ∈ b) → a = b
  | [], [], _, _, _ => rfl
  | [], y :: b, _, _, h => by have := (h y).2 (by simp); simp at this
  | x :: a, [], _, _, h => by have := (h x).1 (by simp); simp at this
  | x :: a, y :: b, ha, hb, h => by
    rw [List.pairwise_cons] at ha hb
    have hxy : x = y := by
      rcases List.mem_cons.1 ((h x).1 (by simp)) with e | e
      · exact e
      · rcases List.mem_cons.1 ((h y).2 (by simp)) with e' | e'
        · exact e'.symm
        · have h1 := hb.1 x e
          have h2 := ha.1 y e'
          rw [less_asymm h1] at h2
          cases h2
    subst hxy
    congr 1
    refine sortedE_ext ha.2 hb.2 fun z => ⟨fun hz => ?_, fun hz => ?_⟩
    · rcases List.mem_cons.1 ((h z).1 (by simp [hz])) with e | e
      · subst e
        have := ha.1 z hz
        rw [less_irrefl] at this
        cases this
      · exact e
    · rcases List.mem_cons.1 ((h z).2 (by simp [hz])) with e | e
      · subst e
        have := hb.1 z hz
        rw [less_irrefl] at this
        cases this
      · exact e
theorem cnt_sub {p q : List Entry'} (hp : Right p) (hq : Right q) (h : ∀ e ∈ p, e ∈ q) (r : Int) : cnt r p ≤ cnt r q := by
  rcases Nat.eq_zero_or_pos (cnt r p) with h0 | h0
  · omega
  · obtain ⟨e, he, hid⟩ := hp.num_of r (k := cnt r p) h0 (Nat.le_refl _)
    have := hq.num_le (h e he)
    rw [hid] at this
    simp at this
    omega
/-- Two that come, one way or the other. -/
theorem recv_any {s : Site'} {a b : Entry'} (ha : recvErr s a = 0) (hb : recvErr s b = 0) (hab : a.id ≠ b.id) :
    recvErr (recvAns s a) b = 0 ∧ recvErr (recvAns s b) a = 0 ∧ (∀ r, cnt r (recvAns (recvAns s a) b).log = cnt r (recvAns (recvAns s b) a).log) ∧ (recvAns (recvAns s a) b).waits = (recvAns (recvAns s b) a).waits := by
  obtain ⟨h1, a1, ta⟩ := recvErr_zero ha
  obtain ⟨_, b1, tb⟩ := recvErr_zero hb
  have hx := recv_right ha
  have hy := recv_right hb
  rcases ta with ta | ⟨ta, fa⟩
  · have ea := (recv_there h1 a1 ta).2
    rw [ea]
    have := recv_there hy a1 ((recv_in hb a).2 (.inl ta))
    rw [this.2]
    exact ⟨hb, this.1, fun _ => rfl, rfl⟩
  · rcases tb with tb | ⟨tb, fb⟩
    · have eb := (recv_there h1 b1 tb).2
      rw [eb]
      have := recv_there hx b1 ((recv_in ha b).2 (.inl tb))
      rw [this.2]
      exact ⟨this.1, ha, fun _ => rfl, rfl⟩
    · have tb2 : thereS (recvAns s a) b = false := by
        rw [Bool.eq_false_iff]
        intro k
        rcases (recv_in ha b).1 k with k | k
        · rw [tb] at k; cases k
        · exact hab k
      have ta2 : thereS (recvAns s b) a = false := by
        rw [Bool.eq_false_iff]
        intro k
        rcases (recv_in hb a).1 k with k | k
        · rw [ta] at k; cases k
        · exact hab k.symm
      have fb2 : b.id.r ≠ (recvAns s a).region := by rw [(recv_ext ha).2]; exact fb
      have fa2 : a.id.r ≠ (recvAns s b).region := by rw [(recv_ext hb).2]; exact fa
      obtain ⟨p1, p2, p3⟩ := recv_comes hx b1 tb2 fb2
      obtain ⟨q1, q2, q3⟩ := recv_comes hy a1 ta2 fa2
      obtain ⟨_, x2, _⟩ := recv_comes h1 a1 ta fa
      obtain ⟨_, y2, _⟩ := recv_comes h1 b1 tb fb
      have Bp := (hx.put b1 tb2).1
      have Bq := (hy.put a1 ta2).1
      have Ba := (h1.put a1 ta).1
      have Bb := (h1.put b1 tb).1
      have memp : ∀ e, (e ∈ (recvAns (recvAns s a) b).log ∨ e ∈ (recvAns (recvAns s a) b).waits) ↔ (e ∈ s.log ∨ e ∈ s.waits ∨ e = a ∨ e = b) := fun e => by
        have k1 := (settle_after Bp).1.both e
        have k2 := (settle_after Ba).1.both e
        rw [p2]
        refine k1.trans ?_
        rw [mem_putW]
        rw [x2]
        constructor
        · rintro (h | h | h)
          · rcases k2.1 (.inl h) with h | h
            · exact .inl h
            · rcases mem_putW.1 h with h | h
              · exact .inr (.inr (.inl h))
              · exact .inr (.inl h)
          · exact .inr (.inr (.inr h))
          · rcases k2.1 (.inr h) with h | h
            · exact .inl h
            · rcases mem_putW.1 h with h | h
              · exact .inr (.inr (.inl h))
              · exact .inr (.inl h)
        · rintro (h | h | h | h)
          · exact (k2.2 (.inl h)).imp id .inr
          · exact (k2.2 (.inr (mem_putW.2 (.inr h)))).imp id .inr
          · exact (k2.2 (.inr (mem_putW.2 (.inl h)))).imp id .inr
          · exact .inr (.inl h)
      have memq : ∀ e, (e ∈ (recvAns (recvAns s b) a).log ∨ e ∈ (recvAns (recvAns s b) a).waits) ↔ (e ∈ s.log ∨ e ∈ s.waits ∨ e = a ∨ e = b) := fun e => by
        have k1 := (settle_after Bq).1.both e
        have k2 := (settle_after Bb).1.both e
        rw [q2]
        refine k1.trans ?_
        rw [mem_putW]
        rw [y2]
        constructor
        · rintro (h | h | h)
          · rcases k2.1 (.inl h) with h | h
            · exact .inl h
            · rcases mem_putW.1 h with h | h
              · exact .inr (.inr (.inr h))
              · exact .inr (.inl h)
          · exact .inr (.inr (.inl h))
          · rcases k2.1 (.inr h) with h | h
            · exact .inl h
            · rcases mem_putW.1 h with h | h
              · exact .inr (.inr (.inr h))
              · exact .inr (.inl h)
        · rintro (h | h | h | h)
          · exact (k2.2 (.inl h)).imp id .inr
          · exact (k2.2 (.inr (mem_putW.2 (.inr h)))).imp id .inr
          · exact .inr (.inl h)
          · exact (k2.2 (.inr (mem_putW.2 (.inl h)))).imp id .inr
      have canp : ∀ i, (∃ e ∈ (recvAns (recvAns s a) b).log, e.id = i) ↔ Can s.log (b :: a :: s.waits) i := fun i => by
        have k : (∃ e ∈ (recvAns (recvAns s a) b).log, e.id = i) ↔ Can (recvAns s a).log (putW (recvAns s a).waits b) i := by
          rw [p2]
          exact settle_can Bp
        rw [k, x2]
        refine (Can.two (b := b) Ba fun e => mem_putW).trans ⟨fun k => k.mono (fun _ h => h) fun e he => ?_, fun k => k.mono (fun _ h => h) fun e he => ?_⟩
        · simp only [List.mem_cons, mem_putW] at he ⊢; exact he
        · simp only [List.mem_cons, mem_putW] at he ⊢; exact he
      have canq : ∀ i, (∃ e ∈ (recvAns (recvAns s b) a).log, e.id = i) ↔ Can s.log (b :: a :: s.waits) i := fun i => by
        have k : (∃ e ∈ (recvAns (recvAns s b) a).log, e.id = i) ↔ Can (recvAns s b).log (putW (recvAns s b).waits a) i := by
          rw [q2]
          exact settle_can Bq
        rw [k, y2]
        refine (Can.two (b := a) Bb fun e => mem_putW).trans ⟨fun k => k.mono (fun _ h => h) fun e he => ?_, fun k => k.mono (fun _ h => h) fun e he => ?_⟩
        · simp only [List.mem_cons, mem_putW] at he ⊢
          rcases he with h | h | h
          · exact .inr (.inl h)
          · exact .inl h
          · exact .inr (.inr h)
        · simp only [List.mem_cons, mem_putW] at he ⊢
          rcases he with h | h | h
          · exact .inr (.inl h)
          · exact .inl h
          · exact .inr (.inr h)
      have pq : ∀ e ∈ (recvAns (recvAns s a) b).log, e ∈ (recvAns (recvAns s b) a).log := fun e he => by
        rcases (memq e).2 ((memp e).1 (.inl he)) with h | h
        · exact h
        · obtain ⟨f, hf, hfe⟩ := (canq e.id).2 ((canp e.id).1 ⟨e, he, rfl⟩)
          exact absurd hfe (q3.new e h f hf)
      have qp : ∀ e ∈ (recvAns (recvAns s b) a).log, e ∈ (recvAns (recvAns s a) b).log := fun e he => by
        rcases (memp e).2 ((memq e).1 (.inl he)) with h | h
        · exact h
        · obtain ⟨f, hf, hfe⟩ := (canp e.id).2 ((canq e.id).1 ⟨e, he, rfl⟩)
          exact absurd hfe (p3.new e h f hf)
      refine ⟨p1, q1, fun r => Nat.le_antisymm (cnt_sub p3.log q3.log pq r) (cnt_sub q3.log p3.log qp r), sortedE_ext p3.sort q3.sort fun e => ⟨fun he => ?_, fun he => ?_⟩⟩
      · rcases (memq e).2 ((memp e).1 (.inr he)) with h | h
        · exact absurd rfl (p3.new e he e (qp e h))
        · exact h
      · rcases (memp e).2 ((memq e).1 (.inr he)) with h | h
        · exact absurd rfl (q3.new e he e (pq e h))
        · exact h
/-- .. and the first one once more. -/
theorem recv_again {s : Site'} {a b : Entry'} (ha : recvErr s a = 0) (hb : recvErr (recvAns s a) b = 0) : recvErr (recvAns (recvAns s a) b) a = 0 ∧ recvAns (recvAns (recvAns s a) b) a = recvAns (recvAns s a) b :=
  recv_there (recv_right hb) (recvErr_zero ha).2.1 ((recv_in hb a).2 (.inl ((recv_in ha a).2 (.inr rfl))))
end Go.Proofs.YtlioojekjnigiaeGreat.AM
/- Sites: a site's own entry; Append. -/
namespace Go.Proofs.YtlioojekjnigiaeGreat.AM
set_option linter.unusedVariables false
set_option linter.unusedSimpArgs false
set_option maxHeartbeats 0 in
theorem write_ok (r : Int) (log ws : List Entry') (hr : Right log) (hwl : ws.length ≤ 500) (hk : ∀ e ∈ ws, e.links.length ≤ 1000) (c : Int) (t : ByteArray) : ACall Tryz.prog 40 [.ptr 0 0, dInt c, .dat (.str t)] [(0, .vars 84 3 [dInt r, .row 1, .row 2] true), (1, .rows 48 5 (log.map Entry'.enc) true), (2, .rows 48 5 (ws.map Entry'.enc) true)] 3 fun x H' n' =>
    (nextErr r log c t ≠ 0 ∧ x = .tup [zeroE.arg, dInt (nextErr r log c t)] ∧ H' = [(0, .vars 84 3 [dInt r, .row 1, .row 2] true), (1, .rows 48 5 (log.map Entry'.enc) true), (2, .rows 48 5 (ws.map Entry'.enc) true)] ∧ n' = 3)
    ∨ (nextErr r log c t = 0 ∧ x = .tup [(newE r log c t).arg, dInt (roomErr (settle (log ++ [newE r log c t]) ws))] ∧
        ((settle (log ++ [newE r log c t]) ws = (log ++ [newE r log c t], ws) ∧ H' = [(0, .vars 84 3 [dInt r, .row 3, .row 2] true), (1, .dead), (2, .rows 48 5 (ws.map Entry'.enc) true), (3, .rows 48 5 ((log ++ [newE r log c t]).map Entry'.enc) true)] ∧ n' = 4) ∨ (H' = [(0, .vars 84 3 [dInt r, .row 4, .row 5] true), (1, .dead), (2, .dead), (3, .dead), (4, .rows 48 5 ((settle (log ++ [newE r log c t]) ws).1.map Entry'.enc) true), (5, .rows 48 5 ((settle (log ++ [newE r log c t]) ws).2.map Entry'.enc) true)] ∧ n' = 6))) := by
  have hll := hr.len
  have hn := next_ok r log ws hr c t
  refine acall_intro tab_all tab_mixed Tryz.func40 (by kernel_rfl) Tryz.ntmps40 rfl ?_
  conv => whnf
  refine .eff [0, 1, 2] _ _ _ _ 0 hn rfl rfl rfl rfl rfl ?_
  conv => whnf
  repeat (first | (refine Conf.mk (by kernel_rfl) ?_; conv => whnf) | (refine SeqOk.go ?_; conv => whnf))
  refine ⟨fun h1 => ?_, fun h1 => ?_⟩
  · have h1 : nextErr r log c t ≠ 0 := by simpa using h1
    have hA : nextE r log c t = zeroE := by unfold nextE; rw [if_neg h1]
    conv => whnf
    repeat (first | (refine Conf.mk (by kernel_rfl) ?_; conv => whnf) | (refine SeqOk.go ?_; conv => whnf))
    exact .mk [] [0, 1, 2] (.tup [zeroE.arg, dInt (nextErr r log c t)]) [(0, .vars 84 3 [dInt r, .row 1, .row 2] true), (1, .rows 48 5 (log.map Entry'.enc) true), (2, .rows 48 5 (ws.map Entry'.enc) true)] rfl (.tups ⟨.aggs ⟨.same rfl, .same rfl, .same rfl, .same rfl, .data rfl, trivial⟩, .same rfl, trivial⟩) ⟨⟨rfl, rfl, rfl, .same rfl, rfl, .same rfl, rfl, .same rfl, rfl, trivial⟩, ⟨rfl, rfl, rfl, rfl⟩, ⟨rfl, rfl, rfl, rfl⟩, trivial⟩ rfl rfl (.inl ⟨h1, rfl, rfl, rfl⟩)
  · have h1 : nextErr r log c t = 0 := by simpa using h1
    have hA : nextE r log c t = newE r log c t := by unfold nextE; rw [if_pos h1]
    have hlk : (newE r log c t).links.length ≤ 1000 := by
      unfold nextErr at h1
      split at h1
      · cases h1
      · split at h1
        · cases h1
        · rename_i h2; simp only [not_or] at h2; show (headsOf c log).length ≤ 1000; omega
    rw [hA]
    conv => whnf
    repeat (first | (refine Conf.mk (by kernel_rfl) ?_; conv => whnf) | (refine SeqOk.go ?_; conv => whnf))
    refine ⟨by simp [Entry'.enc], by simp; omega, ?_⟩
    conv => whnf
    repeat (first | (refine Conf.mk (by kernel_rfl) ?_; conv => whnf) | (refine SeqOk.go ?_; conv => whnf))
    have hrow : (log ++ [newE r log c t]).map Entry'.enc = log.map Entry'.enc ++ [(newE r log c t).enc] := by rw [List.map_append]; rfl
    have hse := settle_ok r (log ++ [newE r log c t]) ws (by rw [List.length_append]; simp; omega) hk
    rw [hrow] at hse
    refine .some [0, 6, 2] _ _ _ rfl hse rfl rfl rfl rfl rfl ?_
    rintro x Hc' m' (⟨rfl, hst, rfl, hm'⟩ | ⟨rfl, rfl, hm'⟩)
    · obtain rfl : m' = 0 := by simp at hm'; omega
      have hro := checkRoom_ok r (log ++ [newE r log c t]) ws
      rw [hrow] at hro
      conv => whnf
      repeat (first | (refine Conf.mk (by kernel_rfl) ?_; conv => whnf) | (refine SeqOk.go ?_; conv => whnf))
      refine .data _ _ (copyEntry_ok (newE r log c t) hlk) rfl ?_
      conv => whnf
      repeat (first | (refine Conf.mk (by kernel_rfl) ?_; conv => whnf) | (refine SeqOk.go ?_; conv => whnf))
      refine .look _ _ hro rfl rfl ?_
      conv => whnf
      repeat (first | (refine Conf.mk (by kernel_rfl) ?_; conv => whnf) | (refine SeqOk.go ?_; conv => whnf))
      exact .mk [] [0, 1, 2, 6] (.tup [(newE r log c t).arg, dInt (roomErr (log ++ [newE r log c t], ws))]) [(0, .vars 84 3 [dInt r, .row 3, .row 2] true), (1, .dead), (2, .rows 48 5 (ws.map Entry'.enc) true), (3, .rows 48 5 ((log ++ [newE r log c t]).map Entry'.enc) true)] rfl (.same rfl) ⟨⟨rfl, rfl, rfl, .same rfl, rfl, .same rfl, rfl, .same rfl, rfl, trivial⟩, trivial, ⟨rfl, rfl, rfl, rfl⟩, ⟨rfl, rfl, rfl, hrow⟩, trivial⟩ rfl rfl (.inr ⟨h1, by rw [hst], .inl ⟨hst, rfl, rfl⟩⟩)
    · obtain rfl : m' = 2 := by simp at hm'; omega
      have hro := checkRoom_ok r (settle (log ++ [newE r log c t]) ws).1 (settle (log ++ [newE r log c t]) ws).2
      conv => whnf
      repeat (first | (refine Conf.mk (by kernel_rfl) ?_; conv => whnf) | (refine SeqOk.go ?_; conv => whnf))
      refine .data _ _ (copyEntry_ok (newE r log c t) hlk) rfl ?_
      conv => whnf
      repeat (first | (refine Conf.mk (by kernel_rfl) ?_; conv => whnf) | (refine SeqOk.go ?_; conv => whnf))
      refine .look _ _ hro rfl rfl ?_
      conv => whnf
      repeat (first | (refine Conf.mk (by kernel_rfl) ?_; conv => whnf) | (refine SeqOk.go ?_; conv => whnf))
      exact .mk [] [0, 1, 2, 6, 7, 8] (.tup [(newE r log c t).arg, dInt (roomErr (settle (log ++ [newE r log c t]) ws))]) [(0, .vars 84 3 [dInt r, .row 4, .row 5] true), (1, .dead), (2, .dead), (3, .dead), (4, .rows 48 5 ((settle (log ++ [newE r log c t]) ws).1.map Entry'.enc) true), (5, .rows 48 5 ((settle (log ++ [newE r log c t]) ws).2.map Entry'.enc) true)] rfl (.same rfl) ⟨⟨rfl, rfl, rfl, .same rfl, rfl, .same rfl, rfl, .same rfl, rfl, trivial⟩, trivial, trivial, trivial, ⟨rfl, rfl, rfl, rfl⟩, ⟨rfl, rfl, rfl, rfl⟩, trivial⟩ rfl rfl (.inr ⟨h1, rfl, .inr ⟨rfl, rfl⟩⟩)
/-- The site of a region with one more of its own. -/
def madeS (s : Site') (c : Int) (t : ByteArray) : List Entry' × List Entry' := settle (s.log ++ [newE s.region s.log c t]) s.waits
def appErr (s : Site') (c : Int) (t : ByteArray) : Int :=
  if siteErr s ≠ 0 then siteErr s else if nextErr s.region s.log c t ≠ 0 then nextErr s.region s.log c t else roomErr (madeS s c t)
def appAns (s : Site') (c : Int) (t : ByteArray) : Site' := if appErr s c t ≠ 0 then ⟨0, [], []⟩ else ⟨s.region, (madeS s c t).1, (madeS s c t).2⟩
def appE (s : Site') (c : Int) (t : ByteArray) : Entry' := if appErr s c t ≠ 0 then zeroE else newE s.region s.log c t
set_option maxHeartbeats 0 in
theorem Append_ok (s : Site') (hs : SiteOk s) (c : Int) (t : ByteArray) : PCall Tryz.prog 17 [s.arg, dInt c, .dat (.str t)] (.tup [(appAns s c t).arg, (appE s c t).arg, dInt (appErr s c t)]) := by
  refine pcall_intro tab_all tab_mixed Tryz.func17 (by kernel_rfl) Tryz.ntmps17 rfl ?_
  conv => whnf
  refine .data _ _ (siteCheck_ok s hs) rfl ?_
  conv => whnf
  repeat (first | (refine Conf.mk (by kernel_rfl) ?_; conv => whnf) | (refine SeqOk.go ?_; conv => whnf))
  refine ⟨fun h1 => ?_, fun h1 => ?_⟩
  · have h1 : siteErr s ≠ 0 := by simpa using h1
    have hE : appErr s c t = siteErr s := by unfold appErr; rw [if_pos h1]
    have hA : appAns s c t = ⟨0, [], []⟩ := by unfold appAns; rw [hE, if_pos h1]
    have hN : appE s c t = zeroE := by unfold appE; rw [hE, if_pos h1]
    conv => whnf
    repeat (first | (refine Conf.mk (by kernel_rfl) ?_; conv => whnf) | (refine SeqOk.go ?_; conv => whnf))
    exact Ret.to (by rw [hE, hA, hN]; rfl)
  · have h1 : siteErr s = 0 := by simpa using h1
    have hR := siteErr_iff.1 h1
    have hll := hR.log.len
    have hwl := hR.len
    have hk1 : ∀ x ∈ s.log, x.links.length ≤ 1000 := fun x hx => by have := hR.log.six hx; omega
    have hk2 : ∀ x ∈ s.waits, x.links.length ≤ 1000 := fun x hx => by have := (six_of (hR.err x hx)).2; omega
    conv => whnf
    repeat (first | (refine Conf.mk (by kernel_rfl) ?_; conv => whnf) | (refine SeqOk.go ?_; conv => whnf))
    refine .eff [] _ _ _ _ 2 (copyOf_ok s hk1 (by omega) hk2 (by omega)) rfl rfl rfl rfl rfl ?_
    conv => whnf
    repeat (first | (refine Conf.mk (by kernel_rfl) ?_; conv => whnf) | (refine SeqOk.go ?_; conv => whnf))
    refine .some [5, 3, 4] _ _ _ rfl (write_ok s.region s.log s.waits hR.log (by omega) hk2 c t) rfl rfl rfl rfl rfl ?_
    rintro x Hc' m' (⟨hn, rfl, rfl, hm'⟩ | ⟨hn, rfl, (⟨hst, rfl, hm'⟩ | ⟨rfl, hm'⟩)⟩)
    · obtain rfl : m' = 0 := by simp at hm'; omega
      have hE : appErr s c t = nextErr s.region s.log c t := by unfold appErr; rw [if_neg (by simp [h1]), if_pos hn]
      have hA : appAns s c t = ⟨0, [], []⟩ := by unfold appAns; rw [hE, if_pos hn]
      have hN : appE s c t = zeroE := by unfold appE; rw [hE, if_pos hn]
      conv => whnf
      repeat (first | (refine Conf.mk (by kernel_rfl) ?_; conv => whnf) | (refine SeqOk.go ?_; conv => whnf))
      refine BoolCase.yes (by simpa using hn) ?_
      conv => whnf
      repeat (first | (refine Conf.mk (by kernel_rfl) ?_; conv => whnf) | (refine SeqOk.go ?_; conv => whnf))
      exact Ret.to (by rw [hE, hA, hN]; rfl)
    · obtain rfl : m' = 1 := by simp at hm'; omega
      have hE : appErr s c t = roomErr (madeS s c t) := by unfold appErr; rw [if_neg (by simp [h1]), if_neg (by simp [hn])]
      conv => whnf
      repeat (first | (refine Conf.mk (by kernel_rfl) ?_; conv => whnf) | (refine SeqOk.go ?_; conv => whnf))
      refine ⟨fun h5 => ?_, fun h5 => ?_⟩
      · have h5 : (roomErr (madeS s c t) != 0) = true := h5
        have h5 : roomErr (madeS s c t) ≠ 0 := by simpa using h5
        have hA : appAns s c t = ⟨0, [], []⟩ := by unfold appAns; rw [hE, if_pos h5]
        have hN : appE s c t = zeroE := by unfold appE; rw [hE, if_pos h5]
        conv => whnf
        repeat (first | (refine Conf.mk (by kernel_rfl) ?_; conv => whnf) | (refine SeqOk.go ?_; conv => whnf))
        exact Ret.to (by rw [hE, hA, hN]; rfl)
      · have h5 : (roomErr (madeS s c t) != 0) = false := h5
        have h5 : roomErr (madeS s c t) = 0 := by simpa using h5
        have hN : appE s c t = newE s.region s.log c t := by unfold appE; rw [hE, if_neg (by simp [h5])]
        have hA : appAns s c t = ⟨s.region, (madeS s c t).1, (madeS s c t).2⟩ := by unfold appAns; rw [hE, if_neg (by simp [h5])]
        conv => whnf
        repeat (first | (refine Conf.mk (by kernel_rfl) ?_; conv => whnf) | (refine SeqOk.go ?_; conv => whnf))
        exact Ret.to (by rw [hE, hA, hN, h5]; first | rfl | (unfold madeS at *; rw [hst]; rfl))
    · obtain rfl : m' = 3 := by simp at hm'; omega
      have hE : appErr s c t = roomErr (madeS s c t) := by unfold appErr; rw [if_neg (by simp [h1]), if_neg (by simp [hn])]
      conv => whnf
      repeat (first | (refine Conf.mk (by kernel_rfl) ?_; conv => whnf) | (refine SeqOk.go ?_; conv => whnf))
      refine ⟨fun h5 => ?_, fun h5 => ?_⟩
      · have h5 : (roomErr (madeS s c t) != 0) = true := h5
        have h5 : roomErr (madeS s c t) ≠ 0 := by simpa using h5
        have hA : appAns s c t = ⟨0, [], []⟩ := by unfold appAns; rw [hE, if_pos h5]
        have hN : appE s c t = zeroE := by unfold appE; rw [hE, if_pos h5]
        conv => whnf
        repeat (first | (refine Conf.mk (by kernel_rfl) ?_; conv => whnf) | (refine SeqOk.go ?_; conv => whnf))
        exact Ret.to (by rw [hE, hA, hN]; rfl)
      · have h5 : (roomErr (madeS s c t) != 0) = false := h5
        have h5 : roomErr (madeS s c t) = 0 := by simpa using h5
        have hN : appE s c t = newE s.region s.log c t := by unfold appE; rw [hE, if_neg (by simp [h5])]
        have hA : appAns s c t = ⟨s.region, (madeS s c t).1, (madeS s c t).2⟩ := by unfold appAns; rw [hE, if_neg (by simp [h5])]
        conv => whnf
        repeat (first | (refine Conf.mk (by kernel_rfl) ?_; conv => whnf) | (refine SeqOk.go ?_; conv => whnf))
        exact Ret.to (by rw [hE, hA, hN, h5]; first | rfl | (unfold madeS at *; rw [hst]; rfl))
end Go.Proofs.YtlioojekjnigiaeGreat.AM
/- Logs: heads, and what is in the past of them. -/
namespace Go.Proofs.YtlioojekjnigiaeGreat.AM
set_option linter.unusedVariables false
set_option linter.unusedSimpArgs false

theorem mem_headsOf {l : List Entry'} (hr : Right l) {c : Int} (hc : 1 ≤ c ∧ c ≤ 7) {x : Id} : x ∈ headsOf c l ↔ ∃ e ∈ l, e.id = x ∧ meets e.colors c = true ∧ ∀ f ∈ l, meets f.colors c = true → ¬ Anc l f.id x := by
  unfold headsOf
  rw [mem_sortIds, mem_headIds _ hr]
  constructor
  · rintro ⟨e, he, h1, h2, h3⟩
    exact ⟨e, he, h1, by rw [← meets_bothOf (hr.colors he) hc]; exact h2, fun f hf hm => h3 f hf (by rw [meets_bothOf (hr.colors hf) hc]; exact hm)⟩
  · rintro ⟨e, he, h1, h2, h3⟩
    exact ⟨e, he, h1, by rw [meets_bothOf (hr.colors he) hc]; exact h2, fun f hf hm => h3 f hf (by rw [← meets_bothOf (hr.colors hf) hc]; exact hm)⟩
/-- All of some colors is a head, or in the past of one. -/
theorem heads_cover {l : List Entry'} (hr : Right l) {c : Int} (hc : 1 ≤ c ∧ c ≤ 7) {e : Entry'} (he : e ∈ l) (hm : meets e.colors c = true) : e.id ∈ headsOf c l ∨ ∃ x ∈ headsOf c l, Anc l x e.id := by
  obtain ⟨i, hi, rfl⟩ := List.getElem_of_mem he
  have key : ∀ n i (hi : i < l.length), l.length - i = n → meets l[i].colors c = true → l[i].id ∈ headsOf c l ∨ ∃ x ∈ headsOf c l, Anc l x l[i].id := by
    intro n
    induction n using Nat.strongRecOn with
    | _ n ih =>
      intro i hi hn hm
      by_cases h : l[i].id ∈ headsOf c l
      · exact .inl h
      · refine .inr ?_
        have : ∃ f ∈ l, meets f.colors c = true ∧ Anc l f.id l[i].id := by
          refine Classical.byContradiction fun hh => h ((mem_headsOf hr hc).2 ⟨l[i], List.getElem_mem hi, rfl, hm, fun f hf hfm ha => hh ⟨f, hf, hfm, ha⟩⟩)
        obtain ⟨f, hf, hfm, ha⟩ := this
        obtain ⟨j, hj, rfl⟩ := List.getElem_of_mem hf
        obtain ⟨k, hk, hkj, hke, _⟩ := ha.ahead hr j hj rfl
        have hki := hr.inj hk hi hke
        subst hki
        rcases ih (l.length - j) (by omega) j hj rfl hfm with h2 | ⟨x, hx, hxa⟩
        · exact ⟨_, h2, ha⟩
        · exact ⟨x, hx, hxa.trans ha⟩
  exact key _ i hi rfl hm
/-- Places in the past of some. -/
def underB (l : List Entry') (h : List Id) : List Bool := l.map fun e => h.any fun x => hasId (pastOfId l x) e.id
/-- .. of one more, the first places already. -/
def underTo (l : List Entry') (h : List Id) (x : Id) (k : Nat) : List Bool := (l.take k).map (fun e => (h ++ [x]).any fun x => hasId (pastOfId l x) e.id) ++ (l.drop k).map fun e => h.any fun x => hasId (pastOfId l x) e.id
theorem underB_nil (l : List Entry') : underB l [] = List.replicate l.length false := by
  unfold underB
  rw [show (fun e : Entry' => ([] : List Id).any fun x => hasId (pastOfId l x) e.id) = fun _ => false from rfl, List.map_const']
theorem underTo_zero (l : List Entry') (h : List Id) (x : Id) : underTo l h x 0 = underB l h := by simp [underTo, underB]
theorem underTo_all (l : List Entry') (h : List Id) (x : Id) : underTo l h x l.length = underB l (h ++ [x]) := by simp [underTo, underB]
theorem underTo_length (l : List Entry') (h : List Id) (x : Id) (k : Nat) (hk : k ≤ l.length) : (underTo l h x k).length = l.length := by simp [underTo]; omega
theorem underTo_snoc {l : List Entry'} {h : List Id} {x : Id} {k : Nat} (hk : k < l.length) : underTo l h x (k + 1) = (underTo l h x k).set k ((h.any fun x => hasId (pastOfId l x) l[k].id) || hasId (pastOfId l x) l[k].id) := by
  unfold underTo
  rw [List.drop_eq_getElem_cons hk, List.map_cons, set_mid (by simp; omega), take_snoc hk, List.map_append, List.append_assoc]
  congr 1
  simp
theorem underTo_get {l : List Entry'} {h : List Id} {x : Id} {k : Nat} (hk : k < l.length) : (underTo l h x k)[k]? = some (h.any fun x => hasId (pastOfId l x) l[k].id) := by
  unfold underTo
  rw [List.getElem?_append_right (by simp; omega)]
  simp only [List.length_map, List.length_take]
  rw [show k - min k l.length = 0 by omega, List.drop_eq_getElem_cons hk]
  rfl
end Go.Proofs.YtlioojekjnigiaeGreat.AM
/- Plain: what a site writes of its own stands right. -/
namespace Go.Proofs.YtlioojekjnigiaeGreat.AM
set_option linter.unusedVariables false
set_option linter.unusedSimpArgs false

theorem linksErr_zero (own : Id) : ∀ (l : List Id) (p : Option Id), (∀ x ∈ l, x.ok = true) → (∀ x ∈ l, ¬ (x.r = own.r ∧ own.n ≤ x.n)) → l.Pairwise (fun a b => a.less b = true) → (∀ y, p = some y → ∀ x ∈ l, y.less x = true) → linksErr own p l = 0
  | [], _, _, _, _, _ => rfl
  | x :: t, p, h1, h2, h3, h4 => by
    rw [List.pairwise_cons] at h3
    unfold linksErr
    rw [if_neg (by simp [h1 x (by simp)]), if_neg ?_, if_neg (h2 x (by simp))]
    · exact linksErr_zero own t (some x) (fun y hy => h1 y (by simp [hy])) (fun y hy => h2 y (by simp [hy])) h3.2 fun y e z hz => by cases e; exact h3.1 z hz
    · cases p with
      | none => simp
      | some y => simp [h4 y rfl x (by simp)]
theorem nextErr_zero {r : Int} {l : List Entry'} {c : Int} {t : ByteArray} (h : nextErr r l c t = 0) : (1 ≤ c ∧ c ≤ 7) ∧ t.size ≤ 12 ∧ cnt r l + 1 ≤ 20 ∧ (headsOf c l).length ≤ 6 := by
  unfold nextErr at h
  split at h
  · cases h
  · rename_i h1
    split at h
    · cases h
    · rename_i h2
      simp only [not_or] at h1 h2
      omega
theorem heads_sorted {l : List Entry'} (hr : Right l) (c : Int) : (headsOf c l).Pairwise fun a b => a.less b = true := sortIds_sorted (nodup_headIds _ hr)
theorem newE_behind {r : Int} {l : List Entry'} (hr : Right l) (hreg : r = 0 ∨ r = 1) {c : Int} {t : ByteArray} (h : nextErr r l c t = 0) : Behind l (newE r l c t) := by
  obtain ⟨hc, ht, hn, hk⟩ := nextErr_zero h
  have hlast : ∀ e ∈ l, e.id.r = r → e.id.n ≤ (cnt r l : Int) := fun e he hx => by
    have := (hr.num_le he).2
    rw [hx] at this
    exact this
  refine ⟨?_, fun e he hx => ?_, rfl, fun y hy => ?_⟩
  · unfold Entry'.err newE
    have hok : (⟨r, (cnt r l : Int) + 1⟩ : Id).ok = true := by
      simp [Id.ok]
      omega
    simp only
    rw [if_neg (by rw [hok]; simp; omega), if_neg (by simp only [not_or]; omega)]
    refine linksErr_zero _ _ _ (fun x hx => ?_) (fun x hx hh => ?_) (heads_sorted hr c) fun y e => by cases e
    · obtain ⟨e, he, rfl, _⟩ := (mem_headsOf hr hc).1 hx
      exact hr.ok he
    · obtain ⟨e, he, rfl, _⟩ := (mem_headsOf hr hc).1 hx
      have := hlast e he hh.1
      have := hh.2
      simp only at this
      omega
  · have h1 : e.id.r = r := by rw [hx]; rfl
    have h2 : e.id.n = (cnt r l : Int) + 1 := by rw [hx]; rfl
    have := hlast e he h1
    omega
  · obtain ⟨e, he, hx, _⟩ := (mem_headsOf hr hc).1 hy
    exact ⟨e, he, hx⟩
theorem app_beside {s : Site'} (h : SiteR s) {c : Int} {t : ByteArray} (hn : nextErr s.region s.log c t = 0) : Beside (s.log ++ [newE s.region s.log c t]) s.waits := by
  refine ⟨h.log.snoc (newE_behind h.log h.reg hn), h.err, fun x hx e he => ?_, h.sort.imp less_ne⟩
  rcases List.mem_append.1 he with he | he
  · exact h.new x hx e he
  · have : e = newE s.region s.log c t := by simpa using he
    intro k
    rw [this] at k
    exact h.far x hx (by rw [← k]; rfl)
theorem app_comes {s : Site'} (h : SiteR s) {c : Int} {t : ByteArray} (hn : nextErr s.region s.log c t = 0) : appErr s c t = 0 ∧ appAns s c t = ⟨s.region, (madeS s c t).1, (madeS s c t).2⟩ ∧ SiteR (appAns s c t) ∧ appE s c t = newE s.region s.log c t := by
  have hR : SiteR ⟨s.region, (madeS s c t).1, (madeS s c t).2⟩ := settle_right h.reg (app_beside h hn) h.far h.sort
  have hz : roomErr (madeS s c t) = 0 := room_zero hR
  have hE : appErr s c t = 0 := by unfold appErr; rw [if_neg (by simp [siteErr_iff.2 h]), if_neg (by simp [hn]), hz]
  have hA : appAns s c t = ⟨s.region, (madeS s c t).1, (madeS s c t).2⟩ := by unfold appAns; rw [hE, if_neg (by decide)]
  exact ⟨hE, hA, by rw [hA]; exact hR, by unfold appE; rw [hE, if_neg (by decide)]⟩
theorem appErr_zero {s : Site'} {c : Int} {t : ByteArray} (h : appErr s c t = 0) : SiteR s ∧ nextErr s.region s.log c t = 0 := by
  unfold appErr at h
  split at h
  · rename_i h1; exact absurd h h1
  · rename_i h1
    split at h
    · rename_i h2; exact absurd h h2
    · rename_i h2; exact ⟨siteErr_iff.1 (by simpa using h1), by simpa using h2⟩
/-- Of a site of which Check has nothing to say. -/
theorem appErr_next {s : Site'} (h : SiteR s) (c : Int) (t : ByteArray) : appErr s c t = nextErr s.region s.log c t := by
  by_cases hn : nextErr s.region s.log c t = 0
  · rw [(app_comes h hn).1, hn]
  · unfold appErr; rw [if_neg (by simp [siteErr_iff.2 h]), if_pos hn]
theorem app_right {s : Site'} {c : Int} {t : ByteArray} (h : appErr s c t = 0) : SiteR (appAns s c t) := by
  obtain ⟨h1, h2⟩ := appErr_zero h
  exact (app_comes h1 h2).2.2.1
theorem app_ext {s : Site'} {c : Int} {t : ByteArray} (h : appErr s c t = 0) : (∃ u, (appAns s c t).log = s.log ++ newE s.region s.log c t :: u) ∧ (appAns s c t).region = s.region ∧ (s.waits = [] → (appAns s c t).log = s.log ++ [newE s.region s.log c t]) := by
  obtain ⟨h1, h2⟩ := appErr_zero h
  rw [(app_comes h1 h2).2.1]
  obtain ⟨u, hu⟩ := (settle_after (app_beside h1 h2)).1.ext
  refine ⟨⟨u, by show (madeS s c t).1 = _; unfold madeS; rw [hu, List.append_assoc]; rfl⟩, rfl, fun hw => ?_⟩
  show (madeS s c t).1 = _
  unfold madeS
  rw [settle_none (by rw [hw]; rfl)]
/-- It links to all that has its colors, or to what links to that. -/
theorem app_links {s : Site'} {c : Int} {t : ByteArray} (h : appErr s c t = 0) {e : Entry'} (he : e ∈ s.log) (hm : meets e.colors c = true) : Anc (appAns s c t).log (newE s.region s.log c t).id e.id := by
  obtain ⟨h1, h2⟩ := appErr_zero h
  obtain ⟨hc, _⟩ := nextErr_zero h2
  obtain ⟨⟨u, hu⟩, _⟩ := app_ext h
  have hin : newE s.region s.log c t ∈ (appAns s c t).log := by rw [hu]; simp
  have hsub : ∀ e ∈ s.log, e ∈ (appAns s c t).log := fun e he => by rw [hu]; simp [he]
  rcases heads_cover h1.log hc he hm with k | ⟨x, hx, k⟩
  · exact .link hin k
  · exact .step hin hx (k.mono hsub)
/-- What is in the past of one of a beginning is so in that beginning. -/
theorem Anc.back {l u : List Entry'} (hr : Right (l ++ u)) {x y : Id} (hx : ∃ e ∈ l, e.id = x) (h : Anc (l ++ u) x y) : Anc l x y := by
  obtain ⟨e, he, rfl⟩ := hx
  obtain ⟨i, hi, rfl⟩ := List.getElem_of_mem he
  obtain ⟨j, hj, _, _, h5⟩ := h.ahead hr i (by rw [List.length_append]; omega) (by rw [List.getElem_append_left hi])
  refine h5.mono fun e he => ?_
  rw [List.take_append_of_le_length (by omega)] at he
  exact List.mem_of_mem_take he
end Go.Proofs.YtlioojekjnigiaeGreat.AM
/- Maps: who knows all. -/
namespace Go.Proofs.YtlioojekjnigiaeGreat.AM.Fo
set_option linter.unusedVariables false
set_option linter.unusedSimpArgs false

theorem meets_self {c : Int} (hc : 1 ≤ c ∧ c ≤ 7) : meets c c = true := by
  have key : ∀ m < 8, 1 ≤ m → meets (m : Nat) (m : Nat) = true := by decide
  have := key c.toNat (by omega) (by omega)
  rwa [Int.toNat_of_nonneg (by omega)] at this
/-- An entry behind a log that knows all of some colors there. -/
structure Knows (l : List Entry') (e : Entry') (c : Int) : Prop where
  right : Right (l ++ [e])
  col : 1 ≤ c ∧ c ≤ 7
  own : e.colors = c
  all : ∀ x ∈ l, meets x.colors c = true → Anc (l ++ [e]) e.id x.id
theorem Knows.last {l : List Entry'} {e : Entry'} {c : Int} (h : Knows l e c) {x : Id} : ¬ Anc (l ++ [e]) x e.id := fun ha => by
  obtain ⟨f, hf, hx⟩ : ∃ f ∈ l ++ [e], f.id = x := by
    cases ha with
    | link h1 _ => exact ⟨_, h1, rfl⟩
    | step h1 _ _ => exact ⟨_, h1, rfl⟩
  obtain ⟨n, hn, rfl⟩ := List.mem_iff_getElem.1 hf
  obtain ⟨j, hj, hjn, hid, _⟩ := ha.ahead h.right n hn hx
  have hlast : (l ++ [e])[l.length]'(by simp) = e := by simp
  have := h.right.inj hj (j := l.length) (by simp) (by rw [hid, hlast])
  simp at hn
  omega
theorem Knows.hid {l : List Entry'} {e : Entry'} {c : Int} (h : Knows l e c) (hk : opKind e.text ≠ 0) {i : Nat} (hi : i < l.length) (hm : meets l[i].colors c = true) : hidTo (l ++ [e]) c (opKey e.text) i (l ++ [e]).length = true := by
  cases hh : hidTo (l ++ [e]) c (opKey e.text) i (l ++ [e]).length
  · have hn : l.length < (l ++ [e]).length := by simp
    have hlast : (l ++ [e])[l.length]'hn = e := by simp
    have hi' : i < (l ++ [e]).length := by simp; omega
    have hli : (l ++ [e])[i]'hi' = l[i] := by rw [List.getElem_append_left hi]
    refine absurd ?_ (hidTo_iff.1 hh l.length hn)
    rw [hlast, h.own]
    refine ⟨hk, rfl, meets_self h.col, (pastBs_iff h.right hn hi').2 ?_⟩
    rw [hlast, hli]
    exact h.all _ (List.getElem_mem hi) hm
  · rfl
theorem Knows.open {l : List Entry'} {e : Entry'} {c : Int} (h : Knows l e c) (k : ByteArray) : hidTo (l ++ [e]) c k l.length (l ++ [e]).length = false := by
  rw [hidTo_iff]
  intro n hn ⟨_, _, _, h4⟩
  have hl : l.length < (l ++ [e]).length := by simp
  have hlast : (l ++ [e])[l.length]'hl = e := by simp
  have := (pastBs_iff h.right hn hl).1 h4
  rw [hlast] at this
  exact h.last this
theorem Knows.at {l : List Entry'} {e : Entry'} {c : Int} (h : Knows l e c) {k v : ByteArray} {j : Nat} (hj : j < (l ++ [e]).length) (hv : valAt (l ++ [e]) c k j = some v) : (∃ hi : j < l.length, opKind l[j].text = 1 ∧ opKey l[j].text = k ∧ meets l[j].colors c = true ∧ hidTo (l ++ [e]) c k j (l ++ [e]).length = false ∧ opVal l[j].text = v) ∨ (j = l.length ∧ opKind e.text = 1 ∧ opKey e.text = k ∧ opVal e.text = v) := by
  obtain ⟨_, a1, a2, a3, a4, a5⟩ := valAt_some.1 hv
  by_cases hi : j < l.length
  · rw [List.getElem_append_left hi] at a1 a2 a3 a5
    exact .inl ⟨hi, a1, a2, a3, a4, a5⟩
  · have hje : j = l.length := by simp at hj; omega
    subst hje
    have hlast : (l ++ [e])[l.length]'hj = e := by simp
    rw [hlast] at a1 a2 a5
    exact .inr ⟨rfl, a1, a2, a5⟩
theorem vals_put {l : List Entry'} {e : Entry'} {c : Int} (h : Knows l e c) (hk : opKind e.text = 1) : valsOf (l ++ [e]) c (opKey e.text) = [opVal e.text] := by
  refine up_ext (valsTo_up _ _ _ _) (by simp) fun x => ?_
  unfold valsOf
  rw [mem_valsTo]
  constructor
  · rintro ⟨j, hj, hv⟩
    rcases h.at hj hv with ⟨hi, a1, a2, a3, a4, a5⟩ | ⟨_, _, _, a⟩
    · rw [h.hid (by rw [hk]; decide) hi a3] at a4; cases a4
    · simp [a]
  · intro hx
    obtain rfl : x = opVal e.text := by simpa using hx
    have hl : l.length < (l ++ [e]).length := by simp
    have hlast : (l ++ [e])[l.length]'hl = e := by simp
    refine ⟨l.length, hl, valAt_some.2 ⟨hl, ?_⟩⟩
    rw [hlast, h.own]
    exact ⟨hk, rfl, meets_self h.col, h.open _, rfl⟩
theorem vals_drop {l : List Entry'} {e : Entry'} {c : Int} (h : Knows l e c) (hk : opKind e.text = 2) : valsOf (l ++ [e]) c (opKey e.text) = [] := by
  refine up_ext (valsTo_up _ _ _ _) (by simp) fun x => ?_
  unfold valsOf
  rw [mem_valsTo]
  constructor
  · rintro ⟨j, hj, hv⟩
    rcases h.at hj hv with ⟨hi, a1, a2, a3, a4, a5⟩ | ⟨_, a, _⟩
    · rw [h.hid (by rw [hk]; decide) hi a3] at a4; cases a4
    · rw [hk] at a; cases a
  · intro hx; simp at hx
theorem Knows.same {l : List Entry'} {e : Entry'} {c : Int} (h : Knows l e c) {k : ByteArray} (hk : opKey e.text ≠ k) {i : Nat} (hi : i < l.length) : hidTo (l ++ [e]) c k i (l ++ [e]).length = false ↔ hidTo l c k i l.length = false := by
  have hr := h.right.of_append
  have hi' : i < (l ++ [e]).length := by simp; omega
  rw [hidTo_iff, hidTo_iff]
  constructor
  · intro hh n hn ⟨a1, a2, a3, a4⟩
    have hn' : n < (l ++ [e]).length := by simp; omega
    refine hh n hn' ?_
    have e1 : (l ++ [e])[n]'hn' = l[n] := List.getElem_append_left hn
    have e2 : (l ++ [e])[i]'hi' = l[i] := List.getElem_append_left hi
    rw [e1]
    refine ⟨a1, a2, a3, (pastBs_iff h.right hn' hi').2 ?_⟩
    rw [e1, e2]
    exact ((pastBs_iff hr hn hi).1 a4).mono fun x hx => List.mem_append_left _ hx
  · intro hh n hn' ⟨a1, a2, a3, a4⟩
    by_cases hn : n < l.length
    · have e1 : (l ++ [e])[n]'hn' = l[n] := List.getElem_append_left hn
      have e2 : (l ++ [e])[i]'hi' = l[i] := List.getElem_append_left hi
      have a4 := (pastBs_iff h.right hn' hi').1 a4
      rw [e1] at a1 a2 a3 a4
      rw [e2] at a4
      exact hh n hn ⟨a1, a2, a3, (pastBs_iff hr hn hi).2 (Anc.back h.right ⟨l[n], List.getElem_mem hn, rfl⟩ a4)⟩
    · have hne : n = l.length := by simp at hn'; omega
      subst hne
      have hlast : (l ++ [e])[l.length]'hn' = e := by simp
      rw [hlast] at a2
      exact hk a2
theorem vals_other {l : List Entry'} {e : Entry'} {c : Int} (h : Knows l e c) {k : ByteArray} (hk : opKey e.text ≠ k) : valsOf (l ++ [e]) c k = valsOf l c k := by
  refine up_ext (valsTo_up _ _ _ _) (valsTo_up _ _ _ _) fun x => ?_
  unfold valsOf
  rw [mem_valsTo, mem_valsTo]
  constructor
  · rintro ⟨j, hj, hv⟩
    rcases h.at hj hv with ⟨hi, a1, a2, a3, a4, a5⟩ | ⟨_, _, a, _⟩
    · exact ⟨j, hi, valAt_some.2 ⟨hi, a1, a2, a3, (h.same hk hi).1 a4, a5⟩⟩
    · exact absurd a hk
  · rintro ⟨j, hj, hv⟩
    obtain ⟨hi, a1, a2, a3, a4, a5⟩ := valAt_some.1 hv
    have hi' : j < (l ++ [e]).length := by simp; omega
    refine ⟨j, hi', valAt_some.2 ⟨hi', ?_⟩⟩
    have e1 : (l ++ [e])[j]'hi' = l[j] := List.getElem_append_left hi
    rw [e1]
    exact ⟨a1, a2, a3, (h.same hk hi).2 a4, a5⟩
end Go.Proofs.YtlioojekjnigiaeGreat.AM.Fo
/- Texts that say an op. -/
namespace Go.Proofs.YtlioojekjnigiaeGreat.AM.Fo
set_option linter.unusedVariables false
set_option linter.unusedSimpArgs false

def putT (k v : ByteArray) : ByteArray := putW ++ k ++ blank ++ v
def dropT (k : ByteArray) : ByteArray := dropW ++ k
theorem bytes_app (a b : ByteArray) : (a ++ b).data.toList = a.data.toList ++ b.data.toList := by
  rw [ByteArray.data_append, Array.toList_append]
theorem bytes_eq {a b : ByteArray} (h : a.data.toList = b.data.toList) : a = b := ByteArray.ext (Array.toList_inj.1 h)
theorem bytes_len (a : ByteArray) : a.data.toList.length = a.size := by simp
theorem putT_bytes (k v : ByteArray) : (putT k v).data.toList = putW.data.toList ++ (k.data.toList ++ (32 :: v.data.toList)) := by
  unfold putT
  rw [bytes_app, bytes_app, bytes_app, List.append_assoc, List.append_assoc]
  rfl
theorem putT_size (k v : ByteArray) : (putT k v).size = 5 + k.size + v.size := by
  rw [← bytes_len, putT_bytes, List.length_append, List.length_append, List.length_cons, bytes_len, bytes_len, bytes_len]
  have : putW.size = 4 := rfl
  omega
theorem dropT_bytes (k : ByteArray) : (dropT k).data.toList = dropW.data.toList ++ k.data.toList := bytes_app _ _
theorem dropT_size (k : ByteArray) : (dropT k).size = 5 + k.size := by
  rw [← bytes_len, dropT_bytes, List.length_append, bytes_len, bytes_len]
  have : dropW.size = 5 := rfl
  omega
theorem putT_op {k v : ByteArray} (hk : isW k = true) (hv : isW v = true) : opKind (putT k v) = 1 ∧ opKey (putT k v) = k ∧ opVal (putT k v) = v := by
  have hb := putT_bytes k v
  have hsz := putT_size k v
  have hkl := bytes_len k
  have hvl := bytes_len v
  have hp4 : putW.data.toList.length = 4 := rfl
  have hks := (isW_size hk).1
  have hpre : hasPre (putT k v) putW = true := by
    unfold hasPre
    rw [putW_size, decide_eq_true (by omega), Bool.true_and]
    refine decide_eq_true (bytes_eq ?_)
    rw [bytes_cut, hb, List.drop_zero, Nat.sub_zero, ← hp4, List.take_left]
  have hi : (putT k v).data.toList[4 + k.size]? = some 32 := by
    rw [hb, List.getElem?_append_right (by omega), List.getElem?_append_right (by omega)]
    rw [show 4 + k.size - putW.data.toList.length - k.data.toList.length = 0 by omega]
    rfl
  have e1 : (putT k v).extract 4 (4 + k.size) = k := by
    refine bytes_eq ?_
    rw [bytes_cut, hb, ← hp4, List.drop_left, show putW.data.toList.length + k.size - putW.data.toList.length = k.data.toList.length by omega, List.take_left]
  have e2 : (putT k v).extract (4 + k.size + 1) (putT k v).size = v := by
    refine bytes_eq ?_
    have hd : (putT k v).data.toList = (putW.data.toList ++ k.data.toList ++ [32]) ++ v.data.toList := by rw [hb]; simp
    have hl : (putW.data.toList ++ k.data.toList ++ [(32 : UInt8)]).length = 4 + k.size + 1 := by
      rw [List.length_append, List.length_append, hkl, hp4]; rfl
    rw [bytes_cut, hd, ← hl, List.drop_left, hl, hsz]
    exact List.take_of_length_le (by omega)
  obtain ⟨h1, h2, h3⟩ := put_iff hpre (i := 4 + k.size) (by omega) (by omega) hi (by rw [e1]; exact hk) (by rw [e2]; exact hv)
  refine ⟨by unfold opKind; rw [if_pos h1], by unfold opKey; rw [if_pos h1, h2, e1], by unfold opVal; rw [if_pos h1, h3, e2]⟩
theorem dropT_op {k : ByteArray} (hk : isW k = true) : opKind (dropT k) = 2 ∧ opKey (dropT k) = k := by
  have hb := dropT_bytes k
  have hsz := dropT_size k
  have hkl := bytes_len k
  have hp5 : dropW.data.toList.length = 5 := rfl
  have hpre : hasPre (dropT k) dropW = true := by
    unfold hasPre
    rw [dropW_size, decide_eq_true (by omega), Bool.true_and]
    refine decide_eq_true (bytes_eq ?_)
    rw [bytes_cut, hb, List.drop_zero, Nat.sub_zero, ← hp5, List.take_left]
  have hput : isPut (dropT k) = false := by unfold isPut; rw [put_drop hpre]; rfl
  have e : cutP (dropT k) dropW = k := by
    rw [cutP_drop hpre]
    refine bytes_eq ?_
    rw [bytes_cut, hb, ← hp5, List.drop_left]
    exact List.take_of_length_le (by omega)
  have hdr : isDrop (dropT k) = true := by unfold isDrop; rw [hpre, e, hk]; rfl
  exact ⟨by unfold opKind; rw [if_neg (by simp [hput]), if_pos hdr], by unfold opKey; rw [if_neg (by simp [hput]), if_pos hdr, e]⟩
end Go.Proofs.YtlioojekjnigiaeGreat.AM.Fo
/- Sites: what settles, as the document says. -/
namespace Go.Proofs.YtlioojekjnigiaeGreat.AM
set_option linter.unusedVariables false
set_option linter.unusedSimpArgs false

theorem isIdx_eq {α : Type} {p : α → Bool} : ∀ {l : List α} {i : Nat} (j : Nat) (hi : i < l.length), (∀ k (hk : k < l.length), k < i → p l[k] = false) → p l[i] = true → isIdx p l j = some (j + i)
  | [], i, j, hi, _, _ => by simp at hi
  | a :: t, 0, j, hi, _, h => by
    unfold isIdx
    rw [if_pos (by simpa using h)]
    rfl
  | a :: t, i + 1, j, hi, hk, h => by
    have h0 := hk 0 (by simp) (by omega)
    simp only [List.getElem_cons_zero] at h0
    unfold isIdx
    rw [if_neg (by simp [h0]), isIdx_eq (j + 1) (by simpa using hi) (fun k hk' hlt => hk (k + 1) (by simpa using hk') (by omega)) (by simpa using h)]
    congr 1
    omega
theorem enc5 {l : List Entry'} : ∀ x ∈ l.map Entry'.enc, x.length = 5 := fun x hx => by
  obtain ⟨e, _, rfl⟩ := List.mem_map.1 hx
  rfl
def settleS (s : Site') : Site' := ⟨s.region, (settle s.log s.waits).1, (settle s.log s.waits).2⟩
end Go.Proofs.YtlioojekjnigiaeGreat.AM
/- Sites: what comes in, as the document says. -/
namespace Go.Proofs.YtlioojekjnigiaeGreat.AM
set_option linter.unusedVariables false
set_option linter.unusedSimpArgs false

/-- What stands ahead of what comes in, and is it put already? -/
def putStep (e : Entry') (p : List Entry' × Bool) (w : Entry') : List Entry' × Bool :=
  if (!p.2 && e.id.less w.id) = true then (p.1 ++ [e] ++ [w], true) else (p.1 ++ [w], p.2)
def putEnd (e : Entry') (p : List Entry' × Bool) : List Entry' := if p.2 = true then p.1 else p.1 ++ [e]
theorem putStep_on (e : Entry') : ∀ (t acc : List Entry'), putEnd e (t.foldl (putStep e) (acc, true)) = acc ++ t
  | [], acc => by simp [putEnd]
  | w :: t, acc => by
    rw [List.foldl_cons]
    have : putStep e (acc, true) w = (acc ++ [w], true) := by simp [putStep]
    rw [this, putStep_on e t, List.append_assoc]
    rfl
theorem putStep_all (e : Entry') : ∀ (t acc : List Entry'), (∀ w ∈ t, w.id ≠ e.id) → putEnd e (t.foldl (putStep e) (acc, false)) = acc ++ putW t e
  | [], acc, _ => by simp [putEnd, putW, waitAt, putAt]
  | w :: t, acc, h => by
    rw [List.foldl_cons, putW_cons]
    cases hl : e.id.less w.id with
    | true =>
      have : putStep e (acc, false) w = (acc ++ [e] ++ [w], true) := by simp [putStep, hl]
      rw [this, putStep_on e t, if_neg (by rw [less_asymm hl]; simp), List.append_assoc, List.append_assoc]
      rfl
    | false =>
      have hw : w.id.less e.id = true := by
        cases hh : w.id.less e.id
        · exact absurd (less_total hh hl) (h w (by simp))
        · rfl
      have : putStep e (acc, false) w = (acc ++ [w], false) := by simp [putStep, hl]
      rw [this, putStep_all e t _ fun x hx => h x (by simp [hx]), if_pos hw, List.append_assoc]
      rfl
theorem entryAt_yes {l : List Entry'} {x : Id} (h : decide (0 ≤ entryAt l x) = true) : l.any (isThe x) = true := entryAt_iff.1 (by simpa using h)
theorem entryAt_no {l : List Entry'} {x : Id} (h : decide (0 ≤ entryAt l x) = false) : l.any (isThe x) = false := by
  rw [Bool.eq_false_iff]
  intro k
  have := entryAt_iff.2 k
  simp at h
  omega
end Go.Proofs.YtlioojekjnigiaeGreat.AM
/- Sites: what a site writes of its own, as the document says. -/
namespace Go.Proofs.YtlioojekjnigiaeGreat.AM
set_option linter.unusedVariables false
set_option linter.unusedSimpArgs false

theorem full_next {s : Site'} (h : SiteR s) (hl : s.log.length = 40) : 20 < cnt s.region s.log + 1 := by
  have h0 := cnt_all h.log.regs
  have h1 := h.log.cnt_twenty 0
  have h2 := h.log.cnt_twenty 1
  rcases h.reg with e | e <;> rw [e] <;> omega
end Go.Proofs.YtlioojekjnigiaeGreat.AM
/- Sites: what must be in any case. -/
namespace Go.Proofs.YtlioojekjnigiaeGreat.AM
set_option linter.unusedVariables false
set_option linter.unusedSimpArgs false

def sA : Site' := ⟨1, [], []⟩
def sB : Site' := ⟨1, [], [someLog[2]]⟩
def sC : Site' := ⟨1, [someLog[0], someLog[2]], []⟩
def eX : Entry' := ⟨⟨1, 1⟩, 4, ⟨#[116]⟩, []⟩
def eY : Entry' := ⟨⟨1, 2⟩, 1, ⟨#[117]⟩, [⟨0, 2⟩]⟩
def sD : Site' := ⟨1, [someLog[0], someLog[2], eX], []⟩
def sE : Site' := ⟨1, [someLog[0], someLog[2], eX, eY], []⟩
set_option maxHeartbeats 0 in
theorem siteBegun_ok : PCall Tryz.prog 16 [] (dBool true) := by
  have kA : SiteOk sA := ⟨⟨by decide, by decide⟩, ⟨by decide, by decide⟩⟩
  have kB : SiteOk sB := ⟨⟨by decide, by decide⟩, ⟨by decide, by decide⟩⟩
  have kC : SiteOk sC := ⟨⟨by decide, by decide⟩, ⟨by decide, by decide⟩⟩
  have kD : SiteOk sD := ⟨⟨by decide, by decide⟩, ⟨by decide, by decide⟩⟩
  have kE : SiteOk sE := ⟨⟨by decide, by decide⟩, ⟨by decide, by decide⟩⟩
  have h1 := siteNew_ok 1
  rw [show newSite 1 = sA from by kernel_rfl, show newErr 1 = 0 from by kernel_rfl] at h1
  have h2 := Receive_ok sA kA someLog[2] (by decide)
  rw [show recvAns sA someLog[2] = sB from by kernel_rfl, show recvErr sA someLog[2] = 0 from by kernel_rfl] at h2
  have h3 := Receive_ok sB kB someLog[0] (by decide)
  rw [show recvAns sB someLog[0] = sC from by kernel_rfl, show recvErr sB someLog[0] = 0 from by kernel_rfl] at h3
  have h4 := Append_ok sC kC 4 ⟨#[116]⟩
  rw [show appAns sC 4 ⟨#[116]⟩ = sD from by kernel_rfl, show appErr sC 4 ⟨#[116]⟩ = 0 from by kernel_rfl, show appE sC 4 ⟨#[116]⟩ = eX from by kernel_rfl] at h4
  have h5 := Append_ok sD kD 1 ⟨#[117]⟩
  rw [show appAns sD 1 ⟨#[117]⟩ = sE from by kernel_rfl, show appErr sD 1 ⟨#[117]⟩ = 0 from by kernel_rfl, show appE sD 1 ⟨#[117]⟩ = eY from by kernel_rfl] at h5
  have h6 := siteCheck_ok sE kE
  rw [show siteErr sE = 0 from by kernel_rfl] at h6
  refine pcall_intro tab_all tab_mixed Tryz.func16 (by kernel_rfl) Tryz.ntmps16 rfl ?_
  conv => whnf
  refine .data _ _ h1 rfl ?_
  conv => whnf
  repeat (first | (refine Conf.mk (by kernel_rfl) ?_; conv => whnf) | (refine SeqOk.go ?_; conv => whnf))
  refine .data _ _ entries_ok rfl ?_
  conv => whnf
  repeat (first | (refine Conf.mk (by kernel_rfl) ?_; conv => whnf) | (refine SeqOk.go ?_; conv => whnf))
  refine AtIdx.ofMap (l := someLog) (i := 2) (by decide) rfl ?_
  conv => whnf
  repeat (first | (refine Conf.mk (by kernel_rfl) ?_; conv => whnf) | (refine SeqOk.go ?_; conv => whnf))
  refine .data _ _ h2 rfl ?_
  conv => whnf
  repeat (first | (refine Conf.mk (by kernel_rfl) ?_; conv => whnf) | (refine SeqOk.go ?_; conv => whnf))
  refine .data _ _ entries_ok rfl ?_
  conv => whnf
  repeat (first | (refine Conf.mk (by kernel_rfl) ?_; conv => whnf) | (refine SeqOk.go ?_; conv => whnf))
  refine AtIdx.ofMap (l := someLog) (i := 0) (by decide) rfl ?_
  conv => whnf
  repeat (first | (refine Conf.mk (by kernel_rfl) ?_; conv => whnf) | (refine SeqOk.go ?_; conv => whnf))
  refine .data _ _ h3 rfl ?_
  conv => whnf
  repeat (first | (refine Conf.mk (by kernel_rfl) ?_; conv => whnf) | (refine SeqOk.go ?_; conv => whnf))
  refine .data _ _ h4 rfl ?_
  conv => whnf
  repeat (first | (refine Conf.mk (by kernel_rfl) ?_; conv => whnf) | (refine SeqOk.go ?_; conv => whnf))
  refine .data _ _ h5 rfl ?_
  conv => whnf
  repeat (first | (refine Conf.mk (by kernel_rfl) ?_; conv => whnf) | (refine SeqOk.go ?_; conv => whnf))
  refine BoolCase.yes rfl ?_
  conv => whnf
  repeat (first | (refine Conf.mk (by kernel_rfl) ?_; conv => whnf) | (refine SeqOk.go ?_; conv => whnf))
  refine BoolCase.yes rfl ?_
  conv => whnf
  repeat (first | (refine Conf.mk (by kernel_rfl) ?_; conv => whnf) | (refine SeqOk.go ?_; conv => whnf))
  refine BoolCase.yes rfl ?_
  conv => whnf
  repeat (first | (refine Conf.mk (by kernel_rfl) ?_; conv => whnf) | (refine SeqOk.go ?_; conv => whnf))
  refine BoolCase.yes rfl ?_
  conv => whnf
  repeat (first | (refine Conf.mk (by kernel_rfl) ?_; conv => whnf) | (refine SeqOk.go ?_; conv => whnf))
  refine BoolCase.yes rfl ?_
  conv => whnf
  repeat (first | (refine Conf.mk (by kernel_rfl) ?_; conv => whnf) | (refine SeqOk.go ?_; conv => whnf))
  refine .data _ _ h6 rfl ?_
  conv => whnf
  repeat (first | (refine Conf.mk (by kernel_rfl) ?_; conv => whnf) | (refine SeqOk.go ?_; conv => whnf))
  refine BoolCase.yes rfl ?_
  conv => whnf
  repeat (first | (refine Conf.mk (by kernel_rfl) ?_; conv => whnf) | (refine SeqOk.go ?_; conv => whnf))
  refine BoolCase.yes rfl ?_
  conv => whnf
  repeat (first | (refine Conf.mk (by kernel_rfl) ?_; conv => whnf) | (refine SeqOk.go ?_; conv => whnf))
  refine BoolCase.yes rfl ?_
  conv => whnf
  repeat (first | (refine Conf.mk (by kernel_rfl) ?_; conv => whnf) | (refine SeqOk.go ?_; conv => whnf))
  refine BoolCase.yes rfl ?_
  conv => whnf
  repeat (first | (refine Conf.mk (by kernel_rfl) ?_; conv => whnf) | (refine SeqOk.go ?_; conv => whnf))
  refine BoolCase.yes rfl ?_
  conv => whnf
  repeat (first | (refine Conf.mk (by kernel_rfl) ?_; conv => whnf) | (refine SeqOk.go ?_; conv => whnf))
  refine BoolCase.yes rfl ?_
  conv => whnf
  repeat (first | (refine Conf.mk (by kernel_rfl) ?_; conv => whnf) | (refine SeqOk.go ?_; conv => whnf))
  refine .data _ _ (id_ok _ _) rfl ?_
  conv => whnf
  repeat (first | (refine Conf.mk (by kernel_rfl) ?_; conv => whnf) | (refine SeqOk.go ?_; conv => whnf))
  refine .look _ _ (same_ok [⟨0, 2⟩] (by decide)) rfl rfl ?_
  conv => whnf
  repeat (first | (refine Conf.mk (by kernel_rfl) ?_; conv => whnf) | (refine SeqOk.go ?_; conv => whnf))
  refine .data _ _ (id_ok _ _) rfl ?_
  conv => whnf
  repeat (first | (refine Conf.mk (by kernel_rfl) ?_; conv => whnf) | (refine SeqOk.go ?_; conv => whnf))
  exact Ret.bool rfl
end Go.Proofs.YtlioojekjnigiaeGreat.AM
/- The law of maps: what is put by who knows all. -/
namespace Go.Proofs.YtlioojekjnigiaeGreat.AM.Fo
set_option linter.unusedVariables false
set_option linter.unusedSimpArgs false

/-- A log with one entry of one's own behind it. -/
def plus (s : Site') (c : Int) (t : ByteArray) : List Entry' := s.log ++ [newE s.region s.log c t]
theorem plus_len (s : Site') (c : Int) (t : ByteArray) : (plus s c t).length = s.log.length + 1 := by simp [plus]
theorem app_take {s : Site'} {c : Int} {t : ByteArray} (h : appErr s c t = 0) : (appAns s c t).log.take (s.log.length + 1) = plus s c t ∧ s.log.length + 1 ≤ (appAns s c t).log.length := by
  obtain ⟨⟨u, hu⟩, _⟩ := app_ext h
  have e : (appAns s c t).log = plus s c t ++ u := by rw [hu]; simp [plus]
  rw [e]
  refine ⟨?_, by rw [List.length_append, plus_len]; omega⟩
  rw [← plus_len s c t, List.take_left]
theorem plus_right {s : Site'} {c : Int} {t : ByteArray} (h : appErr s c t = 0) : Right (plus s c t) := by
  rw [← (app_take h).1]
  exact (app_right h).log.take _
theorem plus_knows {s : Site'} {c : Int} {t : ByteArray} (h : appErr s c t = 0) : Knows s.log (newE s.region s.log c t) c := by
  obtain ⟨h1, h2⟩ := appErr_zero h
  obtain ⟨⟨u, hu⟩, _⟩ := app_ext h
  refine ⟨plus_right h, (nextErr_zero h2).1, rfl, fun x hx hm => ?_⟩
  have := app_links h hx hm
  have hr := (app_right h).log
  have e : (appAns s c t).log = (s.log ++ [newE s.region s.log c t]) ++ u := by rw [hu]; simp
  rw [e] at this hr
  exact Anc.back hr ⟨_, by simp, rfl⟩ this
theorem newE_text (s : Site') (c : Int) (t : ByteArray) : (newE s.region s.log c t).text = t := rfl
theorem colErr_right {l : List Entry'} (hr : Right l) {c : Int} (hc : 1 ≤ c ∧ c ≤ 7) : colErr l c = 0 := by
  unfold colErr
  rw [if_pos (right_iff.2 hr), if_neg (by omega)]
theorem get_right (l : List Entry') (hr : Right l) {c : Int} (hc : 1 ≤ c ∧ c ≤ 7) (k : ByteArray) : PCall Tryz.prog 6 [.dat (.list (l.map Entry'.enc)), dInt c, .dat (.str k)] (.tup [.dat (.list ((if isW k = true then valsOf l c k else []).map encS)), dInt (if isW k = true then 0 else 1)]) := by
  have h := get_ok l hr.logOk c (mapOf l c) (by have := mapOf_len l c; have := hr.len; omega) (mapIs' l c) k
  have e0 := colErr_right hr hc
  have e : getErr l c k = if isW k = true then 0 else 1 := by unfold getErr; rw [if_pos e0]
  have a : getAns l c (mapOf l c) k = if isW k = true then valsOf l c k else [] := by
    unfold getAns
    rw [e]
    by_cases hk : isW k = true
    · rw [if_pos hk, if_pos rfl, if_pos hk, valuesIn_mapOf]
    · rw [if_neg hk, if_neg (by decide), if_neg hk]
  rw [e, a] at h
  exact h
theorem drop_comes {s : Site'} {c : Int} {k v : ByteArray} (h : appErr s c (putT k v) = 0) (hk : isW k = true) : appErr s c (dropT k) = 0 := by
  obtain ⟨h1, h2⟩ := appErr_zero h
  obtain ⟨a1, a2, a3, a4⟩ := nextErr_zero h2
  rw [appErr_next h1]
  unfold nextErr
  have hs := (isW_size hk).2
  rw [if_neg (by omega), if_neg]
  rw [dropT_size]
  omega
set_option maxHeartbeats 0 in
theorem foldLast_no (s : Site') (hs : SiteOk s) (c : Int) (k v o : ByteArray) (hk : k.size ≤ 140737488355327) (hv : v.size ≤ 140737488355327) (hw : isW k = false ∨ isW v = false) : PCall Tryz.prog 4 [s.arg, dInt c, .dat (.str k), .dat (.str v), .dat (.str o)] (dBool true) := by
  have hbeg := foldBegun_ok.kb
  have hsb := siteBegun_ok.kb
  have hk1 := refIsWord_ok k (by omega)
  have hv1 := refIsWord_ok v (by omega)
  refine pcall_cut tab_all tab_mixed Tryz.func4 (by kernel_rfl) Tryz.ntmps4 rfl ?_
  conv => whnf
  conv => whnf
  repeat (first | (refine Conf.mk (by kernel_rfl) ?_; conv => whnf) | (refine SeqOk.go ?_; conv => whnf))
  refine .look _ _ hbeg rfl rfl ?_
  conv => whnf
  repeat (first | (refine Conf.mk (by kernel_rfl) ?_; conv => whnf) | (refine SeqOk.go ?_; conv => whnf))
  refine .look _ _ hsb rfl rfl ?_
  conv => whnf
  repeat (first | (refine Conf.mk (by kernel_rfl) ?_; conv => whnf) | (refine SeqOk.go ?_; conv => whnf))
  cases h1 : isW k
  · refine .look _ _ (h1 ▸ hk1).kb rfl rfl ?_
    conv => whnf
    repeat (first | (refine Conf.mk (by kernel_rfl) ?_; conv => whnf) | (refine SeqOk.go ?_; conv => whnf))
    exact Ret.bool rfl
  · have h2 : isW v = false := by
      rcases hw with a | a
      · rw [h1] at a; cases a
      · exact a
    refine .look _ _ (h1 ▸ hk1).kb rfl rfl ?_
    conv => whnf
    repeat (first | (refine Conf.mk (by kernel_rfl) ?_; conv => whnf) | (refine SeqOk.go ?_; conv => whnf))
    refine .look _ _ (h2 ▸ hv1).kb rfl rfl ?_
    conv => whnf
    repeat (first | (refine Conf.mk (by kernel_rfl) ?_; conv => whnf) | (refine SeqOk.go ?_; conv => whnf))
    exact Ret.bool rfl
end Go.Proofs.YtlioojekjnigiaeGreat.AM.Fo
/- The law of maps: what is put by who knows all, the walk. -/
namespace Go.Proofs.YtlioojekjnigiaeGreat.AM.Fo
set_option linter.unusedVariables false
set_option linter.unusedSimpArgs false
set_option maxHeartbeats 0 in
theorem foldLast_bad (s : Site') (hs : SiteOk s) (c : Int) (k v o : ByteArray) (h1 : isW k = true) (h2 : isW v = true) (ha : appErr s c (putT k v) ≠ 0) : PCall Tryz.prog 4 [s.arg, dInt c, .dat (.str k), .dat (.str v), .dat (.str o)] (dBool true) := by
  have hbeg := foldBegun_ok.kb
  have hsb := siteBegun_ok.kb
  have hk1 := (h1 ▸ refIsWord_ok k (by have := (isW_size h1).2; omega)).kb
  have hv1 := (h2 ▸ refIsWord_ok v (by have := (isW_size h2).2; omega)).kb
  have hks := isW_size h1
  have hvs := isW_size h2
  have hap := Append_ok s hs c (putT k v)
  have hp4 : putW.size = 4 := rfl
  have hp5 : dropW.size = 5 := rfl
  have hb1 : blank.size = 1 := rfl
  have ea : appAns s c (putT k v) = ⟨0, [], []⟩ := by unfold appAns; rw [if_pos ha]
  rw [ea] at hap
  refine pcall_cut tab_all tab_mixed Tryz.func4 (by kernel_rfl) Tryz.ntmps4 rfl ?_
  conv => whnf
  conv => whnf
  repeat (first | (refine Conf.mk (by kernel_rfl) ?_; conv => whnf) | (refine SeqOk.go ?_; conv => whnf))
  refine .look _ _ hbeg rfl rfl ?_
  conv => whnf
  repeat (first | (refine Conf.mk (by kernel_rfl) ?_; conv => whnf) | (refine SeqOk.go ?_; conv => whnf))
  refine .look _ _ hsb rfl rfl ?_
  conv => whnf
  repeat (first | (refine Conf.mk (by kernel_rfl) ?_; conv => whnf) | (refine SeqOk.go ?_; conv => whnf))
  refine .look _ _ hk1 rfl rfl ?_
  conv => whnf
  repeat (first | (refine Conf.mk (by kernel_rfl) ?_; conv => whnf) | (refine SeqOk.go ?_; conv => whnf))
  refine .look _ _ hv1 rfl rfl ?_
  conv => whnf
  repeat (first | (refine Conf.mk (by kernel_rfl) ?_; conv => whnf) | (refine SeqOk.go ?_; conv => whnf))
  try simp only
  refine Room.mk (by show putW.size + k.size ≤ _; omega) ?_
  conv => whnf
  repeat (first | (refine Conf.mk (by kernel_rfl) ?_; conv => whnf) | (refine SeqOk.go ?_; conv => whnf))
  refine Room.mk (by show (putW ++ k).size + blank.size ≤ _; rw [ByteArray.size_append]; omega) ?_
  conv => whnf
  repeat (first | (refine Conf.mk (by kernel_rfl) ?_; conv => whnf) | (refine SeqOk.go ?_; conv => whnf))
  refine Room.mk (by show (putW ++ k ++ blank).size + v.size ≤ _; rw [ByteArray.size_append, ByteArray.size_append]; omega) ?_
  conv => whnf
  repeat (first | (refine Conf.mk (by kernel_rfl) ?_; conv => whnf) | (refine SeqOk.go ?_; conv => whnf))
  try simp only
  refine .data _ _ hap rfl ?_
  conv => whnf
  repeat (first | (refine Conf.mk (by kernel_rfl) ?_; conv => whnf) | (refine SeqOk.go ?_; conv => whnf))
  refine BoolCase.yes (by simp [ha]) ?_
  conv => whnf
  repeat (first | (refine Conf.mk (by kernel_rfl) ?_; conv => whnf) | (refine SeqOk.go ?_; conv => whnf))
  exact Ret.bool rfl
set_option maxHeartbeats 0 in
theorem foldLast_good (s : Site') (hs : SiteOk s) (c : Int) (k v o : ByteArray) (h1 : isW k = true) (h2 : isW v = true) (ha : appErr s c (putT k v) = 0) : PCall Tryz.prog 4 [s.arg, dInt c, .dat (.str k), .dat (.str v), .dat (.str o)] (dBool true) := by
  have hbeg := foldBegun_ok.kb
  have hsb := siteBegun_ok.kb
  have hk1 := (h1 ▸ refIsWord_ok k (by have := (isW_size h1).2; omega)).kb
  have hv1 := (h2 ▸ refIsWord_ok v (by have := (isW_size h2).2; omega)).kb
  have hks := isW_size h1
  have hvs := isW_size h2
  have hap := Append_ok s hs c (putT k v)
  have hp4 : putW.size = 4 := rfl
  have hp5 : dropW.size = 5 := rfl
  have hb1 : blank.size = 1 := rfl
  have hd := drop_comes ha h1
  have hdp := Append_ok s hs c (dropT k)
  have hR := (appErr_zero ha).1
  have hc := (nextErr_zero (appErr_zero ha).2).1
  obtain ⟨t1, t2⟩ := app_take ha
  obtain ⟨t3, t4⟩ := app_take hd
  have hll := hR.log.len
  rw [ha] at hap
  rw [hd] at hdp
  have g1 := get_right (plus s c (putT k v)) (plus_right ha) hc k
  have g2 := get_right (plus s c (dropT k)) (plus_right hd) hc k
  have g3 := get_right s.log hR.log hc o
  have g4 := get_right (plus s c (putT k v)) (plus_right ha) hc o
  obtain ⟨p1, p2, p3⟩ := putT_op h1 h2
  obtain ⟨q1, q2⟩ := dropT_op h1
  have w1 : valsOf (plus s c (putT k v)) c k = [v] := by
    have := vals_put (plus_knows ha) (by rw [newE_text]; exact p1)
    rw [newE_text, p2, p3] at this
    exact this
  have w2 : valsOf (plus s c (dropT k)) c k = [] := by
    have := vals_drop (plus_knows hd) (by rw [newE_text]; exact q1)
    rw [newE_text, q2] at this
    exact this
  rw [h1, if_pos rfl, if_pos rfl] at g1 g2
  rw [w1] at g1
  rw [w2] at g2
  have hot : o ≠ k → valsOf (plus s c (putT k v)) c o = valsOf s.log c o := fun ho => vals_other (plus_knows ha) (by rw [newE_text, p2]; exact fun e => ho e.symm)
  have hol : (if isW o = true then valsOf s.log c o else []).length ≤ 140737488355327 := by
    have := valsOf_len s.log c o
    split
    · omega
    · simp
  generalize hA : appAns s c (putT k v) = A at *
  generalize hB : appAns s c (dropT k) = B at *
  refine pcall_cut tab_all tab_mixed Tryz.func4 (by kernel_rfl) Tryz.ntmps4 rfl ?_
  conv => whnf
  conv => whnf
  repeat (first | (refine Conf.mk (by kernel_rfl) ?_; conv => whnf) | (refine SeqOk.go ?_; conv => whnf))
  refine .look _ _ hbeg rfl rfl ?_
  conv => whnf
  repeat (first | (refine Conf.mk (by kernel_rfl) ?_; conv => whnf) | (refine SeqOk.go ?_; conv => whnf))
  refine .look _ _ hsb rfl rfl ?_
  conv => whnf
  repeat (first | (refine Conf.mk (by kernel_rfl) ?_; conv => whnf) | (refine SeqOk.go ?_; conv => whnf))
  refine .look _ _ hk1 rfl rfl ?_
  conv => whnf
  repeat (first | (refine Conf.mk (by kernel_rfl) ?_; conv => whnf) | (refine SeqOk.go ?_; conv => whnf))
  refine .look _ _ hv1 rfl rfl ?_
  conv => whnf
  repeat (first | (refine Conf.mk (by kernel_rfl) ?_; conv => whnf) | (refine SeqOk.go ?_; conv => whnf))
  try simp only
  refine Room.mk (by show putW.size + k.size ≤ _; omega) ?_
  conv => whnf
  repeat (first | (refine Conf.mk (by kernel_rfl) ?_; conv => whnf) | (refine SeqOk.go ?_; conv => whnf))
  refine Room.mk (by show (putW ++ k).size + blank.size ≤ _; rw [ByteArray.size_append]; omega) ?_
  conv => whnf
  repeat (first | (refine Conf.mk (by kernel_rfl) ?_; conv => whnf) | (refine SeqOk.go ?_; conv => whnf))
  refine Room.mk (by show (putW ++ k ++ blank).size + v.size ≤ _; rw [ByteArray.size_append, ByteArray.size_append]; omega) ?_
  conv => whnf
  repeat (first | (refine Conf.mk (by kernel_rfl) ?_; conv => whnf) | (refine SeqOk.go ?_; conv => whnf))
  try simp only
  refine .data _ _ hap rfl ?_
  conv => whnf
  repeat (first | (refine Conf.mk (by kernel_rfl) ?_; conv => whnf) | (refine SeqOk.go ?_; conv => whnf))
  refine BoolCase.no rfl ?_
  conv => whnf
  repeat (first | (refine Conf.mk (by kernel_rfl) ?_; conv => whnf) | (refine SeqOk.go ?_; conv => whnf))
  try simp only
  refine Room.mk (by show dropW.size + k.size ≤ _; omega) ?_
  conv => whnf
  repeat (first | (refine Conf.mk (by kernel_rfl) ?_; conv => whnf) | (refine SeqOk.go ?_; conv => whnf))
  refine .data _ _ hdp rfl ?_
  conv => whnf
  repeat (first | (refine Conf.mk (by kernel_rfl) ?_; conv => whnf) | (refine SeqOk.go ?_; conv => whnf))
  try simp only
  have hwr : IntKind.i64.wrap (((s.log.map Entry'.enc).length : Int) + 1) = ((s.log.length + 1 : Nat) : Int) := by rw [List.length_map]; exact (wrap_up (by omega)).symm
  refine BoolCase.no (by simp; omega) ?_
  conv => whnf
  repeat (first | (refine Conf.mk (by kernel_rfl) ?_; conv => whnf) | (refine SeqOk.go ?_; conv => whnf))
  refine BoolCase.no (by simp; omega) ?_
  conv => whnf
  repeat (first | (refine Conf.mk (by kernel_rfl) ?_; conv => whnf) | (refine SeqOk.go ?_; conv => whnf))
  try simp only
  refine .mk 0 (s.log.length + 1) rfl hwr (Nat.zero_le _) (by rw [List.length_map]; omega) ?_
  rw [fits_take, t1]
  conv => whnf
  repeat (first | (refine Conf.mk (by kernel_rfl) ?_; conv => whnf) | (refine SeqOk.go ?_; conv => whnf))
  refine .data _ _ g1 rfl ?_
  conv => whnf
  repeat (first | (refine Conf.mk (by kernel_rfl) ?_; conv => whnf) | (refine SeqOk.go ?_; conv => whnf))
  try simp only
  refine .mk 0 (s.log.length + 1) rfl hwr (Nat.zero_le _) (by rw [List.length_map]; omega) ?_
  rw [fits_take, t3]
  conv => whnf
  repeat (first | (refine Conf.mk (by kernel_rfl) ?_; conv => whnf) | (refine SeqOk.go ?_; conv => whnf))
  refine .data _ _ g2 rfl ?_
  conv => whnf
  repeat (first | (refine Conf.mk (by kernel_rfl) ?_; conv => whnf) | (refine SeqOk.go ?_; conv => whnf))
  try simp only
  refine BoolCase.no rfl ?_
  conv => whnf
  repeat (first | (refine Conf.mk (by kernel_rfl) ?_; conv => whnf) | (refine SeqOk.go ?_; conv => whnf))
  refine BoolCase.no rfl ?_
  conv => whnf
  repeat (first | (refine Conf.mk (by kernel_rfl) ?_; conv => whnf) | (refine SeqOk.go ?_; conv => whnf))
  refine BoolCase.no rfl ?_
  conv => whnf
  repeat (first | (refine Conf.mk (by kernel_rfl) ?_; conv => whnf) | (refine SeqOk.go ?_; conv => whnf))
  refine .look _ _ (sameS_kb [v] (by simp)) rfl rfl ?_
  conv => whnf
  repeat (first | (refine Conf.mk (by kernel_rfl) ?_; conv => whnf) | (refine SeqOk.go ?_; conv => whnf))
  try simp only
  refine BoolCase.no rfl ?_
  conv => whnf
  repeat (first | (refine Conf.mk (by kernel_rfl) ?_; conv => whnf) | (refine SeqOk.go ?_; conv => whnf))
  refine .data _ _ g3 rfl ?_
  conv => whnf
  repeat (first | (refine Conf.mk (by kernel_rfl) ?_; conv => whnf) | (refine SeqOk.go ?_; conv => whnf))
  try simp only
  refine .mk 0 (s.log.length + 1) rfl hwr (Nat.zero_le _) (by rw [List.length_map]; omega) ?_
  rw [fits_take, t1]
  conv => whnf
  repeat (first | (refine Conf.mk (by kernel_rfl) ?_; conv => whnf) | (refine SeqOk.go ?_; conv => whnf))
  refine .data _ _ g4 rfl ?_
  conv => whnf
  repeat (first | (refine Conf.mk (by kernel_rfl) ?_; conv => whnf) | (refine SeqOk.go ?_; conv => whnf))
  try simp only
  by_cases ho : o = k
  · refine BoolCase.yes (decide_eq_true ho) ?_
    conv => whnf
    repeat (first | (refine Conf.mk (by kernel_rfl) ?_; conv => whnf) | (refine SeqOk.go ?_; conv => whnf))
    exact Ret.bool rfl
  · have w4 := hot ho
    rw [w4]
    refine BoolCase.no (decide_eq_false ho) ?_
    conv => whnf
    repeat (first | (refine Conf.mk (by kernel_rfl) ?_; conv => whnf) | (refine SeqOk.go ?_; conv => whnf))
    refine BoolCase.yes (by simp) ?_
    conv => whnf
    repeat (first | (refine Conf.mk (by kernel_rfl) ?_; conv => whnf) | (refine SeqOk.go ?_; conv => whnf))
    refine .look _ _ (sameS_kb (if isW o = true then valsOf s.log c o else []) hol) rfl rfl ?_
    conv => whnf
    repeat (first | (refine Conf.mk (by kernel_rfl) ?_; conv => whnf) | (refine SeqOk.go ?_; conv => whnf))
    exact Ret.bool rfl
theorem foldLast_ok (s : Site') (hs : SiteOk s) (c : Int) (k v o : ByteArray) (hk : k.size ≤ 140737488355327) (hv : v.size ≤ 140737488355327) : PCall Tryz.prog 4 [s.arg, dInt c, .dat (.str k), .dat (.str v), .dat (.str o)] (dBool true) := by
  by_cases h1 : isW k = true
  · by_cases h2 : isW v = true
    · by_cases ha : appErr s c (putT k v) = 0
      · exact foldLast_good s hs c k v o h1 h2 ha
      · exact foldLast_bad s hs c k v o h1 h2 ha
    · exact foldLast_no s hs c k v o hk hv (.inr (by simpa using h2))
  · exact foldLast_no s hs c k v o hk hv (.inl (by simpa using h1))
end Go.Proofs.YtlioojekjnigiaeGreat.AM.Fo
/- What came in, opened: numbers, texts, lists. -/
namespace Go.Proofs.YtlioojekjnigiaeGreat
theorem ownT : ownKnob Tryz.prog.godebug = none := by kernel_rfl
theorem laidT : laidOutB Tryz.prog = true := by kernel_rfl
namespace AM
set_option linter.unusedVariables false
set_option linter.unusedSimpArgs false

theorem allWT_cons {tab : Tab} {n t : Nat} {ts : List Nat} {dss : List (List D)} (h : AllWT tab n (t :: ts) dss) : ∃ d ds, dss = d :: ds ∧ WT tab n t d ∧ AllWT tab n ts ds := by
  cases dss with
  | nil => exact h.elim
  | cons d ds => exact ⟨d, ds, rfl, h.1, h.2⟩
theorem allWT_nil {tab : Tab} {n : Nat} {dss : List (List D)} (h : AllWT tab n [] dss) : dss = [] := by
  cases dss with
  | nil => rfl
  | cons d ds => exact h.elim
theorem all_enc {α : Type} {enc : α → List D} {p : List D → Prop} {q : α → Prop} (h : ∀ e, p e → ∃ x, e = enc x ∧ q x) : ∀ (es : List (List D)), (∀ e ∈ es, p e) → ∃ l : List α, es = l.map enc ∧ ∀ x ∈ l, q x
  | [], _ => ⟨[], rfl, by simp⟩
  | e :: t, hs => by
    obtain ⟨x, rfl, hx⟩ := h e (hs e (by simp))
    obtain ⟨l, rfl, hl⟩ := all_enc h t fun e he => hs e (by simp [he])
    exact ⟨x :: l, rfl, fun y hy => by
      rcases List.mem_cons.1 hy with rfl | hy
      · exact hx
      · exact hl y hy⟩
def I64 (n : Int) : Prop := -9223372036854775808 ≤ n ∧ n ≤ 9223372036854775807
theorem wt_int {n : Nat} {ds : List D} (h : WT tab (n + 1) 3 ds) : ∃ m, ds = [.int .i64 m] ∧ I64 m := by
  have h : ∃ m, ds = [.int .i64 m] ∧ (Lit.int .i64 m).wf = true := h
  obtain ⟨m, rfl, hm⟩ := h
  refine ⟨m, rfl, ?_⟩
  simp [Lit.wf, IntKind.wrap, IntKind.bits, IntKind.signed] at hm
  exact hm
theorem wt_bool {n : Nat} {ds : List D} (h : WT tab (n + 1) 4 ds) : ∃ b, ds = [.bool b] := h
theorem wt_string {n : Nat} {ds : List D} (h : WT tab (n + 1) 9 ds) : ∃ s, ds = [.str s] ∧ s.size ≤ 140737488351232 := h
def encInt (x : Int) : List D := [.int .i64 x]
theorem wt_ints {n : Nat} {ds : List D} (h : WT tab (n + 2) 120 ds) : ∃ l : List Int, ds = [.list (l.map encInt)] ∧ l.length * 8 ≤ 140737488351232 ∧ ∀ x ∈ l, I64 x := by
  obtain ⟨es, rfl, h1, h2⟩ := (h : ∃ es, ds = [.list es] ∧ es.length * 8 ≤ 140737488351232 ∧ ∀ e' ∈ es, WT tab (n + 1) 3 e')
  obtain ⟨l, rfl, hl⟩ := all_enc (enc := encInt) (fun e he => wt_int he) es h2
  exact ⟨l, rfl, by rw [List.length_map] at h1; exact h1, hl⟩
end AM
end Go.Proofs.YtlioojekjnigiaeGreat
/- What came in, opened: ids, entries, logs. -/
namespace Go.Proofs.YtlioojekjnigiaeGreat
namespace AM
set_option linter.unusedVariables false
set_option linter.unusedSimpArgs false

theorem wt_id {n : Nat} {ds : List D} (h : WT tab (n + 2) 45 ds) : ∃ x : Id, ds = x.enc ∧ I64 x.r ∧ I64 x.n := by
  obtain ⟨a, y, rfl, h1, b, z, rfl, h2, rfl⟩ := (h : ∃ xs ys, ds = xs ++ ys ∧ WT tab (n + 1) 3 xs ∧ ∃ xs' ys', ys = xs' ++ ys' ∧ WT tab (n + 1) 3 xs' ∧ ys' = [])
  obtain ⟨r, rfl, hr⟩ := wt_int h1
  obtain ⟨m, rfl, hm⟩ := wt_int h2
  exact ⟨⟨r, m⟩, rfl, hr, hm⟩
theorem wt_ids {n : Nat} {ds : List D} (h : WT tab (n + 3) 46 ds) : ∃ l : List Id, ds = [.list (l.map Id.enc)] ∧ l.length * 16 ≤ 140737488351232 ∧ ∀ x ∈ l, I64 x.r ∧ I64 x.n := by
  obtain ⟨es, rfl, h1, h2⟩ := (h : ∃ es, ds = [.list es] ∧ es.length * 16 ≤ 140737488351232 ∧ ∀ e' ∈ es, WT tab (n + 2) 45 e')
  obtain ⟨l, rfl, hl⟩ := all_enc (fun e he => wt_id he) es h2
  exact ⟨l, rfl, by rw [List.length_map] at h1; exact h1, hl⟩
structure EntryIn (e : Entry') : Prop where
  r : I64 e.id.r
  n : I64 e.id.n
  colors : I64 e.colors
  text : e.text.size ≤ 140737488351232
  len : e.links.length * 16 ≤ 140737488351232
  links : ∀ x ∈ e.links, I64 x.r ∧ I64 x.n
theorem wt_entry {n : Nat} {ds : List D} (h : WT tab (n + 4) 48 ds) : ∃ e : Entry', ds = e.enc ∧ EntryIn e := by
  obtain ⟨a, y, rfl, h1, b, z, rfl, h2, c, u, rfl, h3, d, v, rfl, h4, rfl⟩ := (h : ∃ a y, ds = a ++ y ∧ WT tab (n + 3) 45 a ∧ ∃ b z, y = b ++ z ∧ WT tab (n + 3) 3 b ∧ ∃ c u, z = c ++ u ∧ WT tab (n + 3) 9 c ∧ ∃ d v, u = d ++ v ∧ WT tab (n + 3) 46 d ∧ v = [])
  obtain ⟨x, rfl, hx⟩ := wt_id h1
  obtain ⟨k, rfl, hk⟩ := wt_int h2
  obtain ⟨s, rfl, hs⟩ := wt_string h3
  obtain ⟨l, rfl, hl, hl2⟩ := wt_ids h4
  exact ⟨⟨x, k, s, l⟩, rfl, hx.1, hx.2, hk, hs, hl, hl2⟩
theorem wt_log {n : Nat} {ds : List D} (h : WT tab (n + 5) 22 ds) : ∃ l : List Entry', ds = [.list (l.map Entry'.enc)] ∧ l.length * 64 ≤ 140737488351232 ∧ ∀ e ∈ l, EntryIn e := by
  obtain ⟨es, rfl, h1, h2⟩ := (h : ∃ es, ds = [.list es] ∧ es.length * 64 ≤ 140737488351232 ∧ ∀ e' ∈ es, WT tab (n + 4) 48 e')
  obtain ⟨l, rfl, hl⟩ := all_enc (fun e he => wt_entry he) es h2
  exact ⟨l, rfl, by rw [List.length_map] at h1; exact h1, hl⟩
theorem logOk_in {l : List Entry'} (h : l.length * 64 ≤ 140737488351232) (k : ∀ e ∈ l, EntryIn e) : LogOk l := ⟨by omega, fun e he => by have := (k e he).len; omega⟩
end AM
end Go.Proofs.YtlioojekjnigiaeGreat
/- What came in, opened: sites. -/
namespace Go.Proofs.YtlioojekjnigiaeGreat.AM
set_option linter.unusedVariables false
set_option linter.unusedSimpArgs false

def Site'.enc (s : Site') : List D := [.int .i64 s.region, .list (s.log.map Entry'.enc), .list (s.waits.map Entry'.enc)]
structure SiteIn (s : Site') : Prop where
  region : I64 s.region
  log : s.log.length * 64 ≤ 140737488351232
  logs : ∀ e ∈ s.log, EntryIn e
  waits : s.waits.length * 64 ≤ 140737488351232
  waitss : ∀ e ∈ s.waits, EntryIn e
theorem wt_site {n : Nat} {ds : List D} (h : WT tab (n + 6) 43 ds) : ∃ s : Site', ds = s.enc ∧ SiteIn s := by
  obtain ⟨a, y, rfl, h1, b, z, rfl, h2, c, u, rfl, h3, rfl⟩ := (h : ∃ a y, ds = a ++ y ∧ WT tab (n + 5) 3 a ∧ ∃ b z, y = b ++ z ∧ WT tab (n + 5) 22 b ∧ ∃ c u, z = c ++ u ∧ WT tab (n + 5) 22 c ∧ u = [])
  obtain ⟨r, rfl, hr⟩ := wt_int h1
  obtain ⟨l, rfl, hl, hl2⟩ := wt_log h2
  obtain ⟨w, rfl, hw, hw2⟩ := wt_log h3
  exact ⟨⟨r, l, w⟩, rfl, hr, hl, hl2, hw, hw2⟩
theorem siteOk_in {s : Site'} (h : SiteIn s) : SiteOk s := ⟨logOk_in h.log h.logs, logOk_in h.waits h.waitss⟩
end Go.Proofs.YtlioojekjnigiaeGreat.AM
