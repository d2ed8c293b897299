/- What is leaned on: part 4. -/
import Derived.Test.YtlioojekjnigiacQ3
import Derived.OpenShut
import Derived.ProofKit
import Derived.ChangeOld
import Derived.Lib.SmallJoins
/- Logs: the calls of package dag, and what must be in any case. -/
namespace Go.Proofs.Ytlioojekjnigiac.AM
set_option linter.unusedVariables false
set_option linter.unusedSimpArgs false

theorem BoolCase.yes {b : Bool} {t f : Prop} (h : b = true) (k : t) : BoolCase b t f := ⟨fun _ => k, fun h' => (by rw [h] at h'; cases h')⟩
theorem BoolCase.no {b : Bool} {t f : Prop} (h : b = false) (k : f) : BoolCase b t f := ⟨fun h' => (by rw [h] at h'; cases h'), fun _ => k⟩
/-- A bool that is known. -/
theorem PCall.kb {P : Program} {f : FuncId} {args : List AVal} {b : Bool} (h : PCall P f args (dBool b)) : PCall P f args (.kb b) := by
  refine ⟨h.1, fun r A w vs hr hc hs hv => (h.2 r A w vs hr hc hs hv).mono fun e w' he => ?_⟩
  obtain ⟨v, r', A', x, H', n', rfl, ⟨rfl, rfl, rfl⟩, k1, k2, k3, k4, k5, k6, k7⟩ := he
  refine ⟨v, r', A', .kb b, [], 0, rfl, ⟨rfl, rfl, rfl⟩, k1, k2, k3, k4, ?_, k6, k7⟩
  cases k5 with | dat hh => cases hh; exact .kb b
def LA (l : List Entry') : AVal := .dat (.list (l.map Entry'.enc))
def IA (l : List Id) : AVal := .dat (.list (l.map Id.enc))
def pastErr (l : List Entry') (x : Id) : Int := if logErr l = 0 then (if l.any (isThe x) = true then 0 else 5) else logErr l
def pastAns (l : List Entry') (x : Id) : List Id := if pastErr l x = 0 then pastOfId l x else []
theorem pastErr_ok {l : List Entry'} {x : Id} (h : pastErr l x = 0) : Right l ∧ ∃ e ∈ l, e.id = x := by
  unfold pastErr at h
  split at h
  · rename_i h1
    split at h
    · rename_i h2; exact ⟨right_iff.1 h1, any_isThe.1 h2⟩
    · simp at h
  · rename_i h1; exact absurd h h1
set_option maxHeartbeats 0 in
theorem past_ok (l : List Entry') (hl : LogOk l) (x : Id) : PCall Try.prog 13 [.dat (.list (l.map Entry'.enc)), x.arg] (.tup [.dat (.list ((pastAns l x).map Id.enc)), dInt (pastErr l x)]) := by
  refine pcall_intro tab_all tab_mixed Try.func13 (by kernel_rfl) Try.ntmps13 rfl ?_
  conv => whnf
  refine .data _ _ (dagCheck_ok l hl) rfl ?_
  conv => whnf
  repeat (first | (refine Conf.mk (by kernel_rfl) ?_; conv => whnf) | (refine SeqOk.go ?_; conv => whnf))
  refine ⟨fun h1 => ?_, fun h1 => ?_⟩
  · have h1 : logErr l ≠ 0 := by simpa using h1
    have he : pastErr l x = logErr l := by unfold pastErr; rw [if_neg h1]
    have ha : pastAns l x = [] := by unfold pastAns; rw [he, if_neg h1]
    conv => whnf
    repeat (first | (refine Conf.mk (by kernel_rfl) ?_; conv => whnf) | (refine SeqOk.go ?_; conv => whnf))
    exact Ret.to (by rw [he, ha]; rfl)
  · have h1 : logErr l = 0 := by simpa using h1
    have hr := right_iff.1 h1
    conv => whnf
    repeat (first | (refine Conf.mk (by kernel_rfl) ?_; conv => whnf) | (refine SeqOk.go ?_; conv => whnf))
    refine .look _ _ (has_ok x l hl.len) rfl rfl ?_
    conv => whnf
    repeat (first | (refine Conf.mk (by kernel_rfl) ?_; conv => whnf) | (refine SeqOk.go ?_; conv => whnf))
    refine ⟨fun h2 => ?_, fun h2 => ?_⟩
    · have h2 : l.any (isThe x) = false := (Bool.not_eq_true' _).mp h2
      have he : pastErr l x = 5 := by unfold pastErr; rw [if_pos h1, h2]; rfl
      have ha : pastAns l x = [] := by unfold pastAns; rw [he]; rfl
      conv => whnf
      repeat (first | (refine Conf.mk (by kernel_rfl) ?_; conv => whnf) | (refine SeqOk.go ?_; conv => whnf))
      exact Ret.to (by rw [he, ha]; rfl)
    · have h2 : l.any (isThe x) = true := (Bool.not_eq_false' (b := l.any (isThe x))).mp h2
      have he : pastErr l x = 0 := by unfold pastErr; rw [if_pos h1, if_pos h2]
      have ha : pastAns l x = pastOfId l x := by unfold pastAns; rw [he]; rfl
      conv => whnf
      repeat (first | (refine Conf.mk (by kernel_rfl) ?_; conv => whnf) | (refine SeqOk.go ?_; conv => whnf))
      refine .keep [0] _ _ (pastOf_ok l hr.len (fun e he => hr.six he) fun e _ => past1_ok x e) rfl rfl rfl rfl ?_
      conv => whnf
      repeat (first | (refine Conf.mk (by kernel_rfl) ?_; conv => whnf) | (refine SeqOk.go ?_; conv => whnf))
      exact Ret.to (by rw [he, ha]; rfl)
def colErr (l : List Entry') (c : Int) : Int := if logErr l = 0 then (if c < 1 ∨ 7 < c then 3 else 0) else logErr l
def headsAns (l : List Entry') (c : Int) : List Id := if colErr l c = 0 then headsOf c l else []
theorem colErr_ok {l : List Entry'} {c : Int} (h : colErr l c = 0) : Right l ∧ 1 ≤ c ∧ c ≤ 7 := by
  unfold colErr at h
  split at h
  · rename_i h1
    split at h
    · simp at h
    · rename_i h2; exact ⟨right_iff.1 h1, by omega⟩
  · rename_i h1; exact absurd h h1
set_option maxHeartbeats 0 in
theorem heads_ok (l : List Entry') (hl : LogOk l) (c : Int) : PCall Try.prog 14 [.dat (.list (l.map Entry'.enc)), dInt c] (.tup [.dat (.list ((headsAns l c).map Id.enc)), dInt (colErr l c)]) := by
  refine pcall_intro tab_all tab_mixed Try.func14 (by kernel_rfl) Try.ntmps14 rfl ?_
  conv => whnf
  refine .data _ _ (dagCheck_ok l hl) rfl ?_
  conv => whnf
  repeat (first | (refine Conf.mk (by kernel_rfl) ?_; conv => whnf) | (refine SeqOk.go ?_; conv => whnf))
  refine ⟨fun h1 => ?_, fun h1 => ?_⟩
  · have h1 : logErr l ≠ 0 := by simpa using h1
    have he : colErr l c = logErr l := by unfold colErr; rw [if_neg h1]
    have ha : headsAns l c = [] := by unfold headsAns; rw [he, if_neg h1]
    conv => whnf
    repeat (first | (refine Conf.mk (by kernel_rfl) ?_; conv => whnf) | (refine SeqOk.go ?_; conv => whnf))
    exact Ret.to (by rw [he, ha]; rfl)
  · have h1 : logErr l = 0 := by simpa using h1
    have hr := right_iff.1 h1
    conv => whnf
    repeat (first | (refine Conf.mk (by kernel_rfl) ?_; conv => whnf) | (refine SeqOk.go ?_; conv => whnf))
    refine ⟨fun h2 => ?_, fun h2 => ?_⟩
    · have hc : c < 1 ∨ 7 < c := .inl (by simpa using h2)
      have he : colErr l c = 3 := by unfold colErr; rw [if_pos h1, if_pos hc]
      have ha : headsAns l c = [] := by unfold headsAns; rw [he]; rfl
      conv => whnf
      repeat (first | (refine Conf.mk (by kernel_rfl) ?_; conv => whnf) | (refine SeqOk.go ?_; conv => whnf))
      exact Ret.to (by rw [he, ha]; rfl)
    · have h2 : ¬ c < 1 := by simpa using h2
      conv => whnf
      repeat (first | (refine Conf.mk (by kernel_rfl) ?_; conv => whnf) | (refine SeqOk.go ?_; conv => whnf))
      refine ⟨fun h3 => ?_, fun h3 => ?_⟩
      · have hc : c < 1 ∨ 7 < c := .inr (by simpa using h3)
        have he : colErr l c = 3 := by unfold colErr; rw [if_pos h1, if_pos hc]
        have ha : headsAns l c = [] := by unfold headsAns; rw [he]; rfl
        conv => whnf
        repeat (first | (refine Conf.mk (by kernel_rfl) ?_; conv => whnf) | (refine SeqOk.go ?_; conv => whnf))
        exact Ret.to (by rw [he, ha]; rfl)
      · have h3 : ¬ 7 < c := by simpa using h3
        have he : colErr l c = 0 := by unfold colErr; rw [if_pos h1, if_neg (by omega)]
        have ha : headsAns l c = headsOf c l := by unfold headsAns; rw [he]; rfl
        conv => whnf
        repeat (first | (refine Conf.mk (by kernel_rfl) ?_; conv => whnf) | (refine SeqOk.go ?_; conv => whnf))
        refine .keep [0, 1] _ _ (pastOf_ok l hr.len (fun e he => hr.six he) fun e _ => heads1_ok c e) rfl rfl rfl rfl ?_
        conv => whnf
        repeat (first | (refine Conf.mk (by kernel_rfl) ?_; conv => whnf) | (refine SeqOk.go ?_; conv => whnf))
        have hfl := pastFold_len (fun e => bothOf e.colors c) (l := l) fun e he => hr.six he
        have hll := hr.len
        refine .keep [2] _ _ (idsOf_ok l hr.len fun e _ => heads2_ok c (sortIds (pastFold (fun e => bothOf e.colors c) l)) (by rw [sortIds_len]; omega) e) rfl rfl rfl rfl ?_
        conv => whnf
        repeat (first | (refine Conf.mk (by kernel_rfl) ?_; conv => whnf) | (refine SeqOk.go ?_; conv => whnf))
        refine Ret.to ?_
        rw [he, ha]
        have : (fun e : Entry' => bothOf e.colors c && !(sortIds (pastFold (fun e => bothOf e.colors c) l)).any (isId2 e.id)) = fun e => bothOf e.colors c && !(pastFold (fun e => bothOf e.colors c) l).any (isId2 e.id) := funext fun e => by
          congr 2
          rw [Bool.eq_iff_iff, any_isId2, any_isId2, mem_sortIds]
        rw [this]
        rfl
def cntv (r : Int) (l : List Entry') : Int := if logErr l = 0 then (cnt r l : Int) else 0
def countA (l : List Entry') : AVal := vecA (cntv 0 l) (cntv 1 l)
set_option maxHeartbeats 0 in
theorem Count_ok (l : List Entry') (hl : LogOk l) : PCall Try.prog 15 [.dat (.list (l.map Entry'.enc))] (.tup [countA l, dInt (logErr l)]) := by
  refine pcall_intro tab_all tab_mixed Try.func15 (by kernel_rfl) Try.ntmps15 rfl ?_
  conv => whnf
  refine .data _ _ (dagCheck_ok l hl) rfl ?_
  conv => whnf
  repeat (first | (refine Conf.mk (by kernel_rfl) ?_; conv => whnf) | (refine SeqOk.go ?_; conv => whnf))
  refine ⟨fun h1 => ?_, fun h1 => ?_⟩
  · have h1 : logErr l ≠ 0 := by simpa using h1
    conv => whnf
    repeat (first | (refine Conf.mk (by kernel_rfl) ?_; conv => whnf) | (refine SeqOk.go ?_; conv => whnf))
    exact Ret.to (by unfold countA cntv; rw [if_neg h1, if_neg h1]; rfl)
  · have h1 : logErr l = 0 := by simpa using h1
    have hr := right_iff.1 h1
    conv => whnf
    repeat (first | (refine Conf.mk (by kernel_rfl) ?_; conv => whnf) | (refine SeqOk.go ?_; conv => whnf))
    refine .data _ _ (count_ok l hl.len hr.regs) rfl ?_
    conv => whnf
    repeat (first | (refine Conf.mk (by kernel_rfl) ?_; conv => whnf) | (refine SeqOk.go ?_; conv => whnf))
    exact Ret.to (by unfold countA cntv; rw [if_pos h1, if_pos h1, h1]; rfl)
theorem id_ok (r n : Int) : PCall Try.prog 36 [dInt r, dInt n] (Id.arg ⟨r, n⟩) := by
  refine pcall_intro tab_all tab_mixed Try.func36 (by kernel_rfl) Try.ntmps36 rfl ?_
  conv => whnf
  exact Ret.to rfl
def someLog : List Entry' := [⟨⟨0, 1⟩, 1, ⟨#[112, 117, 116, 32, 97, 32, 120]⟩, []⟩, ⟨⟨1, 1⟩, 3, ⟨#[112, 117, 116, 32, 97, 32, 121]⟩, []⟩, ⟨⟨0, 2⟩, 3, ⟨#[100, 114, 111, 112, 32, 97]⟩, [⟨0, 1⟩]⟩, ⟨⟨1, 2⟩, 2, ⟨#[112, 117, 116, 32, 98, 32, 122]⟩, [⟨0, 2⟩, ⟨1, 1⟩]⟩]
set_option maxHeartbeats 0 in
theorem entries_ok : PCall Try.prog 49 [] (.dat (.list (someLog.map Entry'.enc))) := by
  refine pcall_intro tab_all tab_mixed Try.func49 (by kernel_rfl) Try.ntmps49 rfl ?_
  conv => whnf
  refine .data _ _ (id_ok _ _) rfl ?_
  conv => whnf
  repeat (first | (refine Conf.mk (by kernel_rfl) ?_; conv => whnf) | (refine SeqOk.go ?_; conv => whnf))
  refine .data _ _ (id_ok _ _) rfl ?_
  conv => whnf
  repeat (first | (refine Conf.mk (by kernel_rfl) ?_; conv => whnf) | (refine SeqOk.go ?_; conv => whnf))
  refine .data _ _ (id_ok _ _) rfl ?_
  conv => whnf
  repeat (first | (refine Conf.mk (by kernel_rfl) ?_; conv => whnf) | (refine SeqOk.go ?_; conv => whnf))
  refine .data _ _ (id_ok _ _) rfl ?_
  conv => whnf
  repeat (first | (refine Conf.mk (by kernel_rfl) ?_; conv => whnf) | (refine SeqOk.go ?_; conv => whnf))
  refine .data _ _ (id_ok _ _) rfl ?_
  conv => whnf
  repeat (first | (refine Conf.mk (by kernel_rfl) ?_; conv => whnf) | (refine SeqOk.go ?_; conv => whnf))
  refine .data _ _ (id_ok _ _) rfl ?_
  conv => whnf
  repeat (first | (refine Conf.mk (by kernel_rfl) ?_; conv => whnf) | (refine SeqOk.go ?_; conv => whnf))
  refine .data _ _ (id_ok _ _) rfl ?_
  conv => whnf
  repeat (first | (refine Conf.mk (by kernel_rfl) ?_; conv => whnf) | (refine SeqOk.go ?_; conv => whnf))
  exact Ret.to rfl
theorem someLog_ok : LogOk someLog := ⟨by decide, by decide⟩
theorem someLog_right : logErr someLog = 0 := by kernel_rfl
theorem same_ok (a : List Id) (h : a.length ≤ 140737488355328) : PCall Try.prog 27 [.dat (.list (a.map Id.enc)), .dat (.list (a.map Id.enc))] (.kb true) := by
  have := (sameIds_ok a a h).kb
  rwa [sameIds_iff.2 rfl] at this
set_option maxHeartbeats 0 in
theorem dagBegun_ok : PCall Try.prog 22 [] (dBool true) := by
  have p1 : pastErr someLog ⟨1, 2⟩ = 0 := by kernel_rfl
  have p2 : pastAns someLog ⟨1, 2⟩ = [⟨0, 1⟩, ⟨0, 2⟩, ⟨1, 1⟩] := by kernel_rfl
  have q1 : colErr someLog 1 = 0 := by kernel_rfl
  have q2 : headsAns someLog 1 = [⟨0, 2⟩, ⟨1, 1⟩] := by kernel_rfl
  have r1 : countA someLog = vecA 2 2 := by kernel_rfl
  have hp := past_ok someLog someLog_ok ⟨1, 2⟩
  have hh := heads_ok someLog someLog_ok 1
  have hc := Count_ok someLog someLog_ok
  have hk := dagCheck_ok someLog someLog_ok
  rw [p1, p2] at hp
  rw [q1, q2] at hh
  rw [r1, someLog_right] at hc
  rw [someLog_right] at hk
  refine pcall_intro tab_all tab_mixed Try.func22 (by kernel_rfl) Try.ntmps22 rfl ?_
  conv => whnf
  refine .data _ _ entries_ok rfl ?_
  conv => whnf
  repeat (first | (refine Conf.mk (by kernel_rfl) ?_; conv => whnf) | (refine SeqOk.go ?_; conv => whnf))
  refine .data _ _ (id_ok _ _) rfl ?_
  conv => whnf
  repeat (first | (refine Conf.mk (by kernel_rfl) ?_; conv => whnf) | (refine SeqOk.go ?_; conv => whnf))
  refine .data _ _ hp rfl ?_
  conv => whnf
  repeat (first | (refine Conf.mk (by kernel_rfl) ?_; conv => whnf) | (refine SeqOk.go ?_; conv => whnf))
  refine .data _ _ entries_ok rfl ?_
  conv => whnf
  repeat (first | (refine Conf.mk (by kernel_rfl) ?_; conv => whnf) | (refine SeqOk.go ?_; conv => whnf))
  refine .data _ _ hh rfl ?_
  conv => whnf
  repeat (first | (refine Conf.mk (by kernel_rfl) ?_; conv => whnf) | (refine SeqOk.go ?_; conv => whnf))
  refine .data _ _ entries_ok rfl ?_
  conv => whnf
  repeat (first | (refine Conf.mk (by kernel_rfl) ?_; conv => whnf) | (refine SeqOk.go ?_; conv => whnf))
  refine .data _ _ hc rfl ?_
  conv => whnf
  repeat (first | (refine Conf.mk (by kernel_rfl) ?_; conv => whnf) | (refine SeqOk.go ?_; conv => whnf))
  refine .data _ _ entries_ok rfl ?_
  conv => whnf
  repeat (first | (refine Conf.mk (by kernel_rfl) ?_; conv => whnf) | (refine SeqOk.go ?_; conv => whnf))
  refine .data _ _ hk rfl ?_
  conv => whnf
  repeat (first | (refine Conf.mk (by kernel_rfl) ?_; conv => whnf) | (refine SeqOk.go ?_; conv => whnf))
  refine BoolCase.yes rfl ?_
  conv => whnf
  repeat (first | (refine Conf.mk (by kernel_rfl) ?_; conv => whnf) | (refine SeqOk.go ?_; conv => whnf))
  refine BoolCase.yes rfl ?_
  conv => whnf
  repeat (first | (refine Conf.mk (by kernel_rfl) ?_; conv => whnf) | (refine SeqOk.go ?_; conv => whnf))
  refine BoolCase.yes rfl ?_
  conv => whnf
  repeat (first | (refine Conf.mk (by kernel_rfl) ?_; conv => whnf) | (refine SeqOk.go ?_; conv => whnf))
  refine BoolCase.yes rfl ?_
  conv => whnf
  repeat (first | (refine Conf.mk (by kernel_rfl) ?_; conv => whnf) | (refine SeqOk.go ?_; conv => whnf))
  refine .data _ _ (id_ok _ _) rfl ?_
  conv => whnf
  repeat (first | (refine Conf.mk (by kernel_rfl) ?_; conv => whnf) | (refine SeqOk.go ?_; conv => whnf))
  refine .data _ _ (id_ok _ _) rfl ?_
  conv => whnf
  repeat (first | (refine Conf.mk (by kernel_rfl) ?_; conv => whnf) | (refine SeqOk.go ?_; conv => whnf))
  refine .data _ _ (id_ok _ _) rfl ?_
  conv => whnf
  repeat (first | (refine Conf.mk (by kernel_rfl) ?_; conv => whnf) | (refine SeqOk.go ?_; conv => whnf))
  refine .look _ _ (same_ok [⟨0, 1⟩, ⟨0, 2⟩, ⟨1, 1⟩] (by decide)) rfl rfl ?_
  conv => whnf
  repeat (first | (refine Conf.mk (by kernel_rfl) ?_; conv => whnf) | (refine SeqOk.go ?_; conv => whnf))
  refine .data _ _ (id_ok _ _) rfl ?_
  conv => whnf
  repeat (first | (refine Conf.mk (by kernel_rfl) ?_; conv => whnf) | (refine SeqOk.go ?_; conv => whnf))
  refine .data _ _ (id_ok _ _) rfl ?_
  conv => whnf
  repeat (first | (refine Conf.mk (by kernel_rfl) ?_; conv => whnf) | (refine SeqOk.go ?_; conv => whnf))
  refine .look _ _ (same_ok [⟨0, 2⟩, ⟨1, 1⟩] (by decide)) rfl rfl ?_
  conv => whnf
  repeat (first | (refine Conf.mk (by kernel_rfl) ?_; conv => whnf) | (refine SeqOk.go ?_; conv => whnf))
  exact Ret.bool rfl
theorem idsAre_ok (l want : List Id) (e w : Int) (hl : l.length ≤ 140737488355328) : PCall Try.prog 24 [.dat (.list (l.map Id.enc)), dInt e, dInt w, .dat (.list (want.map Id.enc))] (dBool (e == w && sameIds l (if w = 0 then want else []))) := by
  refine pcall_intro tab_all tab_mixed Try.func24 (by kernel_rfl) Try.ntmps24 rfl ?_
  conv => whnf
  refine ⟨fun h1 => ?_, fun h1 => ?_⟩
  · have h1 : w ≠ 0 := by simpa using h1
    conv => whnf
    repeat (first | (refine Conf.mk (by kernel_rfl) ?_; conv => whnf) | (refine SeqOk.go ?_; conv => whnf))
    refine ⟨fun h2 => ?_, fun h2 => ?_⟩
    · conv => whnf
      repeat (first | (refine Conf.mk (by kernel_rfl) ?_; conv => whnf) | (refine SeqOk.go ?_; conv => whnf))
      refine .look _ _ (sameIds_ok l [] hl) rfl rfl ?_
      conv => whnf
      repeat (first | (refine Conf.mk (by kernel_rfl) ?_; conv => whnf) | (refine SeqOk.go ?_; conv => whnf))
      exact Ret.bool (by rw [h2, if_neg h1, Bool.true_and])
    · conv => whnf
      repeat (first | (refine Conf.mk (by kernel_rfl) ?_; conv => whnf) | (refine SeqOk.go ?_; conv => whnf))
      exact Ret.bool (by rw [h2]; rfl)
  · have h1 : w = 0 := by simpa using h1
    conv => whnf
    repeat (first | (refine Conf.mk (by kernel_rfl) ?_; conv => whnf) | (refine SeqOk.go ?_; conv => whnf))
    refine ⟨fun h2 => ?_, fun h2 => ?_⟩
    · conv => whnf
      repeat (first | (refine Conf.mk (by kernel_rfl) ?_; conv => whnf) | (refine SeqOk.go ?_; conv => whnf))
      refine .look _ _ (sameIds_ok l want hl) rfl rfl ?_
      conv => whnf
      repeat (first | (refine Conf.mk (by kernel_rfl) ?_; conv => whnf) | (refine SeqOk.go ?_; conv => whnf))
      exact Ret.bool (by rw [h2, if_pos h1, Bool.true_and])
    · conv => whnf
      repeat (first | (refine Conf.mk (by kernel_rfl) ?_; conv => whnf) | (refine SeqOk.go ?_; conv => whnf))
      exact Ret.bool (by rw [h2]; rfl)
end Go.Proofs.Ytlioojekjnigiac.AM
/- Logs: what the document says of them, called. -/
namespace Go.Proofs.Ytlioojekjnigiac.AM
set_option linter.unusedVariables false
set_option linter.unusedSimpArgs false

theorem SeqOk.cut' {N : Nat} {a b : (X → St → Prop) → St → Prop} {Q : X → St → Prop} {s : St} (s1 : St) (ha : a (fun e s' => match e with
      | .normal => Into N s' fun s2 => s2 = s1
      | .exit id => Q (.exit id) s'
      | .ret => Q .ret s') s) (hb : b Q s1) : SeqOk N a b Q s := .cut (fun s2 => s2 = s1) ha fun s2 h => by rw [h]; exact hb
set_option maxHeartbeats 0 in
theorem dagTells_ok (l : List Entry') (hl : LogOk l) (x : Id) (c : Int) : PCall Try.prog 4 [.dat (.list (l.map Entry'.enc)), x.arg, dInt c] (dBool true) := by
  have hlp : (pastAns l x).length ≤ 1000 := by
    unfold pastAns
    split
    · rename_i h
      have hr := (pastErr_ok h).1
      have := pastFold_len (isThe x) fun e he => hr.six he
      have := hr.len
      unfold pastOfId
      rw [sortIds_len]
      omega
    · simp
  have hlh : (headsAns l c).length ≤ 1000 := by
    unfold headsAns
    split
    · rename_i h
      have hr := (colErr_ok h).1
      unfold headsOf headIds
      rw [sortIds_len, List.length_map]
      exact Nat.le_trans (List.length_filter_le _ _) (Nat.le_trans hr.len (by decide))
    · simp
  refine pcall_cut tab_all tab_mixed Try.func4 (by kernel_rfl) Try.ntmps4 rfl ?_
  conv => whnf
  refine .data _ _ (past_ok l hl x) rfl ?_
  conv => whnf
  refine .data _ _ (heads_ok l hl c) rfl ?_
  conv => whnf
  refine .data _ _ (Count_ok l hl) rfl ?_
  conv => whnf
  refine .data _ _ (checkLog_ok l hl) rfl ?_
  conv => whnf
  refine SeqOk.cut' ⟨[(0, .dat (.list (l.map Entry'.enc))), (13, dInt (logErr l)), (7, .dat (.list ((pastAns l x).map Id.enc))), (8, dInt (pastErr l x)), (14, dInt (pastErr l x)), (16, .dat (.list ((pastAns l x).map Id.enc))), (9, .dat (.list ((headsAns l c).map Id.enc))), (10, dInt (colErr l c)), (15, dInt (colErr l c)), (17, .dat (.list ((headsAns l c).map Id.enc))), (12, dInt (logErr l)), (11, .ptr 0 0), (18, .ptr 1 0)], 2, [(0, .vars 23 2 [dInt (cntv 0 l), dInt (cntv 1 l)] true), (1, .vars 23 2 [dInt (cntv 0 l), dInt (cntv 1 l)] true)]⟩ ?_ ?_
  · conv => whnf
    refine ⟨fun h => ?_, fun h => ?_⟩
    · have h : logErr l = 0 := by simpa using h
      have hr := right_iff.1 h
      have hv0 : cntv 0 l = cnt 0 l := by unfold cntv; rw [if_pos h]
      have hv1 : cntv 1 l = cnt 1 l := by unfold cntv; rw [if_pos h]
      conv => whnf
      refine .data _ _ (countOf_ok l hl.len hr.regs) rfl ?_
      conv => whnf
      refine .look _ _ (entryAt_ok x l hl.len) rfl rfl ?_
      conv => whnf
      refine SeqOk.cut' ⟨[(0, .dat (.list (l.map Entry'.enc))), (2, dInt c), (13, dInt (logErr l)), (7, .dat (.list ((pastAns l x).map Id.enc))), (8, dInt (pastErr l x)), (14, dInt (pastErr l x)), (16, .dat (.list ((pastAns l x).map Id.enc))), (9, .dat (.list ((headsAns l c).map Id.enc))), (10, dInt (colErr l c)), (15, dInt (logErr l)), (17, .nil), (12, dInt (logErr l)), (11, .ptr 0 0), (18, .ptr 1 0)], 2, [(0, .vars 23 2 [dInt (cntv 0 l), dInt (cntv 1 l)] true), (1, .vars 23 2 [dInt (cntv 0 l), dInt (cntv 1 l)] true)]⟩ ?_ ?_
      · conv => whnf
        refine ⟨fun h2 => ?_, fun h2 => ?_⟩
        · have h2 : l.any (isThe x) = false := by
            rw [Bool.eq_false_iff]
            intro k
            have := entryAt_iff.2 k
            simp at h2
            omega
          have hw : pastErr l x = 5 := by unfold pastErr; rw [if_pos h, h2]; rfl
          have hpa : pastAns l x = [] := by unfold pastAns; rw [hw]; rfl
          have hq : pureA (still noG) 6 .nil = some (.dat (.list ((pastAns l x).map Id.enc))) := by rw [hpa]; rfl
          conv => whnf
          exact Into.to [1, 2] [(0, .dat (.list (l.map Entry'.enc))), (2, dInt c), (13, dInt (logErr l)), (7, .dat (.list ((pastAns l x).map Id.enc))), (8, dInt (pastErr l x)), (14, dInt (pastErr l x)), (16, .dat (.list ((pastAns l x).map Id.enc))), (9, .dat (.list ((headsAns l c).map Id.enc))), (10, dInt (colErr l c)), (15, dInt (logErr l)), (17, .nil), (12, dInt (logErr l)), (11, .ptr 0 0), (18, .ptr 1 0)] [(0, .vars 23 2 [dInt (cntv 0 l), dInt (cntv 1 l)] true), (1, .vars 23 2 [dInt (cntv 0 l), dInt (cntv 1 l)] true)] ⟨.same rfl, .same rfl, .same rfl, .same rfl, .same rfl, .same (congrArg dInt hw), (by first | exact .same hq | exact .data hq), .same rfl, .same rfl, .same rfl, .same rfl, .same rfl, .same rfl, .same rfl, trivial⟩ ⟨⟨rfl, rfl, rfl, .same rfl, rfl, .same rfl, rfl, trivial⟩, ⟨rfl, rfl, rfl, .same (congrArg dInt hv0), rfl, .same (congrArg dInt hv1), rfl, trivial⟩, trivial⟩ rfl rfl
        · have h2 : l.any (isThe x) = true := entryAt_iff.1 (by simpa using h2)
          have hw : pastErr l x = logErr l := by unfold pastErr; rw [if_pos h, if_pos h2, h]
          have hpa : pastAns l x = pastOfId l x := by unfold pastAns; rw [hw, h]; rfl
          obtain ⟨i, hi⟩ : ∃ i, idx l x = some i := Option.isSome_iff_exists.1 (idxOf_nonneg.1 (entryAt_iff.2 h2))
          obtain ⟨hil, hix⟩ := idx_some hi
          have hat : entryAt l x = (i : Int) := by rw [entryAt_eq, hi]; rfl
          have hq : AVal.dat (.list ((pastAns l x).map Id.enc)) = .dat (.list ((rising l (pastBs l i)).map Id.enc)) := by rw [hpa, rising_past hr hil, hix]
          have hpb := pastOfB_ok l hr i hil
          rw [← hat] at hpb
          conv => whnf
          refine .data _ _ hpb rfl ?_
          conv => whnf
          refine .data _ _ (rising_ok l hr.len (pastBs l i) (by rw [pastBs, pastB_length])) rfl ?_
          conv => whnf
          exact Into.to [1, 2] [(0, .dat (.list (l.map Entry'.enc))), (2, dInt c), (13, dInt (logErr l)), (7, .dat (.list ((pastAns l x).map Id.enc))), (8, dInt (pastErr l x)), (14, dInt (pastErr l x)), (16, .dat (.list ((pastAns l x).map Id.enc))), (9, .dat (.list ((headsAns l c).map Id.enc))), (10, dInt (colErr l c)), (15, dInt (logErr l)), (17, .nil), (12, dInt (logErr l)), (11, .ptr 0 0), (18, .ptr 1 0)] [(0, .vars 23 2 [dInt (cntv 0 l), dInt (cntv 1 l)] true), (1, .vars 23 2 [dInt (cntv 0 l), dInt (cntv 1 l)] true)] ⟨.same rfl, .same rfl, .same rfl, .same rfl, .same rfl, .same (congrArg dInt hw), (by first | exact .same hq | exact .data hq), .same rfl, .same rfl, .same rfl, .same rfl, .same rfl, .same rfl, .same rfl, trivial⟩ ⟨⟨rfl, rfl, rfl, .same rfl, rfl, .same rfl, rfl, trivial⟩, ⟨rfl, rfl, rfl, .same (congrArg dInt hv0), rfl, .same (congrArg dInt hv1), rfl, trivial⟩, trivial⟩ rfl rfl
      · conv => whnf
        refine ⟨fun h2 => ?_, fun h2 => ?_⟩
        · have hc : c < 1 ∨ 7 < c := .inl (by simpa using h2)
          have hy : colErr l c = 3 := by unfold colErr; rw [if_pos h, if_pos hc]
          have hha : headsAns l c = [] := by unfold headsAns; rw [hy]; rfl
          have hz : pureA (still noG) 6 .nil = some (.dat (.list ((headsAns l c).map Id.enc))) := by rw [hha]; rfl
          have hw : pastErr l x = pastErr l x := rfl
          have hq : AVal.dat (.list ((pastAns l x).map Id.enc)) = .dat (.list ((pastAns l x).map Id.enc)) := rfl
          have hv0 : cntv 0 l = cntv 0 l := rfl
          have hv1 : cntv 1 l = cntv 1 l := rfl
          conv => whnf
          exact Into.to [0, 1] [(0, .dat (.list (l.map Entry'.enc))), (13, dInt (logErr l)), (7, .dat (.list ((pastAns l x).map Id.enc))), (8, dInt (pastErr l x)), (14, dInt (pastErr l x)), (16, .dat (.list ((pastAns l x).map Id.enc))), (9, .dat (.list ((headsAns l c).map Id.enc))), (10, dInt (colErr l c)), (15, dInt (colErr l c)), (17, .dat (.list ((headsAns l c).map Id.enc))), (12, dInt (logErr l)), (11, .ptr 0 0), (18, .ptr 1 0)] [(0, .vars 23 2 [dInt (cntv 0 l), dInt (cntv 1 l)] true), (1, .vars 23 2 [dInt (cntv 0 l), dInt (cntv 1 l)] true)] ⟨.same rfl, .same rfl, .same rfl, .same rfl, .same rfl, .same rfl, .same rfl, .same rfl, .same (congrArg dInt hy), (by first | exact .same hz | exact .data hz), .same rfl, .same rfl, .same rfl, trivial⟩ ⟨⟨rfl, rfl, rfl, .same rfl, rfl, .same rfl, rfl, trivial⟩, ⟨rfl, rfl, rfl, .same (congrArg dInt hv0), rfl, .same (congrArg dInt hv1), rfl, trivial⟩, trivial⟩ rfl rfl
        · have h2 : ¬ c < 1 := by simpa using h2
          conv => whnf
          refine ⟨fun h3 => ?_, fun h3 => ?_⟩
          · have hc : c < 1 ∨ 7 < c := .inr (by simpa using h3)
            have hy : colErr l c = 3 := by unfold colErr; rw [if_pos h, if_pos hc]
            have hha : headsAns l c = [] := by unfold headsAns; rw [hy]; rfl
            have hz : pureA (still noG) 6 .nil = some (.dat (.list ((headsAns l c).map Id.enc))) := by rw [hha]; rfl
            have hw : pastErr l x = pastErr l x := rfl
            have hq : AVal.dat (.list ((pastAns l x).map Id.enc)) = .dat (.list ((pastAns l x).map Id.enc)) := rfl
            have hv0 : cntv 0 l = cntv 0 l := rfl
            have hv1 : cntv 1 l = cntv 1 l := rfl
            conv => whnf
            exact Into.to [0, 1] [(0, .dat (.list (l.map Entry'.enc))), (13, dInt (logErr l)), (7, .dat (.list ((pastAns l x).map Id.enc))), (8, dInt (pastErr l x)), (14, dInt (pastErr l x)), (16, .dat (.list ((pastAns l x).map Id.enc))), (9, .dat (.list ((headsAns l c).map Id.enc))), (10, dInt (colErr l c)), (15, dInt (colErr l c)), (17, .dat (.list ((headsAns l c).map Id.enc))), (12, dInt (logErr l)), (11, .ptr 0 0), (18, .ptr 1 0)] [(0, .vars 23 2 [dInt (cntv 0 l), dInt (cntv 1 l)] true), (1, .vars 23 2 [dInt (cntv 0 l), dInt (cntv 1 l)] true)] ⟨.same rfl, .same rfl, .same rfl, .same rfl, .same rfl, .same rfl, .same rfl, .same rfl, .same (congrArg dInt hy), (by first | exact .same hz | exact .data hz), .same rfl, .same rfl, .same rfl, trivial⟩ ⟨⟨rfl, rfl, rfl, .same rfl, rfl, .same rfl, rfl, trivial⟩, ⟨rfl, rfl, rfl, .same (congrArg dInt hv0), rfl, .same (congrArg dInt hv1), rfl, trivial⟩, trivial⟩ rfl rfl
          · have h3 : ¬ 7 < c := by simpa using h3
            have hy : colErr l c = logErr l := by unfold colErr; rw [if_pos h, if_neg (by omega), h]
            have hha : headsAns l c = headsOf c l := by unfold headsAns; rw [hy, h]; rfl
            have hz : AVal.dat (.list ((headsAns l c).map Id.enc)) = .dat (.list ((headsOf c l).map Id.enc)) := by rw [hha]
            have hw : pastErr l x = pastErr l x := rfl
            have hq : AVal.dat (.list ((pastAns l x).map Id.enc)) = .dat (.list ((pastAns l x).map Id.enc)) := rfl
            have hv0 : cntv 0 l = cntv 0 l := rfl
            have hv1 : cntv 1 l = cntv 1 l := rfl
            conv => whnf
            refine .data _ _ (headsOf_ok l hr c (by omega)) rfl ?_
            conv => whnf
            exact Into.to [0, 1] [(0, .dat (.list (l.map Entry'.enc))), (13, dInt (logErr l)), (7, .dat (.list ((pastAns l x).map Id.enc))), (8, dInt (pastErr l x)), (14, dInt (pastErr l x)), (16, .dat (.list ((pastAns l x).map Id.enc))), (9, .dat (.list ((headsAns l c).map Id.enc))), (10, dInt (colErr l c)), (15, dInt (colErr l c)), (17, .dat (.list ((headsAns l c).map Id.enc))), (12, dInt (logErr l)), (11, .ptr 0 0), (18, .ptr 1 0)] [(0, .vars 23 2 [dInt (cntv 0 l), dInt (cntv 1 l)] true), (1, .vars 23 2 [dInt (cntv 0 l), dInt (cntv 1 l)] true)] ⟨.same rfl, .same rfl, .same rfl, .same rfl, .same rfl, .same rfl, .same rfl, .same rfl, .same (congrArg dInt hy), (by first | exact .same hz | exact .data hz), .same rfl, .same rfl, .same rfl, trivial⟩ ⟨⟨rfl, rfl, rfl, .same rfl, rfl, .same rfl, rfl, trivial⟩, ⟨rfl, rfl, rfl, .same (congrArg dInt hv0), rfl, .same (congrArg dInt hv1), rfl, trivial⟩, trivial⟩ rfl rfl
    · have h : logErr l ≠ 0 := by simpa using h
      have hw : pastErr l x = logErr l := by unfold pastErr; rw [if_neg h]
      have hy : colErr l c = logErr l := by unfold colErr; rw [if_neg h]
      have hpa : pastAns l x = [] := by unfold pastAns; rw [hw, if_neg h]
      have hha : headsAns l c = [] := by unfold headsAns; rw [hy, if_neg h]
      have hv0 : cntv 0 l = 0 := by unfold cntv; rw [if_neg h]
      have hv1 : cntv 1 l = 0 := by unfold cntv; rw [if_neg h]
      have hq : pureA (still noG) 6 .nil = some (.dat (.list ((pastAns l x).map Id.enc))) := by rw [hpa]; rfl
      have hz : pureA (still noG) 6 .nil = some (.dat (.list ((headsAns l c).map Id.enc))) := by rw [hha]; rfl
      conv => whnf
      exact Into.to [1, 2] [(0, .dat (.list (l.map Entry'.enc))), (13, dInt (logErr l)), (7, .dat (.list ((pastAns l x).map Id.enc))), (8, dInt (pastErr l x)), (14, dInt (pastErr l x)), (16, .dat (.list ((pastAns l x).map Id.enc))), (9, .dat (.list ((headsAns l c).map Id.enc))), (10, dInt (colErr l c)), (15, dInt (colErr l c)), (17, .dat (.list ((headsAns l c).map Id.enc))), (12, dInt (logErr l)), (11, .ptr 0 0), (18, .ptr 1 0)] [(0, .vars 23 2 [dInt (cntv 0 l), dInt (cntv 1 l)] true), (1, .vars 23 2 [dInt (cntv 0 l), dInt (cntv 1 l)] true)] ⟨.same rfl, .same rfl, .same rfl, .same rfl, .same (congrArg dInt hw), (by first | exact .same hq | exact .data hq), .same rfl, .same rfl, .same (congrArg dInt hy), (by first | exact .same hz | exact .data hz), .same rfl, .same rfl, .same rfl, trivial⟩ ⟨⟨rfl, rfl, rfl, .same rfl, rfl, .same rfl, rfl, trivial⟩, ⟨rfl, rfl, rfl, .same (congrArg dInt hv0), rfl, .same (congrArg dInt hv1), rfl, trivial⟩, trivial⟩ rfl rfl
  · have hpI := (idsAre_ok (pastAns l x) (pastAns l x) (pastErr l x) (pastErr l x) (by omega)).kb
    have hhI := (idsAre_ok (headsAns l c) (headsAns l c) (colErr l c) (colErr l c) (by omega)).kb
    have e1 : (pastErr l x == pastErr l x && sameIds (pastAns l x) (if pastErr l x = 0 then pastAns l x else [])) = true := by
      rw [beq_self_eq_true, Bool.true_and, sameIds_iff]
      unfold pastAns
      split <;> rfl
    have e2 : (colErr l c == colErr l c && sameIds (headsAns l c) (if colErr l c = 0 then headsAns l c else [])) = true := by
      rw [beq_self_eq_true, Bool.true_and, sameIds_iff]
      unfold headsAns
      split <;> rfl
    rw [e1] at hpI
    rw [e2] at hhI
    conv => whnf
    refine .data _ _ dagBegun_ok.kb rfl ?_
    conv => whnf
    refine .data _ _ (dagCheck_ok l hl) rfl ?_
    conv => whnf
    refine BoolCase.yes (beq_self_eq_true _) ?_
    conv => whnf
    refine .data _ _ hpI rfl ?_
    conv => whnf
    refine .data _ _ hhI rfl ?_
    conv => whnf
    refine BoolCase.yes (beq_self_eq_true _) ?_
    conv => whnf
    exact Ret.bool (by simp)
end Go.Proofs.Ytlioojekjnigiac.AM
/- Logs: pasts of what is past. -/
namespace Go.Proofs.Ytlioojekjnigiac.AM
set_option linter.unusedVariables false
set_option linter.unusedSimpArgs false

theorem past_in {l : List Entry'} (hr : Right l) {x : Id} (h : ∃ e ∈ l, e.id = x) : PCall Try.prog 13 [.dat (.list (l.map Entry'.enc)), x.arg] (.tup [.dat (.list ((pastOfId l x).map Id.enc)), dInt 0]) := by
  have he : pastErr l x = 0 := by unfold pastErr; rw [if_pos (right_iff.2 hr), if_pos (any_isThe.2 h)]
  have ha : pastAns l x = pastOfId l x := by unfold pastAns; rw [if_pos he]
  have := past_ok l hr.logOk x
  rwa [he, ha] at this
theorem pastOfId_len {l : List Entry'} (hr : Right l) (x : Id) : (pastOfId l x).length ≤ 240 := by
  have := pastFold_len (isThe x) fun e he => hr.six he
  have := hr.len
  unfold pastOfId
  rw [sortIds_len]
  omega
theorem checkRight {l : List Entry'} (hr : Right l) : PCall Try.prog 23 [.dat (.list (l.map Entry'.enc))] (dInt 0) := by
  have := dagCheck_ok l hr.logOk
  rwa [right_iff.2 hr] at this
theorem lt_of_cast {i n : Nat} (h : decide ((i : Int) < (n : Int)) = true) : i < n := by simpa using h
theorem ge_of_cast {i n : Nat} (h : decide ((i : Int) < (n : Int)) = false) : n ≤ i := by simpa using h
theorem lt_of_len {α : Type} {enc : α → List D} {l : List α} {i : Nat} (h : decide ((i : Int) < ((l.map enc).length : Int)) = true) : i < l.length := by simpa using h
theorem ge_of_len {α : Type} {enc : α → List D} {l : List α} {i : Nat} (h : decide ((i : Int) < ((l.map enc).length : Int)) = false) : l.length ≤ i := by simpa using h
set_option maxHeartbeats 0 in
theorem dagPast_ok (l : List Entry') (hl : LogOk l) : PCall Try.prog 5 [.dat (.list (l.map Entry'.enc))] (dBool true) := by
  refine pcall_cut tab_all tab_mixed Try.func5 (by kernel_rfl) Try.ntmps5 rfl ?_
  conv => whnf
  conv => whnf
  repeat (first | (refine Conf.mk (by kernel_rfl) ?_; conv => whnf) | (refine SeqOk.go ?_; conv => whnf))
  refine .data _ _ dagBegun_ok.kb rfl ?_
  conv => whnf
  repeat (first | (refine Conf.mk (by kernel_rfl) ?_; conv => whnf) | (refine SeqOk.go ?_; conv => whnf))
  refine .data _ _ (dagCheck_ok l hl) rfl ?_
  conv => whnf
  repeat (first | (refine Conf.mk (by kernel_rfl) ?_; conv => whnf) | (refine SeqOk.go ?_; conv => whnf))
  by_cases h0 : logErr l = 0
  · refine BoolCase.no (by rw [h0]; rfl) ?_
    have hr := right_iff.1 h0
    have hlen := hr.len
    conv => whnf
    refine SeqOk.cut' ⟨[], 0, []⟩ ?_ ?_
    · conv => whnf
      refine LoopOk.mk (fun m s => ∃ i, i + m = l.length ∧ s = ⟨[(3, dInt i), (0, .dat (.list (l.map Entry'.enc)))], 0, []⟩) l.length (Into.mono (Into.to [] [(3, dInt (0 : Nat)), (0, .dat (.list (l.map Entry'.enc)))] [] (by repeat (first | exact trivial | refine ⟨.same (congrArg dInt (wrap_up (by omega))), ?_⟩ | refine ⟨.same rfl, ?_⟩ | refine ⟨.any _, ?_⟩)) trivial rfl rfl) fun s' h => ⟨0, by omega, h⟩) ?_
      rintro m s ⟨i, hi, rfl⟩
      conv => whnf
      repeat (first | (refine Conf.mk (by kernel_rfl) ?_; conv => whnf) | (refine SeqOk.go ?_; conv => whnf))
      refine ⟨fun h => ?_, fun h => ?_⟩
      · have hi' := lt_of_len h
        have hil := List.getElem_mem hi'
        have hpl := pastOfId_len hr l[i].id
        conv => whnf
        repeat (first | (refine Conf.mk (by kernel_rfl) ?_; conv => whnf) | (refine SeqOk.go ?_; conv => whnf))
        refine AtIdx.ofMap hi' rfl ?_
        conv => whnf
        repeat (first | (refine Conf.mk (by kernel_rfl) ?_; conv => whnf) | (refine SeqOk.go ?_; conv => whnf))
        refine .data _ _ (past_in hr ⟨_, hil, rfl⟩) rfl ?_
        conv => whnf
        repeat (first | (refine Conf.mk (by kernel_rfl) ?_; conv => whnf) | (refine SeqOk.go ?_; conv => whnf))
        refine BoolCase.no rfl ?_
        conv => whnf
        repeat (first | (refine Conf.mk (by kernel_rfl) ?_; conv => whnf) | (refine SeqOk.go ?_; conv => whnf))
        refine AtIdx.ofMap hi' rfl ?_
        conv => whnf
        repeat (first | (refine Conf.mk (by kernel_rfl) ?_; conv => whnf) | (refine SeqOk.go ?_; conv => whnf))
        refine .data _ _ (hasId_ok l[i].id (pastOfId l l[i].id) (by omega)) rfl ?_
        conv => whnf
        repeat (first | (refine Conf.mk (by kernel_rfl) ?_; conv => whnf) | (refine SeqOk.go ?_; conv => whnf))
        have hno : hasId (pastOfId l l[i].id) l[i].id = false := by
          rw [Bool.eq_false_iff]
          exact fun k => ((mem_pastOfId hr).1 (hasId_iff.1 k)).irrefl hr
        refine BoolCase.no hno ?_
        conv => whnf
        refine SeqOk.cut' ⟨[(3, dInt i), (0, .dat (.list (l.map Entry'.enc))), (4, .dat (.list ((pastOfId l l[i].id).map Id.enc)))], 0, []⟩ ?_ ?_
        · conv => whnf
          refine LoopOk.mk (fun m s => ∃ k, k + m = l[i].links.length ∧ s = ⟨[(6, dInt k), (3, dInt i), (0, .dat (.list (l.map Entry'.enc))), (4, .dat (.list ((pastOfId l l[i].id).map Id.enc)))], 0, []⟩) l[i].links.length (Into.mono (Into.to [] [(6, dInt (0 : Nat)), (3, dInt i), (0, .dat (.list (l.map Entry'.enc))), (4, .dat (.list ((pastOfId l l[i].id).map Id.enc)))] [] (by repeat (first | exact trivial | refine ⟨.same (congrArg dInt (wrap_up (by omega))), ?_⟩ | refine ⟨.same rfl, ?_⟩ | refine ⟨.any _, ?_⟩)) trivial rfl rfl) fun s' h => ⟨0, by omega, h⟩) ?_
          rintro m' s ⟨k, hk, rfl⟩
          conv => whnf
          repeat (first | (refine Conf.mk (by kernel_rfl) ?_; conv => whnf) | (refine SeqOk.go ?_; conv => whnf))
          refine AtIdx.ofMap hi' rfl ?_
          conv => whnf
          repeat (first | (refine Conf.mk (by kernel_rfl) ?_; conv => whnf) | (refine SeqOk.go ?_; conv => whnf))
          refine ⟨fun h2 => ?_, fun h2 => ?_⟩
          · have hk' := lt_of_len h2
            have h6 := hr.six hil
            conv => whnf
            repeat (first | (refine Conf.mk (by kernel_rfl) ?_; conv => whnf) | (refine SeqOk.go ?_; conv => whnf))
            refine AtIdx.ofMap hi' rfl ?_
            conv => whnf
            repeat (first | (refine Conf.mk (by kernel_rfl) ?_; conv => whnf) | (refine SeqOk.go ?_; conv => whnf))
            refine AtIdx.ofMap hk' rfl ?_
            conv => whnf
            repeat (first | (refine Conf.mk (by kernel_rfl) ?_; conv => whnf) | (refine SeqOk.go ?_; conv => whnf))
            have hyes : hasId (pastOfId l l[i].id) l[i].links[k] = true := hasId_iff.2 ((mem_pastOfId hr).2 (.link hil (List.getElem_mem hk')))
            have hc := (hasId_ok l[i].links[k] (pastOfId l l[i].id) (by omega)).kb
            rw [hyes] at hc
            refine .data _ _ hc rfl ?_
            conv => whnf
            repeat (first | (refine Conf.mk (by kernel_rfl) ?_; conv => whnf) | (refine SeqOk.go ?_; conv => whnf))
            exact Into.mono (Into.to [] [(6, dInt (k + 1 : Nat)), (3, dInt i), (0, .dat (.list (l.map Entry'.enc))), (4, .dat (.list ((pastOfId l l[i].id).map Id.enc)))] [] (by repeat (first | exact trivial | refine ⟨.same (congrArg dInt (wrap_up (by omega))), ?_⟩ | refine ⟨.same rfl, ?_⟩ | refine ⟨.any _, ?_⟩)) trivial rfl rfl) fun s' h => ⟨m' - 1, by omega, k + 1, by omega, h⟩
          · have hk' := ge_of_len h2
            conv => whnf
            repeat (first | (refine Conf.mk (by kernel_rfl) ?_; conv => whnf) | (refine SeqOk.go ?_; conv => whnf))
            exact Into.to [] [(3, dInt i), (0, .dat (.list (l.map Entry'.enc))), (4, .dat (.list ((pastOfId l l[i].id).map Id.enc)))] [] (by repeat (first | exact trivial | refine ⟨.same (congrArg dInt (wrap_up (by omega))), ?_⟩ | refine ⟨.same rfl, ?_⟩ | refine ⟨.any _, ?_⟩)) trivial rfl rfl
        · conv => whnf
          refine LoopOk.hide fun Q1 hQ1 => ?_
          refine LoopOk.mk (fun m s => ∃ k, k + m = (pastOfId l l[i].id).length ∧ s = ⟨[(7, dInt k), (3, dInt i), (0, .dat (.list (l.map Entry'.enc))), (4, .dat (.list ((pastOfId l l[i].id).map Id.enc)))], 0, []⟩) (pastOfId l l[i].id).length (Into.mono (Into.to [] [(7, dInt (0 : Nat)), (3, dInt i), (0, .dat (.list (l.map Entry'.enc))), (4, .dat (.list ((pastOfId l l[i].id).map Id.enc)))] [] (by repeat (first | exact trivial | refine ⟨.same (congrArg dInt (wrap_up (by omega))), ?_⟩ | refine ⟨.same rfl, ?_⟩ | refine ⟨.any _, ?_⟩)) trivial rfl rfl) fun s' h => ⟨0, by omega, h⟩) ?_
          rintro m' s ⟨k, hk, rfl⟩
          conv => whnf
          repeat (first | (refine Conf.mk (by kernel_rfl) ?_; conv => whnf) | (refine SeqOk.go ?_; conv => whnf))
          refine ⟨fun h2 => ?_, fun h2 => ?_⟩
          · have hk' := lt_of_len h2
            have hanc : Anc l l[i].id (pastOfId l l[i].id)[k] := (mem_pastOfId hr).1 (List.getElem_mem hk')
            have hpl2 := pastOfId_len hr (pastOfId l l[i].id)[k]
            obtain ⟨j, hj, hji, hje, _⟩ := hanc.ahead hr i hi' rfl
            conv => whnf
            repeat (first | (refine Conf.mk (by kernel_rfl) ?_; conv => whnf) | (refine SeqOk.go ?_; conv => whnf))
            refine AtIdx.ofMap hk' rfl ?_
            conv => whnf
            repeat (first | (refine Conf.mk (by kernel_rfl) ?_; conv => whnf) | (refine SeqOk.go ?_; conv => whnf))
            refine .data _ _ (past_in hr (hanc.right hr)) rfl ?_
            conv => whnf
            repeat (first | (refine Conf.mk (by kernel_rfl) ?_; conv => whnf) | (refine SeqOk.go ?_; conv => whnf))
            refine BoolCase.no rfl ?_
            conv => whnf
            repeat (first | (refine Conf.mk (by kernel_rfl) ?_; conv => whnf) | (refine SeqOk.go ?_; conv => whnf))
            refine .mk 0 i rfl rfl (Nat.zero_le _) (by simp; omega) ?_
            rw [fits_take]
            conv => whnf
            repeat (first | (refine Conf.mk (by kernel_rfl) ?_; conv => whnf) | (refine SeqOk.go ?_; conv => whnf))
            refine AtIdx.ofMap hk' rfl ?_
            conv => whnf
            repeat (first | (refine Conf.mk (by kernel_rfl) ?_; conv => whnf) | (refine SeqOk.go ?_; conv => whnf))
            have hth : (l.take i).any (isThe (pastOfId l l[i].id)[k]) = true := any_isThe.2 ⟨l[j], List.mem_take_iff_getElem.2 ⟨j, by omega, rfl⟩, hje⟩
            have hge := entryAt_iff.2 hth
            refine .data _ _ (entryAt_ok (pastOfId l l[i].id)[k] (l.take i) (hl.take i).len) rfl ?_
            conv => whnf
            repeat (first | (refine Conf.mk (by kernel_rfl) ?_; conv => whnf) | (refine SeqOk.go ?_; conv => whnf))
            refine BoolCase.no (by simp; omega) ?_
            conv => whnf
            refine LoopOk.hide fun Q2 hQ2 => ?_
            refine LoopOk.mk (fun m s => ∃ n, n + m = (pastOfId l (pastOfId l l[i].id)[k]).length ∧ s = ⟨[(10, dInt n), (8, .dat (.list ((pastOfId l (pastOfId l l[i].id)[k]).map Id.enc))), (7, dInt k), (3, dInt i), (0, .dat (.list (l.map Entry'.enc))), (4, .dat (.list ((pastOfId l l[i].id).map Id.enc)))], 0, []⟩) (pastOfId l (pastOfId l l[i].id)[k]).length (Into.mono (Into.to [] [(10, dInt (0 : Nat)), (8, .dat (.list ((pastOfId l (pastOfId l l[i].id)[k]).map Id.enc))), (7, dInt k), (3, dInt i), (0, .dat (.list (l.map Entry'.enc))), (4, .dat (.list ((pastOfId l l[i].id).map Id.enc)))] [] (by repeat (first | exact trivial | refine ⟨.same (congrArg dInt (wrap_up (by omega))), ?_⟩ | refine ⟨.same rfl, ?_⟩ | refine ⟨.any _, ?_⟩)) trivial rfl rfl) fun s' h => ⟨0, by omega, h⟩) ?_
            rintro m2 s ⟨n, hn, rfl⟩
            conv => whnf
            repeat (first | (refine Conf.mk (by kernel_rfl) ?_; conv => whnf) | (refine SeqOk.go ?_; conv => whnf))
            refine ⟨fun h3 => ?_, fun h3 => ?_⟩
            · have hn' := lt_of_len h3
              conv => whnf
              repeat (first | (refine Conf.mk (by kernel_rfl) ?_; conv => whnf) | (refine SeqOk.go ?_; conv => whnf))
              refine AtIdx.ofMap hn' rfl ?_
              conv => whnf
              repeat (first | (refine Conf.mk (by kernel_rfl) ?_; conv => whnf) | (refine SeqOk.go ?_; conv => whnf))
              have hyes : hasId (pastOfId l l[i].id) (pastOfId l (pastOfId l l[i].id)[k])[n] = true := hasId_iff.2 ((mem_pastOfId hr).2 (hanc.trans ((mem_pastOfId hr).1 (List.getElem_mem hn'))))
              have hc := (hasId_ok (pastOfId l (pastOfId l l[i].id)[k])[n] (pastOfId l l[i].id) (by omega)).kb
              rw [hyes] at hc
              refine .data _ _ hc rfl ?_
              conv => whnf
              repeat (first | (refine Conf.mk (by kernel_rfl) ?_; conv => whnf) | (refine SeqOk.go ?_; conv => whnf))
              exact Into.mono (Into.to [] [(10, dInt (n + 1 : Nat)), (8, .dat (.list ((pastOfId l (pastOfId l l[i].id)[k]).map Id.enc))), (7, dInt k), (3, dInt i), (0, .dat (.list (l.map Entry'.enc))), (4, .dat (.list ((pastOfId l l[i].id).map Id.enc)))] [] (by repeat (first | exact trivial | refine ⟨.same (congrArg dInt (wrap_up (by omega))), ?_⟩ | refine ⟨.same rfl, ?_⟩ | refine ⟨.any _, ?_⟩)) trivial rfl rfl) fun s' h => ⟨m2 - 1, by omega, n + 1, by omega, h⟩
            · conv => whnf
              repeat (first | (refine Conf.mk (by kernel_rfl) ?_; conv => whnf) | (refine SeqOk.go ?_; conv => whnf))
              subst hQ2
              conv => whnf
              exact Into.mono (Into.to [] [(7, dInt (k + 1 : Nat)), (3, dInt i), (0, .dat (.list (l.map Entry'.enc))), (4, .dat (.list ((pastOfId l l[i].id).map Id.enc)))] [] (by repeat (first | exact trivial | refine ⟨.same (congrArg dInt (wrap_up (by omega))), ?_⟩ | refine ⟨.same rfl, ?_⟩ | refine ⟨.any _, ?_⟩)) trivial rfl rfl) fun s' h => ⟨m' - 1, by omega, k + 1, by omega, h⟩
          · conv => whnf
            repeat (first | (refine Conf.mk (by kernel_rfl) ?_; conv => whnf) | (refine SeqOk.go ?_; conv => whnf))
            subst hQ1
            conv => whnf
            exact Into.mono (Into.to [] [(3, dInt (i + 1 : Nat)), (0, .dat (.list (l.map Entry'.enc)))] [] (by repeat (first | exact trivial | refine ⟨.same (congrArg dInt (wrap_up (by omega))), ?_⟩ | refine ⟨.same rfl, ?_⟩ | refine ⟨.any _, ?_⟩)) trivial rfl rfl) fun s' h => ⟨m - 1, by omega, i + 1, by omega, h⟩
      · conv => whnf
        repeat (first | (refine Conf.mk (by kernel_rfl) ?_; conv => whnf) | (refine SeqOk.go ?_; conv => whnf))
        exact Into.to [] [] [] (by repeat (first | exact trivial | refine ⟨.same (congrArg dInt (wrap_up (by omega))), ?_⟩ | refine ⟨.same rfl, ?_⟩ | refine ⟨.any _, ?_⟩)) trivial rfl rfl
    · conv => whnf
      exact Ret.bool rfl
  · refine BoolCase.yes (by simpa using h0) ?_
    conv => whnf
    repeat (first | (refine Conf.mk (by kernel_rfl) ?_; conv => whnf) | (refine SeqOk.go ?_; conv => whnf))
    exact Ret.bool rfl
end Go.Proofs.Ytlioojekjnigiac.AM
/- Logs: their beginnings. -/
namespace Go.Proofs.Ytlioojekjnigiac.AM
set_option linter.unusedVariables false
set_option linter.unusedSimpArgs false

theorem cnt_all {l : List Entry'} (h : ∀ e ∈ l, e.id.r = 0 ∨ e.id.r = 1) : cnt 0 l + cnt 1 l = l.length := by
  induction l with
  | nil => rfl
  | cons e t ih =>
    have := ih fun x hx => h x (by simp [hx])
    unfold cnt at *
    rw [List.countP_cons, List.countP_cons, List.length_cons]
    rcases h e (by simp) with h1 | h1 <;> simp [h1] <;> omega
theorem cnt_mono (r : Int) {l : List Entry'} {i n : Nat} (h : i ≤ n) : cnt r (l.take i) ≤ cnt r (l.take n) := by
  unfold cnt
  exact (List.take_sublist_take_left h).countP_le
/-- Pasts in a beginning are as in the whole. -/
theorem past_part {l : List Entry'} (hr : Right l) {n i : Nat} (hi : i < n) (hil : i < l.length) : pastOfId (l.take n) l[i].id = pastOfId l l[i].id := by
  have hrt := hr.take n
  refine sorted_ext (pastOfId_sorted _ _) (pastOfId_sorted _ _) fun y => ?_
  rw [mem_pastOfId hrt, mem_pastOfId hr]
  refine ⟨fun h => h.mono fun e he => List.mem_of_mem_take he, fun h => ?_⟩
  obtain ⟨j, hj, _, _, h5⟩ := h.ahead hr i hil rfl
  exact h5.mono fun e he => (List.take_subset_take_left l (by omega)) he
set_option maxHeartbeats 0 in
theorem dagParts_ok (l : List Entry') (hl : LogOk l) (x : Int) : PCall Try.prog 7 [.dat (.list (l.map Entry'.enc)), dInt x] (dBool true) := by
  refine pcall_cut tab_all tab_mixed Try.func7 (by kernel_rfl) Try.ntmps7 rfl ?_
  conv => whnf
  conv => whnf
  repeat (first | (refine Conf.mk (by kernel_rfl) ?_; conv => whnf) | (refine SeqOk.go ?_; conv => whnf))
  refine .data _ _ dagBegun_ok.kb rfl ?_
  conv => whnf
  repeat (first | (refine Conf.mk (by kernel_rfl) ?_; conv => whnf) | (refine SeqOk.go ?_; conv => whnf))
  refine .data _ _ (dagCheck_ok l hl) rfl ?_
  conv => whnf
  repeat (first | (refine Conf.mk (by kernel_rfl) ?_; conv => whnf) | (refine SeqOk.go ?_; conv => whnf))
  by_cases h0 : logErr l = 0
  · refine BoolCase.no (by rw [h0]; rfl) ?_
    have hr := right_iff.1 h0
    have hlen := hr.len
    conv => whnf
    repeat (first | (refine Conf.mk (by kernel_rfl) ?_; conv => whnf) | (refine SeqOk.go ?_; conv => whnf))
    refine ⟨fun h => ?_, fun h => ?_⟩
    · conv => whnf
      repeat (first | (refine Conf.mk (by kernel_rfl) ?_; conv => whnf) | (refine SeqOk.go ?_; conv => whnf))
      exact Ret.bool rfl
    · have h : ¬ x < 0 := by simpa using h
      obtain ⟨n, rfl⟩ : ∃ n : Nat, x = n := ⟨x.toNat, by omega⟩
      conv => whnf
      repeat (first | (refine Conf.mk (by kernel_rfl) ?_; conv => whnf) | (refine SeqOk.go ?_; conv => whnf))
      refine ⟨fun h2 => ?_, fun h2 => ?_⟩
      · conv => whnf
        repeat (first | (refine Conf.mk (by kernel_rfl) ?_; conv => whnf) | (refine SeqOk.go ?_; conv => whnf))
        exact Ret.bool rfl
      · have hn : n ≤ l.length := by simp at h2; omega
        have hrt := hr.take n
        have hct := cnt_all hrt.regs
        rw [List.length_take, Nat.min_eq_left hn] at hct
        have hc0 := cnt_le 0 (l.take n)
        have hc1 := cnt_le 1 (l.take n)
        have hcount := Count_ok (l.take n) hrt.logOk
        have hv : ∀ r, cntv r (l.take n) = cnt r (l.take n) := fun r => by unfold cntv; rw [if_pos (right_iff.2 hrt)]
        rw [right_iff.2 hrt, countA, hv, hv] at hcount
        conv => whnf
        repeat (first | (refine Conf.mk (by kernel_rfl) ?_; conv => whnf) | (refine SeqOk.go ?_; conv => whnf))
        refine .mk 0 n rfl rfl (Nat.zero_le _) (by simp; omega) ?_
        rw [fits_take]
        conv => whnf
        repeat (first | (refine Conf.mk (by kernel_rfl) ?_; conv => whnf) | (refine SeqOk.go ?_; conv => whnf))
        refine .data _ _ hcount rfl ?_
        conv => whnf
        repeat (first | (refine Conf.mk (by kernel_rfl) ?_; conv => whnf) | (refine SeqOk.go ?_; conv => whnf))
        refine .mk 0 n rfl rfl (Nat.zero_le _) (by simp; omega) ?_
        rw [fits_take]
        conv => whnf
        repeat (first | (refine Conf.mk (by kernel_rfl) ?_; conv => whnf) | (refine SeqOk.go ?_; conv => whnf))
        refine .data _ _ (checkRight hrt) rfl ?_
        conv => whnf
        repeat (first | (refine Conf.mk (by kernel_rfl) ?_; conv => whnf) | (refine SeqOk.go ?_; conv => whnf))
        refine BoolCase.no rfl ?_
        conv => whnf
        repeat (first | (refine Conf.mk (by kernel_rfl) ?_; conv => whnf) | (refine SeqOk.go ?_; conv => whnf))
        refine BoolCase.no rfl ?_
        conv => whnf
        repeat (first | (refine Conf.mk (by kernel_rfl) ?_; conv => whnf) | (refine SeqOk.go ?_; conv => whnf))
        refine .mk 0 rfl (by decide) ?_
        conv => whnf
        repeat (first | (refine Conf.mk (by kernel_rfl) ?_; conv => whnf) | (refine SeqOk.go ?_; conv => whnf))
        refine .mk 1 rfl (by decide) ?_
        conv => whnf
        repeat (first | (refine Conf.mk (by kernel_rfl) ?_; conv => whnf) | (refine SeqOk.go ?_; conv => whnf))
        refine BoolCase.no (by rw [wrap_id (by omega) (by omega)]; simp; omega) ?_
        conv => whnf
        repeat (first | (refine Conf.mk (by kernel_rfl) ?_; conv => whnf) | (refine SeqOk.go ?_; conv => whnf))
        refine LoopOk.hide fun Q1 hQ1 => ?_
        refine LoopOk.mk (fun m s => ∃ i, i + m = n ∧ s = ⟨[(7, dInt i), (0, .dat (.list (l.map Entry'.enc))), (1, dInt n), (5, .ptr 0 0)], 1, [(0, .vars 23 2 [dInt (cnt 0 (l.take n)), dInt (cnt 1 (l.take n))] true)]⟩) n (Into.mono (Into.to [0] [(7, dInt (0 : Nat)), (0, .dat (.list (l.map Entry'.enc))), (1, dInt n), (5, .ptr 0 0)] [(0, .vars 23 2 [dInt (cnt 0 (l.take n)), dInt (cnt 1 (l.take n))] true)] (by repeat (first | exact trivial | refine ⟨.same (congrArg dInt (wrap_up (by omega))), ?_⟩ | refine ⟨.same rfl, ?_⟩ | refine ⟨.any _, ?_⟩)) ⟨⟨rfl, rfl, rfl, .same rfl, rfl, .same rfl, rfl, trivial⟩, trivial⟩ rfl rfl) fun s' h => ⟨0, by omega, h⟩) ?_
        rintro m s ⟨i, hi, rfl⟩
        conv => whnf
        repeat (first | (refine Conf.mk (by kernel_rfl) ?_; conv => whnf) | (refine SeqOk.go ?_; conv => whnf))
        refine ⟨fun h3 => ?_, fun h3 => ?_⟩
        · have hin := lt_of_cast h3
          have hil : i < l.length := by omega
          have hmem := List.getElem_mem hil
          have hmt : l[i] ∈ l.take n := List.mem_take_iff_getElem.2 ⟨i, by omega, rfl⟩
          have hp := past_in hrt ⟨_, hmt, rfl⟩
          rw [past_part hr hin hil] at hp
          have hpl := pastOfId_len hr l[i].id
          have hnum := (hr.get hil).num
          have hsn := cnt_succ l[i].id.r hil
          simp only [beq_self_eq_true, if_true] at hsn
          have hmo := cnt_mono l[i].id.r (l := l) (i := i + 1) (n := n) (by omega)
          conv => whnf
          repeat (first | (refine Conf.mk (by kernel_rfl) ?_; conv => whnf) | (refine SeqOk.go ?_; conv => whnf))
          refine .mk 0 n rfl rfl (Nat.zero_le _) (by simp; omega) ?_
          rw [fits_take]
          conv => whnf
          repeat (first | (refine Conf.mk (by kernel_rfl) ?_; conv => whnf) | (refine SeqOk.go ?_; conv => whnf))
          refine AtIdx.ofMap hil rfl ?_
          conv => whnf
          repeat (first | (refine Conf.mk (by kernel_rfl) ?_; conv => whnf) | (refine SeqOk.go ?_; conv => whnf))
          refine .data _ _ hp rfl ?_
          conv => whnf
          repeat (first | (refine Conf.mk (by kernel_rfl) ?_; conv => whnf) | (refine SeqOk.go ?_; conv => whnf))
          refine AtIdx.ofMap hil rfl ?_
          conv => whnf
          repeat (first | (refine Conf.mk (by kernel_rfl) ?_; conv => whnf) | (refine SeqOk.go ?_; conv => whnf))
          refine .data _ _ (past_in hr ⟨_, hmem, rfl⟩) rfl ?_
          conv => whnf
          repeat (first | (refine Conf.mk (by kernel_rfl) ?_; conv => whnf) | (refine SeqOk.go ?_; conv => whnf))
          refine BoolCase.no rfl ?_
          conv => whnf
          repeat (first | (refine Conf.mk (by kernel_rfl) ?_; conv => whnf) | (refine SeqOk.go ?_; conv => whnf))
          refine BoolCase.no rfl ?_
          conv => whnf
          repeat (first | (refine Conf.mk (by kernel_rfl) ?_; conv => whnf) | (refine SeqOk.go ?_; conv => whnf))
          refine .data _ _ (same_ok (pastOfId l l[i].id) (by omega)) rfl ?_
          conv => whnf
          repeat (first | (refine Conf.mk (by kernel_rfl) ?_; conv => whnf) | (refine SeqOk.go ?_; conv => whnf))
          refine AtIdx.ofMap hil rfl ?_
          conv => whnf
          repeat (first | (refine Conf.mk (by kernel_rfl) ?_; conv => whnf) | (refine SeqOk.go ?_; conv => whnf))
          refine AtIdx.ofMap hil rfl ?_
          conv => whnf
          repeat (first | (refine Conf.mk (by kernel_rfl) ?_; conv => whnf) | (refine SeqOk.go ?_; conv => whnf))
          rcases hr.regs _ hmem with h4 | h4
          · refine .mk 0 h4 (by decide) ?_
            conv => whnf
            repeat (first | (refine Conf.mk (by kernel_rfl) ?_; conv => whnf) | (refine SeqOk.go ?_; conv => whnf))
            refine BoolCase.no (by rw [h4] at hnum hsn hmo; simp; omega) ?_
            conv => whnf
            repeat (first | (refine Conf.mk (by kernel_rfl) ?_; conv => whnf) | (refine SeqOk.go ?_; conv => whnf))
            exact Into.mono (Into.to [0] [(7, dInt (i + 1 : Nat)), (0, .dat (.list (l.map Entry'.enc))), (1, dInt n), (5, .ptr 0 0)] [(0, .vars 23 2 [dInt (cnt 0 (l.take n)), dInt (cnt 1 (l.take n))] true)] (by repeat (first | exact trivial | refine ⟨.same (congrArg dInt (wrap_up (by omega))), ?_⟩ | refine ⟨.same rfl, ?_⟩ | refine ⟨.any _, ?_⟩)) ⟨⟨rfl, rfl, rfl, .same rfl, rfl, .same rfl, rfl, trivial⟩, trivial⟩ rfl rfl) fun s' h => ⟨m - 1, by omega, i + 1, by omega, h⟩
          · refine .mk 1 h4 (by decide) ?_
            conv => whnf
            repeat (first | (refine Conf.mk (by kernel_rfl) ?_; conv => whnf) | (refine SeqOk.go ?_; conv => whnf))
            refine BoolCase.no (by rw [h4] at hnum hsn hmo; simp; omega) ?_
            conv => whnf
            repeat (first | (refine Conf.mk (by kernel_rfl) ?_; conv => whnf) | (refine SeqOk.go ?_; conv => whnf))
            exact Into.mono (Into.to [0] [(7, dInt (i + 1 : Nat)), (0, .dat (.list (l.map Entry'.enc))), (1, dInt n), (5, .ptr 0 0)] [(0, .vars 23 2 [dInt (cnt 0 (l.take n)), dInt (cnt 1 (l.take n))] true)] (by repeat (first | exact trivial | refine ⟨.same (congrArg dInt (wrap_up (by omega))), ?_⟩ | refine ⟨.same rfl, ?_⟩ | refine ⟨.any _, ?_⟩)) ⟨⟨rfl, rfl, rfl, .same rfl, rfl, .same rfl, rfl, trivial⟩, trivial⟩ rfl rfl) fun s' h => ⟨m - 1, by omega, i + 1, by omega, h⟩
        · conv => whnf
          repeat (first | (refine Conf.mk (by kernel_rfl) ?_; conv => whnf) | (refine SeqOk.go ?_; conv => whnf))
          subst hQ1
          conv => whnf
          exact Ret.bool rfl
  · refine BoolCase.yes (by simpa using h0) ?_
    conv => whnf
    repeat (first | (refine Conf.mk (by kernel_rfl) ?_; conv => whnf) | (refine SeqOk.go ?_; conv => whnf))
    exact Ret.bool rfl
end Go.Proofs.Ytlioojekjnigiac.AM
/- What came in, opened: ids, entries, logs. -/
namespace Go.Proofs.Ytlioojekjnigiac
theorem ownT : ownKnob Try.prog.godebug = none := by kernel_rfl
theorem laidT : laidOutB Try.prog = true := by kernel_rfl
namespace AM
set_option linter.unusedVariables false
set_option linter.unusedSimpArgs false

theorem allWT_cons {tab : Tab} {n t : Nat} {ts : List Nat} {dss : List (List D)} (h : AllWT tab n (t :: ts) dss) : ∃ d ds, dss = d :: ds ∧ WT tab n t d ∧ AllWT tab n ts ds := by
  cases dss with
  | nil => exact h.elim
  | cons d ds => exact ⟨d, ds, rfl, h.1, h.2⟩
theorem allWT_nil {tab : Tab} {n : Nat} {dss : List (List D)} (h : AllWT tab n [] dss) : dss = [] := by
  cases dss with
  | nil => rfl
  | cons d ds => exact h.elim
theorem all_enc {α : Type} {enc : α → List D} {p : List D → Prop} {q : α → Prop} (h : ∀ e, p e → ∃ x, e = enc x ∧ q x) : ∀ (es : List (List D)), (∀ e ∈ es, p e) → ∃ l : List α, es = l.map enc ∧ ∀ x ∈ l, q x
  | [], _ => ⟨[], rfl, by simp⟩
  | e :: t, hs => by
    obtain ⟨x, rfl, hx⟩ := h e (hs e (by simp))
    obtain ⟨l, rfl, hl⟩ := all_enc h t fun e he => hs e (by simp [he])
    exact ⟨x :: l, rfl, fun y hy => by
      rcases List.mem_cons.1 hy with rfl | hy
      · exact hx
      · exact hl y hy⟩
def I64 (n : Int) : Prop := -9223372036854775808 ≤ n ∧ n ≤ 9223372036854775807
theorem wt_int {n : Nat} {ds : List D} (h : WT tab (n + 1) 3 ds) : ∃ m, ds = [.int .i64 m] ∧ I64 m := by
  have h : ∃ m, ds = [.int .i64 m] ∧ (Lit.int .i64 m).wf = true := h
  obtain ⟨m, rfl, hm⟩ := h
  refine ⟨m, rfl, ?_⟩
  simp [Lit.wf, IntKind.wrap, IntKind.bits, IntKind.signed] at hm
  exact hm
theorem wt_bool {n : Nat} {ds : List D} (h : WT tab (n + 1) 4 ds) : ∃ b, ds = [.bool b] := h
theorem wt_string {n : Nat} {ds : List D} (h : WT tab (n + 1) 9 ds) : ∃ s, ds = [.str s] ∧ s.size ≤ 140737488351232 := h
theorem wt_id {n : Nat} {ds : List D} (h : WT tab (n + 2) 25 ds) : ∃ x : Id, ds = x.enc ∧ I64 x.r ∧ I64 x.n := by
  obtain ⟨a, y, rfl, h1, b, z, rfl, h2, rfl⟩ := (h : ∃ xs ys, ds = xs ++ ys ∧ WT tab (n + 1) 3 xs ∧ ∃ xs' ys', ys = xs' ++ ys' ∧ WT tab (n + 1) 3 xs' ∧ ys' = [])
  obtain ⟨r, rfl, hr⟩ := wt_int h1
  obtain ⟨m, rfl, hm⟩ := wt_int h2
  exact ⟨⟨r, m⟩, rfl, hr, hm⟩
theorem wt_ids {n : Nat} {ds : List D} (h : WT tab (n + 3) 35 ds) : ∃ l : List Id, ds = [.list (l.map Id.enc)] ∧ l.length * 16 ≤ 140737488351232 ∧ ∀ x ∈ l, I64 x.r ∧ I64 x.n := by
  obtain ⟨es, rfl, h1, h2⟩ := (h : ∃ es, ds = [.list es] ∧ es.length * 16 ≤ 140737488351232 ∧ ∀ e' ∈ es, WT tab (n + 2) 25 e')
  obtain ⟨l, rfl, hl⟩ := all_enc (fun e he => wt_id he) es h2
  exact ⟨l, rfl, by rw [List.length_map] at h1; exact h1, hl⟩
structure EntryIn (e : Entry') : Prop where
  r : I64 e.id.r
  n : I64 e.id.n
  colors : I64 e.colors
  text : e.text.size ≤ 140737488351232
  len : e.links.length * 16 ≤ 140737488351232
  links : ∀ x ∈ e.links, I64 x.r ∧ I64 x.n
theorem wt_entry {n : Nat} {ds : List D} (h : WT tab (n + 4) 50 ds) : ∃ e : Entry', ds = e.enc ∧ EntryIn e := by
  obtain ⟨a, y, rfl, h1, b, z, rfl, h2, c, u, rfl, h3, d, v, rfl, h4, rfl⟩ := (h : ∃ a y, ds = a ++ y ∧ WT tab (n + 3) 25 a ∧ ∃ b z, y = b ++ z ∧ WT tab (n + 3) 3 b ∧ ∃ c u, z = c ++ u ∧ WT tab (n + 3) 9 c ∧ ∃ d v, u = d ++ v ∧ WT tab (n + 3) 35 d ∧ v = [])
  obtain ⟨x, rfl, hx⟩ := wt_id h1
  obtain ⟨k, rfl, hk⟩ := wt_int h2
  obtain ⟨s, rfl, hs⟩ := wt_string h3
  obtain ⟨l, rfl, hl, hl2⟩ := wt_ids h4
  exact ⟨⟨x, k, s, l⟩, rfl, hx.1, hx.2, hk, hs, hl, hl2⟩
theorem wt_log {n : Nat} {ds : List D} (h : WT tab (n + 5) 34 ds) : ∃ l : List Entry', ds = [.list (l.map Entry'.enc)] ∧ l.length * 64 ≤ 140737488351232 ∧ ∀ e ∈ l, EntryIn e := by
  obtain ⟨es, rfl, h1, h2⟩ := (h : ∃ es, ds = [.list es] ∧ es.length * 64 ≤ 140737488351232 ∧ ∀ e' ∈ es, WT tab (n + 4) 50 e')
  obtain ⟨l, rfl, hl⟩ := all_enc (fun e he => wt_entry he) es h2
  exact ⟨l, rfl, by rw [List.length_map] at h1; exact h1, hl⟩
theorem logOk_in {l : List Entry'} (h : l.length * 64 ≤ 140737488351232) (k : ∀ e ∈ l, EntryIn e) : LogOk l := ⟨by omega, fun e he => by have := (k e he).len; omega⟩
end AM
end Go.Proofs.Ytlioojekjnigiac
