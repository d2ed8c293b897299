/- What is leaned on: part 4. -/
import Derived.Test.YtlioojekjnigiaeQ3
import Derived.Test.YtlioojekjnigiaeRows
import Derived.WalkKit
import Derived.WalkSpells
import Derived.StillTactics
import Derived.Laws.Pointers
import Derived.Deep.RegionHeld3
import Derived.Deep.RegionLaw
import Derived.Deep.AppendLies
import Derived.Deep.QuietTactic
import Derived.Deep.DrawnRows
import Derived.BigQuiet
import Derived.RowKit3
import Derived.Laws.CopyRow
import Derived.Laws.OwnMore
import Derived.Lib.SliceRun
import Derived.Lib.AppendZerosOnto
import Derived.Lib.Overlaps
import Derived.Laws.Externs
import Derived.Deep.DeepAppendWide
/- Logs: the calls of package dag, and what must be in any case. -/
namespace Go.Proofs.Ytlioojekjnigiae.AM
set_option linter.unusedVariables false
set_option linter.unusedSimpArgs false

theorem BoolCase.yes {b : Bool} {t f : Prop} (h : b = true) (k : t) : BoolCase b t f := ⟨fun _ => k, fun h' => (by rw [h] at h'; cases h')⟩
theorem BoolCase.no {b : Bool} {t f : Prop} (h : b = false) (k : f) : BoolCase b t f := ⟨fun h' => (by rw [h] at h'; cases h'), fun _ => k⟩
/-- A bool that is known. -/
theorem PCall.kb {P : Program} {f : FuncId} {args : List AVal} {b : Bool} (h : PCall P f args (dBool b)) : PCall P f args (.kb b) := by
  refine ⟨h.1, fun r A w vs hr hc hs hv => (h.2 r A w vs hr hc hs hv).mono fun e w' he => ?_⟩
  obtain ⟨v, r', A', x, H', n', rfl, ⟨rfl, rfl, rfl⟩, k1, k2, k3, k4, k5, k6, k7⟩ := he
  refine ⟨v, r', A', .kb b, [], 0, rfl, ⟨rfl, rfl, rfl⟩, k1, k2, k3, k4, ?_, k6, k7⟩
  cases k5 with | dat hh => cases hh; exact .kb b
def LA (l : List Entry') : AVal := .dat (.list (l.map Entry'.enc))
def IA (l : List Id) : AVal := .dat (.list (l.map Id.enc))
def pastErr (l : List Entry') (x : Id) : Int := if logErr l = 0 then (if l.any (isThe x) = true then 0 else 5) else logErr l
def pastAns (l : List Entry') (x : Id) : List Id := if pastErr l x = 0 then pastOfId l x else []
theorem pastErr_ok {l : List Entry'} {x : Id} (h : pastErr l x = 0) : Right l ∧ ∃ e ∈ l, e.id = x := by
  unfold pastErr at h
  split at h
  · rename_i h1
    split at h
    · rename_i h2; exact ⟨right_iff.1 h1, any_isThe.1 h2⟩
    · simp at h
  · rename_i h1; exact absurd h h1
set_option maxHeartbeats 0 in
theorem past_ok (l : List Entry') (hl : LogOk l) (x : Id) : PCall Try.prog 44 [.dat (.list (l.map Entry'.enc)), x.arg] (.tup [.dat (.list ((pastAns l x).map Id.enc)), dInt (pastErr l x)]) := by
  refine pcall_intro tab_all tab_mixed Try.func44 (by kernel_rfl) Try.ntmps44 rfl ?_
  conv => whnf
  refine .data _ _ (dagCheck_ok l hl) rfl ?_
  conv => whnf
  repeat (first | (refine Conf.mk (by kernel_rfl) ?_; conv => whnf) | (refine SeqOk.go ?_; conv => whnf))
  refine ⟨fun h1 => ?_, fun h1 => ?_⟩
  · have h1 : logErr l ≠ 0 := by simpa using h1
    have he : pastErr l x = logErr l := by unfold pastErr; rw [if_neg h1]
    have ha : pastAns l x = [] := by unfold pastAns; rw [he, if_neg h1]
    conv => whnf
    repeat (first | (refine Conf.mk (by kernel_rfl) ?_; conv => whnf) | (refine SeqOk.go ?_; conv => whnf))
    exact Ret.to (by rw [he, ha]; rfl)
  · have h1 : logErr l = 0 := by simpa using h1
    have hr := right_iff.1 h1
    conv => whnf
    repeat (first | (refine Conf.mk (by kernel_rfl) ?_; conv => whnf) | (refine SeqOk.go ?_; conv => whnf))
    refine .look _ _ (has_ok x l hl.len) rfl rfl ?_
    conv => whnf
    repeat (first | (refine Conf.mk (by kernel_rfl) ?_; conv => whnf) | (refine SeqOk.go ?_; conv => whnf))
    refine ⟨fun h2 => ?_, fun h2 => ?_⟩
    · have h2 : l.any (isThe x) = false := (Bool.not_eq_true' _).mp h2
      have he : pastErr l x = 5 := by unfold pastErr; rw [if_pos h1, h2]; rfl
      have ha : pastAns l x = [] := by unfold pastAns; rw [he]; rfl
      conv => whnf
      repeat (first | (refine Conf.mk (by kernel_rfl) ?_; conv => whnf) | (refine SeqOk.go ?_; conv => whnf))
      exact Ret.to (by rw [he, ha]; rfl)
    · have h2 : l.any (isThe x) = true := (Bool.not_eq_false' (b := l.any (isThe x))).mp h2
      have he : pastErr l x = 0 := by unfold pastErr; rw [if_pos h1, if_pos h2]
      have ha : pastAns l x = pastOfId l x := by unfold pastAns; rw [he]; rfl
      conv => whnf
      repeat (first | (refine Conf.mk (by kernel_rfl) ?_; conv => whnf) | (refine SeqOk.go ?_; conv => whnf))
      refine .keep [0] _ _ (pastOf_ok l hr.len (fun e he => hr.six he) fun e _ => past1_ok x e) rfl rfl rfl rfl ?_
      conv => whnf
      repeat (first | (refine Conf.mk (by kernel_rfl) ?_; conv => whnf) | (refine SeqOk.go ?_; conv => whnf))
      exact Ret.to (by rw [he, ha]; rfl)
def colErr (l : List Entry') (c : Int) : Int := if logErr l = 0 then (if c < 1 ∨ 7 < c then 3 else 0) else logErr l
def headsAns (l : List Entry') (c : Int) : List Id := if colErr l c = 0 then headsOf c l else []
theorem colErr_ok {l : List Entry'} {c : Int} (h : colErr l c = 0) : Right l ∧ 1 ≤ c ∧ c ≤ 7 := by
  unfold colErr at h
  split at h
  · rename_i h1
    split at h
    · simp at h
    · rename_i h2; exact ⟨right_iff.1 h1, by omega⟩
  · rename_i h1; exact absurd h h1
set_option maxHeartbeats 0 in
theorem heads_ok (l : List Entry') (hl : LogOk l) (c : Int) : PCall Try.prog 45 [.dat (.list (l.map Entry'.enc)), dInt c] (.tup [.dat (.list ((headsAns l c).map Id.enc)), dInt (colErr l c)]) := by
  refine pcall_intro tab_all tab_mixed Try.func45 (by kernel_rfl) Try.ntmps45 rfl ?_
  conv => whnf
  refine .data _ _ (dagCheck_ok l hl) rfl ?_
  conv => whnf
  repeat (first | (refine Conf.mk (by kernel_rfl) ?_; conv => whnf) | (refine SeqOk.go ?_; conv => whnf))
  refine ⟨fun h1 => ?_, fun h1 => ?_⟩
  · have h1 : logErr l ≠ 0 := by simpa using h1
    have he : colErr l c = logErr l := by unfold colErr; rw [if_neg h1]
    have ha : headsAns l c = [] := by unfold headsAns; rw [he, if_neg h1]
    conv => whnf
    repeat (first | (refine Conf.mk (by kernel_rfl) ?_; conv => whnf) | (refine SeqOk.go ?_; conv => whnf))
    exact Ret.to (by rw [he, ha]; rfl)
  · have h1 : logErr l = 0 := by simpa using h1
    have hr := right_iff.1 h1
    conv => whnf
    repeat (first | (refine Conf.mk (by kernel_rfl) ?_; conv => whnf) | (refine SeqOk.go ?_; conv => whnf))
    refine ⟨fun h2 => ?_, fun h2 => ?_⟩
    · have hc : c < 1 ∨ 7 < c := .inl (by simpa using h2)
      have he : colErr l c = 3 := by unfold colErr; rw [if_pos h1, if_pos hc]
      have ha : headsAns l c = [] := by unfold headsAns; rw [he]; rfl
      conv => whnf
      repeat (first | (refine Conf.mk (by kernel_rfl) ?_; conv => whnf) | (refine SeqOk.go ?_; conv => whnf))
      exact Ret.to (by rw [he, ha]; rfl)
    · have h2 : ¬ c < 1 := by simpa using h2
      conv => whnf
      repeat (first | (refine Conf.mk (by kernel_rfl) ?_; conv => whnf) | (refine SeqOk.go ?_; conv => whnf))
      refine ⟨fun h3 => ?_, fun h3 => ?_⟩
      · have hc : c < 1 ∨ 7 < c := .inr (by simpa using h3)
        have he : colErr l c = 3 := by unfold colErr; rw [if_pos h1, if_pos hc]
        have ha : headsAns l c = [] := by unfold headsAns; rw [he]; rfl
        conv => whnf
        repeat (first | (refine Conf.mk (by kernel_rfl) ?_; conv => whnf) | (refine SeqOk.go ?_; conv => whnf))
        exact Ret.to (by rw [he, ha]; rfl)
      · have h3 : ¬ 7 < c := by simpa using h3
        have he : colErr l c = 0 := by unfold colErr; rw [if_pos h1, if_neg (by omega)]
        have ha : headsAns l c = headsOf c l := by unfold headsAns; rw [he]; rfl
        conv => whnf
        repeat (first | (refine Conf.mk (by kernel_rfl) ?_; conv => whnf) | (refine SeqOk.go ?_; conv => whnf))
        refine .keep [0, 1] _ _ (pastOf_ok l hr.len (fun e he => hr.six he) fun e _ => heads1_ok c e) rfl rfl rfl rfl ?_
        conv => whnf
        repeat (first | (refine Conf.mk (by kernel_rfl) ?_; conv => whnf) | (refine SeqOk.go ?_; conv => whnf))
        have hfl := pastFold_len (fun e => bothOf e.colors c) (l := l) fun e he => hr.six he
        have hll := hr.len
        refine .keep [2] _ _ (idsOf_ok l hr.len fun e _ => heads2_ok c (sortIds (pastFold (fun e => bothOf e.colors c) l)) (by rw [sortIds_len]; omega) e) rfl rfl rfl rfl ?_
        conv => whnf
        repeat (first | (refine Conf.mk (by kernel_rfl) ?_; conv => whnf) | (refine SeqOk.go ?_; conv => whnf))
        refine Ret.to ?_
        rw [he, ha]
        have : (fun e : Entry' => bothOf e.colors c && !(sortIds (pastFold (fun e => bothOf e.colors c) l)).any (isId2 e.id)) = fun e => bothOf e.colors c && !(pastFold (fun e => bothOf e.colors c) l).any (isId2 e.id) := funext fun e => by
          congr 2
          rw [Bool.eq_iff_iff, any_isId2, any_isId2, mem_sortIds]
        rw [this]
        rfl
def cntv (r : Int) (l : List Entry') : Int := if logErr l = 0 then (cnt r l : Int) else 0
def countA (l : List Entry') : AVal := vecA (cntv 0 l) (cntv 1 l)
set_option maxHeartbeats 0 in
theorem Count_ok (l : List Entry') (hl : LogOk l) : PCall Try.prog 21 [.dat (.list (l.map Entry'.enc))] (.tup [countA l, dInt (logErr l)]) := by
  refine pcall_intro tab_all tab_mixed Try.func21 (by kernel_rfl) Try.ntmps21 rfl ?_
  conv => whnf
  refine .data _ _ (dagCheck_ok l hl) rfl ?_
  conv => whnf
  repeat (first | (refine Conf.mk (by kernel_rfl) ?_; conv => whnf) | (refine SeqOk.go ?_; conv => whnf))
  refine ⟨fun h1 => ?_, fun h1 => ?_⟩
  · have h1 : logErr l ≠ 0 := by simpa using h1
    conv => whnf
    repeat (first | (refine Conf.mk (by kernel_rfl) ?_; conv => whnf) | (refine SeqOk.go ?_; conv => whnf))
    exact Ret.to (by unfold countA cntv; rw [if_neg h1, if_neg h1]; rfl)
  · have h1 : logErr l = 0 := by simpa using h1
    have hr := right_iff.1 h1
    conv => whnf
    repeat (first | (refine Conf.mk (by kernel_rfl) ?_; conv => whnf) | (refine SeqOk.go ?_; conv => whnf))
    refine .data _ _ (count_ok l hl.len hr.regs) rfl ?_
    conv => whnf
    repeat (first | (refine Conf.mk (by kernel_rfl) ?_; conv => whnf) | (refine SeqOk.go ?_; conv => whnf))
    exact Ret.to (by unfold countA cntv; rw [if_pos h1, if_pos h1, h1]; rfl)
theorem id_ok (r n : Int) : PCall Try.prog 36 [dInt r, dInt n] (Id.arg ⟨r, n⟩) := by
  refine pcall_intro tab_all tab_mixed Try.func36 (by kernel_rfl) Try.ntmps36 rfl ?_
  conv => whnf
  exact Ret.to rfl
def someLog : List Entry' := [⟨⟨0, 1⟩, 1, ⟨#[112, 117, 116, 32, 97, 32, 120]⟩, []⟩, ⟨⟨1, 1⟩, 3, ⟨#[112, 117, 116, 32, 97, 32, 121]⟩, []⟩, ⟨⟨0, 2⟩, 3, ⟨#[100, 114, 111, 112, 32, 97]⟩, [⟨0, 1⟩]⟩, ⟨⟨1, 2⟩, 2, ⟨#[112, 117, 116, 32, 98, 32, 122]⟩, [⟨0, 2⟩, ⟨1, 1⟩]⟩]
set_option maxHeartbeats 0 in
theorem entries_ok : PCall Try.prog 35 [] (.dat (.list (someLog.map Entry'.enc))) := by
  refine pcall_intro tab_all tab_mixed Try.func35 (by kernel_rfl) Try.ntmps35 rfl ?_
  conv => whnf
  refine .data _ _ (id_ok _ _) rfl ?_
  conv => whnf
  repeat (first | (refine Conf.mk (by kernel_rfl) ?_; conv => whnf) | (refine SeqOk.go ?_; conv => whnf))
  refine .data _ _ (id_ok _ _) rfl ?_
  conv => whnf
  repeat (first | (refine Conf.mk (by kernel_rfl) ?_; conv => whnf) | (refine SeqOk.go ?_; conv => whnf))
  refine .data _ _ (id_ok _ _) rfl ?_
  conv => whnf
  repeat (first | (refine Conf.mk (by kernel_rfl) ?_; conv => whnf) | (refine SeqOk.go ?_; conv => whnf))
  refine .data _ _ (id_ok _ _) rfl ?_
  conv => whnf
  repeat (first | (refine Conf.mk (by kernel_rfl) ?_; conv => whnf) | (refine SeqOk.go ?_; conv => whnf))
  refine .data _ _ (id_ok _ _) rfl ?_
  conv => whnf
  repeat (first | (refine Conf.mk (by kernel_rfl) ?_; conv => whnf) | (refine SeqOk.go ?_; conv => whnf))
  refine .data _ _ (id_ok _ _) rfl ?_
  conv => whnf
  repeat (first | (refine Conf.mk (by kernel_rfl) ?_; conv => whnf) | (refine SeqOk.go ?_; conv => whnf))
  refine .data _ _ (id_ok _ _) rfl ?_
  conv => whnf
  repeat (first | (refine Conf.mk (by kernel_rfl) ?_; conv => whnf) | (refine SeqOk.go ?_; conv => whnf))
  exact Ret.to rfl
theorem someLog_ok : LogOk someLog := ⟨by decide, by decide⟩
theorem someLog_right : logErr someLog = 0 := by kernel_rfl
theorem same_ok (a : List Id) (h : a.length ≤ 140737488355328) : PCall Try.prog 17 [.dat (.list (a.map Id.enc)), .dat (.list (a.map Id.enc))] (.kb true) := by
  have := (sameIds_ok a a h).kb
  rwa [sameIds_iff.2 rfl] at this
set_option maxHeartbeats 0 in
theorem dagBegun_ok : PCall Try.prog 20 [] (dBool true) := by
  have p1 : pastErr someLog ⟨1, 2⟩ = 0 := by kernel_rfl
  have p2 : pastAns someLog ⟨1, 2⟩ = [⟨0, 1⟩, ⟨0, 2⟩, ⟨1, 1⟩] := by kernel_rfl
  have q1 : colErr someLog 1 = 0 := by kernel_rfl
  have q2 : headsAns someLog 1 = [⟨0, 2⟩, ⟨1, 1⟩] := by kernel_rfl
  have r1 : countA someLog = vecA 2 2 := by kernel_rfl
  have hp := past_ok someLog someLog_ok ⟨1, 2⟩
  have hh := heads_ok someLog someLog_ok 1
  have hc := Count_ok someLog someLog_ok
  have hk := dagCheck_ok someLog someLog_ok
  rw [p1, p2] at hp
  rw [q1, q2] at hh
  rw [r1, someLog_right] at hc
  rw [someLog_right] at hk
  refine pcall_intro tab_all tab_mixed Try.func20 (by kernel_rfl) Try.ntmps20 rfl ?_
  conv => whnf
  refine .data _ _ entries_ok rfl ?_
  conv => whnf
  repeat (first | (refine Conf.mk (by kernel_rfl) ?_; conv => whnf) | (refine SeqOk.go ?_; conv => whnf))
  refine .data _ _ (id_ok _ _) rfl ?_
  conv => whnf
  repeat (first | (refine Conf.mk (by kernel_rfl) ?_; conv => whnf) | (refine SeqOk.go ?_; conv => whnf))
  refine .data _ _ hp rfl ?_
  conv => whnf
  repeat (first | (refine Conf.mk (by kernel_rfl) ?_; conv => whnf) | (refine SeqOk.go ?_; conv => whnf))
  refine .data _ _ entries_ok rfl ?_
  conv => whnf
  repeat (first | (refine Conf.mk (by kernel_rfl) ?_; conv => whnf) | (refine SeqOk.go ?_; conv => whnf))
  refine .data _ _ hh rfl ?_
  conv => whnf
  repeat (first | (refine Conf.mk (by kernel_rfl) ?_; conv => whnf) | (refine SeqOk.go ?_; conv => whnf))
  refine .data _ _ entries_ok rfl ?_
  conv => whnf
  repeat (first | (refine Conf.mk (by kernel_rfl) ?_; conv => whnf) | (refine SeqOk.go ?_; conv => whnf))
  refine .data _ _ hc rfl ?_
  conv => whnf
  repeat (first | (refine Conf.mk (by kernel_rfl) ?_; conv => whnf) | (refine SeqOk.go ?_; conv => whnf))
  refine .data _ _ entries_ok rfl ?_
  conv => whnf
  repeat (first | (refine Conf.mk (by kernel_rfl) ?_; conv => whnf) | (refine SeqOk.go ?_; conv => whnf))
  refine .data _ _ hk rfl ?_
  conv => whnf
  repeat (first | (refine Conf.mk (by kernel_rfl) ?_; conv => whnf) | (refine SeqOk.go ?_; conv => whnf))
  refine BoolCase.yes rfl ?_
  conv => whnf
  repeat (first | (refine Conf.mk (by kernel_rfl) ?_; conv => whnf) | (refine SeqOk.go ?_; conv => whnf))
  refine BoolCase.yes rfl ?_
  conv => whnf
  repeat (first | (refine Conf.mk (by kernel_rfl) ?_; conv => whnf) | (refine SeqOk.go ?_; conv => whnf))
  refine BoolCase.yes rfl ?_
  conv => whnf
  repeat (first | (refine Conf.mk (by kernel_rfl) ?_; conv => whnf) | (refine SeqOk.go ?_; conv => whnf))
  refine BoolCase.yes rfl ?_
  conv => whnf
  repeat (first | (refine Conf.mk (by kernel_rfl) ?_; conv => whnf) | (refine SeqOk.go ?_; conv => whnf))
  refine .data _ _ (id_ok _ _) rfl ?_
  conv => whnf
  repeat (first | (refine Conf.mk (by kernel_rfl) ?_; conv => whnf) | (refine SeqOk.go ?_; conv => whnf))
  refine .data _ _ (id_ok _ _) rfl ?_
  conv => whnf
  repeat (first | (refine Conf.mk (by kernel_rfl) ?_; conv => whnf) | (refine SeqOk.go ?_; conv => whnf))
  refine .data _ _ (id_ok _ _) rfl ?_
  conv => whnf
  repeat (first | (refine Conf.mk (by kernel_rfl) ?_; conv => whnf) | (refine SeqOk.go ?_; conv => whnf))
  refine .look _ _ (same_ok [⟨0, 1⟩, ⟨0, 2⟩, ⟨1, 1⟩] (by decide)) rfl rfl ?_
  conv => whnf
  repeat (first | (refine Conf.mk (by kernel_rfl) ?_; conv => whnf) | (refine SeqOk.go ?_; conv => whnf))
  refine .data _ _ (id_ok _ _) rfl ?_
  conv => whnf
  repeat (first | (refine Conf.mk (by kernel_rfl) ?_; conv => whnf) | (refine SeqOk.go ?_; conv => whnf))
  refine .data _ _ (id_ok _ _) rfl ?_
  conv => whnf
  repeat (first | (refine Conf.mk (by kernel_rfl) ?_; conv => whnf) | (refine SeqOk.go ?_; conv => whnf))
  refine .look _ _ (same_ok [⟨0, 2⟩, ⟨1, 1⟩] (by decide)) rfl rfl ?_
  conv => whnf
  repeat (first | (refine Conf.mk (by kernel_rfl) ?_; conv => whnf) | (refine SeqOk.go ?_; conv => whnf))
  exact Ret.bool rfl
end Go.Proofs.Ytlioojekjnigiae.AM
/- Logs: what the document says of them, called. -/
namespace Go.Proofs.Ytlioojekjnigiae.AM
set_option linter.unusedVariables false
set_option linter.unusedSimpArgs false

theorem SeqOk.cut' {N : Nat} {a b : (X → St → Prop) → St → Prop} {Q : X → St → Prop} {s : St} (s1 : St) (ha : a (fun e s' => match e with
      | .normal => Into N s' fun s2 => s2 = s1
      | .exit id => Q (.exit id) s'
      | .ret => Q .ret s') s) (hb : b Q s1) : SeqOk N a b Q s := .cut (fun s2 => s2 = s1) ha fun s2 h => by rw [h]; exact hb
end Go.Proofs.Ytlioojekjnigiae.AM
/- Logs: pasts of what is past. -/
namespace Go.Proofs.Ytlioojekjnigiae.AM
set_option linter.unusedVariables false
set_option linter.unusedSimpArgs false

theorem past_in {l : List Entry'} (hr : Right l) {x : Id} (h : ∃ e ∈ l, e.id = x) : PCall Try.prog 44 [.dat (.list (l.map Entry'.enc)), x.arg] (.tup [.dat (.list ((pastOfId l x).map Id.enc)), dInt 0]) := by
  have he : pastErr l x = 0 := by unfold pastErr; rw [if_pos (right_iff.2 hr), if_pos (any_isThe.2 h)]
  have ha : pastAns l x = pastOfId l x := by unfold pastAns; rw [if_pos he]
  have := past_ok l hr.logOk x
  rwa [he, ha] at this
theorem pastOfId_len {l : List Entry'} (hr : Right l) (x : Id) : (pastOfId l x).length ≤ 240 := by
  have := pastFold_len (isThe x) fun e he => hr.six he
  have := hr.len
  unfold pastOfId
  rw [sortIds_len]
  omega
theorem checkRight {l : List Entry'} (hr : Right l) : PCall Try.prog 46 [.dat (.list (l.map Entry'.enc))] (dInt 0) := by
  have := dagCheck_ok l hr.logOk
  rwa [right_iff.2 hr] at this
theorem lt_of_cast {i n : Nat} (h : decide ((i : Int) < (n : Int)) = true) : i < n := by simpa using h
theorem ge_of_cast {i n : Nat} (h : decide ((i : Int) < (n : Int)) = false) : n ≤ i := by simpa using h
theorem lt_of_len {α : Type} {enc : α → List D} {l : List α} {i : Nat} (h : decide ((i : Int) < ((l.map enc).length : Int)) = true) : i < l.length := by simpa using h
theorem ge_of_len {α : Type} {enc : α → List D} {l : List α} {i : Nat} (h : decide ((i : Int) < ((l.map enc).length : Int)) = false) : l.length ≤ i := by simpa using h
end Go.Proofs.Ytlioojekjnigiae.AM
/- Logs: their beginnings. -/
namespace Go.Proofs.Ytlioojekjnigiae.AM
set_option linter.unusedVariables false
set_option linter.unusedSimpArgs false

theorem cnt_all {l : List Entry'} (h : ∀ e ∈ l, e.id.r = 0 ∨ e.id.r = 1) : cnt 0 l + cnt 1 l = l.length := by
  induction l with
  | nil => rfl
  | cons e t ih =>
    have := ih fun x hx => h x (by simp [hx])
    unfold cnt at *
    rw [List.countP_cons, List.countP_cons, List.length_cons]
    rcases h e (by simp) with h1 | h1 <;> simp [h1] <;> omega
theorem cnt_mono (r : Int) {l : List Entry'} {i n : Nat} (h : i ≤ n) : cnt r (l.take i) ≤ cnt r (l.take n) := by
  unfold cnt
  exact (List.take_sublist_take_left h).countP_le
/-- Pasts in a beginning are as in the whole. -/
theorem past_part {l : List Entry'} (hr : Right l) {n i : Nat} (hi : i < n) (hil : i < l.length) : pastOfId (l.take n) l[i].id = pastOfId l l[i].id := by
  have hrt := hr.take n
  refine sorted_ext (pastOfId_sorted _ _) (pastOfId_sorted _ _) fun y => ?_
  rw [mem_pastOfId hrt, mem_pastOfId hr]
  refine ⟨fun h => h.mono fun e he => List.mem_of_mem_take he, fun h => ?_⟩
  obtain ⟨j, hj, _, _, h5⟩ := h.ahead hr i hil rfl
  exact h5.mono fun e he => (List.take_subset_take_left l (by omega)) he
end Go.Proofs.Ytlioojekjnigiae.AM
/- One more in the midst of a row of one's own, told as a call. -/
namespace Go.Proofs.Ytlioojekjnigiae.AM
open Go.RowKit
set_option linter.unusedVariables false
set_option linter.unusedSimpArgs false

theorem get_two {e0 e1 : Entry} {h : Nat} : Heap.get [(0, e0), (1, e1)] h = if h = 0 then e0 else if h = 1 then e1 else .dead := by
  match h with
  | 0 => rfl
  | 1 => rfl
  | h + 2 => rfl
theorem get_three {e : Entry} {h : Nat} : Heap.get [(0, .dead), (1, .dead), (2, e)] h = if h = 2 then e else .dead := by
  match h with
  | 0 => rfl
  | 1 => rfl
  | 2 => rfl
  | h + 3 => rfl
/-- The cells of a row that is one's own. -/
theorem row_cells {k : Nat} {cur : Array Value} {es : List (List D)} {A : View} (hs : ∀ e ∈ es, e.length = k) (hle : es.length * k ≤ cur.size)
    (h6 : ∀ i e, es[i]? = some e → ∀ j d, e[j]? = some d → Rep A (cur.getD (i * k + j) undef) d) : ∀ u ∈ cur.toList.take (es.length * k), u.oneCell' = true := fun u hu => by
  obtain ⟨p, hp, rfl⟩ := List.mem_take_iff_getElem.1 hu
  have hp2 : p < es.length * k := by omega
  have hk0 : 0 < k := by
    rcases Nat.eq_zero_or_pos k with h | h
    · subst h; simp at hp2
    · exact h
  have hi : p / k < es.length := Nat.div_lt_of_lt_mul (by rw [Nat.mul_comm]; exact hp2)
  have hm : p % k < k := Nat.mod_lt _ hk0
  have hd : (es[p / k])[p % k]? = some ((es[p / k])[p % k]'(by rw [hs _ (List.getElem_mem hi)]; exact hm)) := List.getElem?_eq_getElem _
  have := (h6 (p / k) es[p / k] (List.getElem?_eq_getElem hi) (p % k) _ hd).one
  rw [Nat.mul_comm, Nat.div_add_mod] at this
  have hpc : p < cur.size := by omega
  rw [Array.getD_eq_getD_getElem?, Array.getElem?_eq_getElem hpc, Option.getD_some] at this
  simpa using this
theorem acall_insert {P : Program} {f T k : Nat} (hk0 : 0 < k) (hcall : callable P f = true) (es : List (List D)) (x : List D) (i : Nat) (hi : i < es.length) (hn : es.length ≤ 1000)
    (hins : ∀ (n i : Nat) (v : Value) (cs xs : List Value) (vb vc : Nat) (xv : Array Value) (w : World), w.ownsRow 0 T k v n cs → w.heap[vb]? = some (.cells xv T (0, 0)) → v.ownBlock ≠ some vb → xs.length = k → xv.toList.take k = xs → xv.size = vc * k → 1 ≤ vc → (∀ u ∈ xs, u.oneCell' = true) → (∀ u ∈ cs, u.oneCell' = true) → n ≤ 1000 → i ≤ n →
      Calls P f #[v, .int .i64 i, .slice (some ⟨vb, 0, none⟩) 1 vc] w fun e w' => ∃ g cap, e = .returned (.slice (some ⟨g, 0, none⟩) (n + 1) cap) ∧ w'.ownsRow 0 T k (.slice (some ⟨g, 0, none⟩) (n + 1) cap) (n + 1) (cs.take (i * k) ++ xs ++ cs.drop (i * k)) ∧ w.grownBy w' v.ownBlock ∧ (v.ownBlock = some g ∨ w.heap.size ≤ g)) :
    ECall P f [.row 0, .dat (.int .i64 i), .row 1] [(0, .rows T k es true), (1, .rows T k [x] true)] 2 (.row 2) [(0, .dead), (1, .dead), (2, .rows T k (es.take i ++ x :: es.drop i) true)] 1 := by
  refine ⟨hcall, fun r A w vs hr hc hs hv => ?_⟩
  obtain ⟨v0, v1, v2, rfl⟩ : ∃ v0 v1 v2, vs = #[v0, v1, v2] := by
    match vs, hs with
    | ⟨[v0, v1, v2]⟩, _ => exact ⟨v0, v1, v2, rfl⟩
  have h0 : VRel r A v0 (.row 0) := hv 0 _ rfl
  have h1 : VRel r A v1 (.dat (.int .i64 i)) := hv 1 _ rfl
  have h2 : VRel r A v2 (.row 1) := hv 2 _ rfl
  obtain rfl : v1 = .int .i64 i := by
    cases h1 with | dat hr => cases hr; rfl
  have e0 := hc.ent 0
  have e1 := hc.ent 1
  rw [get_two, if_pos rfl] at e0
  rw [get_two, if_neg (by decide), if_pos rfl] at e1
  obtain ⟨k0, ⟨q1, q2⟩ | ⟨g, cap, cur, a1, a2, a3, a4, a5, a6, a7⟩⟩ := e0
  · subst q2; simp at hi
  obtain ⟨k1, ⟨q1, q2⟩ | ⟨vb, vc, xv, b1, b2, b3, b4, b5, b6, b7⟩⟩ := e1
  · cases q2
  cases h0 with
  | rowNil _ a ha hb => rw [hb] at a1; cases a1
  | row _ b n cap' hb =>
  rw [hb] at a1
  simp only [Option.some.injEq, Loc.mk.injEq] at a1
  obtain ⟨rfl, rfl, rfl⟩ := a1
  cases h2 with
  | rowNil _ a ha hb2 => rw [hb2] at b1; cases b1
  | row _ b2' n2 cap2 hb2 =>
  rw [hb2] at b1
  simp only [Option.some.injEq, Loc.mk.injEq, List.length_singleton] at b1
  obtain ⟨rfl, rfl, rfl⟩ := b1
  have hxl : x.length = k := k1 x (by simp)
  have hne : b ≠ b2' := fun e => by
    have := hc.dis 0 1 b rfl rfl (by simp [Rho.blk, hb]) (by simp [Rho.blk, hb2, e])
    cases this
  have hlen : es.length * k ≤ cur.size := by rw [a3]; exact Nat.mul_le_mul_right _ a5
  have hvlen : 1 * k ≤ xv.size := by rw [b3]; exact Nat.mul_le_mul_right _ b5
  rw [Nat.one_mul] at hvlen
  let cs := cur.toList.take (es.length * k)
  let xs := xv.toList.take k
  have hcsl : cs.length = es.length * k := by simp [cs]; omega
  have hxsl : xs.length = k := by simp [xs]; omega
  have hown : w.ownsRow 0 T k (.slice (some ⟨b, 0, none⟩) es.length cap') es.length cs := ⟨hcsl, .inr ⟨b, cap', cur, rfl, Nat.zero_le _, a2, a5, a4, a3, rfl⟩⟩
  refine (hins es.length i _ cs xs b2' cap2 xv w hown b2 (fun e => hne (by simpa [Value.ownBlock] using e)) hxsl rfl b3 b5 (fun u hu => ?_) (fun u hu => row_cells k0 hlen a6 u hu) hn (by omega)).mono fun e w' he => ?_
  · have := row_cells (es := [x]) k1 (by simpa using hvlen) b6 u
    simp only [List.length_singleton, Nat.one_mul] at this
    exact this hu
  obtain ⟨g', cap3, rfl, ho, hgr, hat⟩ := he
  obtain ⟨hol, ⟨q1, _⟩ | ⟨g2, cap4, cur', q1, _, hg', hle', hcm', hsz', ht'⟩⟩ := ho
  · cases q1
  simp only [Value.slice.injEq, Option.some.injEq, Addr.mk.injEq, and_true, true_and] at q1
  obtain ⟨rfl, rfl⟩ := q1
  have hr2 : r 2 = none := hr 2 (Nat.le_refl _)
  have hsub := Rho.set_sub (l := ⟨some g', es.length + 1, cap3⟩) hr2
  have hlb : ∀ x, LiveB r (Heap.get [(0, .rows T k es true), (1, .rows T k [x] true)]) b := fun x => ⟨0, rfl, by simp [Rho.blk, hb]⟩
  have hAg : ∀ o, A g' o = none := fun o => by
    rcases hat with e | e
    · have : b = g' := by simpa [Value.ownBlock] using e
      rw [← this]; exact a7 o
    · cases hA : A g' o with
      | none => rfl
      | some v => have := hc.view_lt hA; omega
  have hfr : Fr w A w' A (fun x => x = b) := ⟨hgr.os, hgr.tape, hgr.output, hgr.size, fun y hy hny => hgr.block y hy (by simpa [Value.ownBlock] using hny), Sub.refl A, fun _ _ _ => rfl⟩
  have hnew : (es.take i ++ x :: es.drop i).length = es.length + 1 := by simp; omega
  refine ⟨_, r.set 2 ⟨some g', es.length + 1, cap3⟩, A, .row 2, _, 3, rfl, ⟨rfl, rfl, rfl⟩, by decide, fun h hh => Rho.set_ne (by omega), fun h hh => (Rho.set_ne (by omega)).trans (hr h (by omega)), ⟨fun b3 o v hA => ?_, fun h => ?_, fun h h' b3 hl hl' _ _ => ?_⟩, .row 2 g' _ cap3 Rho.set_same, hfr.weaken fun y hy => by rw [hy]; exact hlb x, fun b3 hb3 => ?_⟩
  · have hv3 := hc.view b3 o v hA
    have hny : b3 ≠ b := fun e => by rw [e, a7] at hA; cases hA
    rw [← hv3]
    exact World.cell?_of_block (w := w) (hfr.block b3 (cell_lt' hv3) hny)
  · rw [get_three]
    by_cases hh : h = 2
    · subst hh
      rw [if_pos rfl]
      refine ⟨fun e he => ?_, .inr ⟨g', cap3, cur', by rw [Rho.set_same, hnew], hg', hsz', hcm', by rw [hnew]; exact hle', fun i' e he j d hd => ?_, hAg⟩⟩
      · rcases List.mem_append.1 he with he | he
        · exact k0 e (List.mem_of_mem_take he)
        · rcases List.mem_cons.1 he with rfl | he
          · exact hxl
          · exact k0 e (List.mem_of_mem_drop he)
      · have hi' : i' < es.length + 1 := by rw [← hnew]; exact (List.getElem?_eq_some_iff.1 he).1
        have hel : e.length = k := by
          rcases List.mem_append.1 (List.mem_of_getElem? he) with he | he
          · exact k0 e (List.mem_of_mem_take he)
          · rcases List.mem_cons.1 he with rfl | he
            · exact hxl
            · exact k0 e (List.mem_of_mem_drop he)
        have hj : j < k := by rw [← hel]; exact (List.getElem?_eq_some_iff.1 hd).1
        have hpos : i' * k + j < (es.length + 1) * k := by
          have h5 : (i' + 1) * k ≤ (es.length + 1) * k := Nat.mul_le_mul_right _ hi'
          rw [Nat.add_mul, Nat.one_mul] at h5
          omega
        have hcell : cur'.getD (i' * k + j) undef = ((cs.take (i * k) ++ xs ++ cs.drop (i * k))[i' * k + j]?).getD undef := by
          rw [← ht', List.getElem?_take, if_pos hpos, Array.getElem?_toList, Array.getD_eq_getD_getElem?]
        rw [hcell]
        have hti : (cs.take (i * k)).length = i * k := by
          rw [List.length_take, hcsl]
          exact Nat.min_eq_left (Nat.mul_le_mul_right _ (by omega))
        have csg : ∀ p, p < es.length * k → cs[p]? = cur[p]? := fun p hp => by
          simp only [cs]
          rw [List.getElem?_take, if_pos hp, Array.getElem?_toList]
        rcases Nat.lt_trichotomy i' i with hlt | heq | hgt
        · rw [List.getElem?_append_left (by simp; omega)] at he
          rw [List.getElem?_take, if_pos hlt] at he
          have hp1 : i' * k + j < i * k := by
            have h5 : (i' + 1) * k ≤ i * k := Nat.mul_le_mul_right _ hlt
            rw [Nat.add_mul, Nat.one_mul] at h5
            omega
          rw [List.append_assoc, List.getElem?_append_left (by rw [hti]; exact hp1), List.getElem?_take, if_pos hp1, csg _ (Nat.lt_of_lt_of_le hp1 (Nat.mul_le_mul_right _ (by omega))), ← Array.getD_eq_getD_getElem?]
          exact a6 i' e he j d hd
        · subst heq
          rw [List.getElem?_append_right (by simp; omega)] at he
          have : i' - (es.take i').length = 0 := by simp; omega
          rw [this] at he
          obtain rfl : x = e := by simpa using he
          rw [List.append_assoc, List.getElem?_append_right (by rw [hti]; omega), hti, show i' * k + j - i' * k = j by omega, List.getElem?_append_left (by rw [hxsl]; exact hj)]
          simp only [xs]
          rw [List.getElem?_take, if_pos hj, Array.getElem?_toList, ← Array.getD_eq_getD_getElem?]
          have := b6 0 x rfl j d hd
          rwa [Nat.zero_mul, Nat.zero_add] at this
        · rw [List.getElem?_append_right (by simp; omega)] at he
          have hsub1 : i' - (es.take i).length = (i' - 1 - i) + 1 := by simp; omega
          rw [hsub1, List.getElem?_cons_succ, List.getElem?_drop, show i + (i' - 1 - i) = i' - 1 by omega] at he
          have hp2 : i * k + k ≤ i' * k + j := by
            have h5 : (i + 1) * k ≤ i' * k := Nat.mul_le_mul_right _ hgt
            rw [Nat.add_mul, Nat.one_mul] at h5
            omega
          have hp3 : i' * k + j - k = (i' - 1) * k + j := by
            rw [Nat.sub_mul, Nat.one_mul]
            have h5 : 1 * k ≤ i' * k := Nat.mul_le_mul_right _ (by omega)
            rw [Nat.one_mul] at h5
            omega
          have h7 : (es.length + 1) * k = es.length * k + k := by rw [Nat.add_mul, Nat.one_mul]
          have h9 : (i' - 1) * k + j < es.length * k := by
            have h5 : 1 * k ≤ i' * k := Nat.mul_le_mul_right _ (by omega)
            rw [Nat.one_mul] at h5
            omega
          rw [List.getElem?_append_right (by rw [List.length_append, hti, hxsl]; exact hp2), List.length_append, hti, hxsl, List.getElem?_drop, show i * k + (i' * k + j - (i * k + k)) = i' * k + j - k by omega, hp3, csg _ h9, ← Array.getD_eq_getD_getElem?]
          exact a6 (i' - 1) e he j d hd
    · rw [if_neg hh]; trivial
  · rw [get_three] at hl hl'
    by_cases hh : h = 2
    · by_cases hh' : h' = 2
      · rw [hh, hh']
      · rw [if_neg hh'] at hl'; cases hl'
    · rw [if_neg hh] at hl; cases hl
  · obtain ⟨h, hl, hbb⟩ := hb3
    rw [get_three] at hl
    by_cases hh : h = 2
    · subst hh
      obtain rfl : g' = b3 := by simpa [Rho.blk, Rho.set_same] using hbb
      rcases hat with e | e
      · have : b = g' := by simpa [Value.ownBlock] using e
        rw [← this]; exact .inl (hlb x)
      · exact .inr e
    · rw [if_neg hh] at hl; cases hl
end Go.Proofs.Ytlioojekjnigiae.AM
/- Orders: what must be of ids that are handed in; orders or not. -/
namespace Go.Proofs.Ytlioojekjnigiae.AM
set_option linter.unusedVariables false
set_option linter.unusedSimpArgs false

def idsLoop (l : List Entry') (ahead : List Id) : List Id → Int
  | [] => 0
  | x :: t => if l.any (isThe x) = false then 5 else if hasId ahead x = true then 6 else idsLoop l (ahead ++ [x]) t
def idsErr (l : List Entry') (ids : List Id) : Int := if logErr l = 0 then idsLoop l [] ids else logErr l
theorem idsLoop_iff {l : List Entry'} : ∀ {t ahead : List Id}, idsLoop l ahead t = 0 ↔ (∀ x ∈ t, ∃ e ∈ l, e.id = x) ∧ (∀ x ∈ t, x ∉ ahead) ∧ t.Nodup
  | [], ahead => by simp [idsLoop]
  | x :: t, ahead => by
    unfold idsLoop
    by_cases h1 : l.any (isThe x) = false
    · rw [if_pos h1]
      refine ⟨fun h => by simp at h, fun h => ?_⟩
      have := any_isThe.2 (h.1 x (by simp))
      rw [h1] at this; cases this
    · rw [if_neg h1]
      have h1' : ∃ e ∈ l, e.id = x := any_isThe.1 (by simpa using h1)
      by_cases h2 : hasId ahead x = true
      · rw [if_pos h2]
        refine ⟨fun h => by simp at h, fun h => absurd (hasId_iff.1 h2) (h.2.1 x (by simp))⟩
      · rw [if_neg h2, idsLoop_iff (t := t)]
        have h2' : x ∉ ahead := fun h => h2 (hasId_iff.2 h)
        constructor
        · rintro ⟨k1, k2, k3⟩
          refine ⟨fun y hy => ?_, fun y hy => ?_, List.nodup_cons.2 ⟨fun hx => k2 x hx (by simp), k3⟩⟩
          · rcases List.mem_cons.1 hy with rfl | hy
            · exact h1'
            · exact k1 y hy
          · rcases List.mem_cons.1 hy with rfl | hy
            · exact h2'
            · exact fun hh => k2 y hy (by simp [hh])
        · rintro ⟨k1, k2, k3⟩
          rw [List.nodup_cons] at k3
          refine ⟨fun y hy => k1 y (by simp [hy]), fun y hy hm => ?_, k3.2⟩
          rcases List.mem_append.1 hm with hm | hm
          · exact k2 y (by simp [hy]) hm
          · simp only [List.mem_singleton] at hm
            subst hm
            exact k3.1 hy
theorem idsErr_ok {l : List Entry'} {ids : List Id} (h : idsErr l ids = 0) : Right l ∧ (∀ x ∈ ids, ∃ e ∈ l, e.id = x) ∧ ids.Nodup := by
  unfold idsErr at h
  split at h
  · rename_i h1
    obtain ⟨k1, _, k3⟩ := idsLoop_iff.1 h
    exact ⟨right_iff.1 h1, k1, k3⟩
  · rename_i h1; exact absurd h h1
theorem nodup_len : ∀ {a b : List Id}, a.Nodup → (∀ x ∈ a, x ∈ b) → a.length ≤ b.length
  | [], b, _, _ => Nat.zero_le _
  | x :: t, b, h, hs => by
    rw [List.nodup_cons] at h
    have hx := hs x (by simp)
    have := nodup_len (a := t) (b := b.erase x) h.2 fun y hy => (List.mem_erase_of_ne (fun e => h.1 (by rw [← e]; exact hy))).2 (hs y (by simp [hy]))
    rw [List.length_erase_of_mem hx] at this
    have := List.length_pos_of_mem hx
    simp only [List.length_cons]
    omega
/-- Ids of a log, each once, are no more than it. -/
theorem ids_len {l : List Entry'} {ids : List Id} (h1 : ∀ x ∈ ids, ∃ e ∈ l, e.id = x) (h2 : ids.Nodup) : ids.length ≤ l.length := by
  have := nodup_len (b := l.map (·.id)) h2 fun x hx => by
    obtain ⟨e, he, rfl⟩ := h1 x hx
    exact List.mem_map_of_mem he
  simpa using this
theorem check1_ok (x : Id) (e : Entry') : PCall Try.prog 63 [e.arg, .dat (.ptr x.enc)] (dBool (isThe x e)) := by
  refine pcall_intro tab_all tab_mixed Try.func63 (by kernel_rfl) Try.ntmps63 rfl ?_
  conv => whnf
  exact Ret.bool rfl
set_option maxHeartbeats 0 in
theorem orderCheck_ok (l : List Entry') (hl : LogOk l) (ids : List Id) (hi : ids.length ≤ 140737488355327) : PCall Try.prog 38 [.dat (.list (l.map Entry'.enc)), .dat (.list (ids.map Id.enc))] (dInt (idsErr l ids)) := by
  refine pcall_cut tab_all tab_mixed Try.func38 (by kernel_rfl) Try.ntmps38 rfl ?_
  conv => whnf
  conv => whnf
  repeat (first | (refine Conf.mk (by kernel_rfl) ?_; conv => whnf) | (refine SeqOk.go ?_; conv => whnf))
  refine .data _ _ (dagCheck_ok l hl) rfl ?_
  conv => whnf
  repeat (first | (refine Conf.mk (by kernel_rfl) ?_; conv => whnf) | (refine SeqOk.go ?_; conv => whnf))
  by_cases h0 : logErr l = 0
  · have he : idsErr l ids = idsLoop l [] ids := by unfold idsErr; rw [if_pos h0]
    refine BoolCase.no (by rw [h0]; rfl) ?_
    conv => whnf
    repeat (first | (refine Conf.mk (by kernel_rfl) ?_; conv => whnf) | (refine SeqOk.go ?_; conv => whnf))
    refine LoopOk.hide fun Q1 hQ1 => ?_
    refine LoopOk.mk (fun m s => ∃ i, i + m = ids.length ∧ idsErr l ids = idsLoop l (ids.take i) (ids.drop i) ∧ s = ⟨[(15, dInt i), (14, dInt (ids.map Id.enc).length), (13, .dat (.list (ids.map Id.enc))), (0, .dat (.list (l.map Entry'.enc))), (1, .dat (.list (ids.map Id.enc)))], 0, []⟩) ids.length (Into.mono (Into.to [] [(15, dInt (0 : Nat)), (14, dInt (ids.map Id.enc).length), (13, .dat (.list (ids.map Id.enc))), (0, .dat (.list (l.map Entry'.enc))), (1, .dat (.list (ids.map Id.enc)))] [] (by repeat (first | exact trivial | refine ⟨.same (congrArg dInt (wrap_up (by omega))), ?_⟩ | refine ⟨.same rfl, ?_⟩ | refine ⟨.any _, ?_⟩)) trivial rfl rfl) fun s' h => ⟨0, by omega, he, h⟩) ?_
    rintro m s ⟨i, him, hp, rfl⟩
    conv => whnf
    repeat (first | (refine Conf.mk (by kernel_rfl) ?_; conv => whnf) | (refine SeqOk.go ?_; conv => whnf))
    refine ⟨fun h => ?_, fun h => ?_⟩
    · have hi' := lt_of_len h
      rw [List.drop_eq_getElem_cons hi', idsLoop] at hp
      conv => whnf
      repeat (first | (refine Conf.mk (by kernel_rfl) ?_; conv => whnf) | (refine SeqOk.go ?_; conv => whnf))
      refine AtIdx.ofMap hi' rfl ?_
      conv => whnf
      repeat (first | (refine Conf.mk (by kernel_rfl) ?_; conv => whnf) | (refine SeqOk.go ?_; conv => whnf))
      refine .look _ _ (containsFunc_entry hl.len fun e _ => check1_ok ids[i] e) rfl rfl ?_
      conv => whnf
      repeat (first | (refine Conf.mk (by kernel_rfl) ?_; conv => whnf) | (refine SeqOk.go ?_; conv => whnf))
      refine ⟨fun h2 => ?_, fun h2 => ?_⟩
      · have h2 : l.any (isThe ids[i]) = false := (Bool.not_eq_true' _).mp h2
        conv => whnf
        repeat (first | (refine Conf.mk (by kernel_rfl) ?_; conv => whnf) | (refine SeqOk.go ?_; conv => whnf))
        subst hQ1
        conv => whnf
        exact Ret.int (by rw [hp, if_pos h2])
      · have h2 : l.any (isThe ids[i]) = true := (Bool.not_eq_false' (b := l.any (isThe ids[i]))).mp h2
        rw [if_neg (by simp [h2])] at hp
        conv => whnf
        repeat (first | (refine Conf.mk (by kernel_rfl) ?_; conv => whnf) | (refine SeqOk.go ?_; conv => whnf))
        refine .mk 0 i rfl rfl (Nat.zero_le _) (by simp; omega) ?_
        rw [List.map_take.symm]
        conv => whnf
        repeat (first | (refine Conf.mk (by kernel_rfl) ?_; conv => whnf) | (refine SeqOk.go ?_; conv => whnf))
        refine .look _ _ (containsId_ok ids[i] (ids.take i) (by rw [List.length_take]; omega)) rfl rfl ?_
        conv => whnf
        repeat (first | (refine Conf.mk (by kernel_rfl) ?_; conv => whnf) | (refine SeqOk.go ?_; conv => whnf))
        refine ⟨fun h3 => ?_, fun h3 => ?_⟩
        · have h3 : hasId (ids.take i) ids[i] = true := hasId_iff.2 (any_isId2.1 h3)
          conv => whnf
          repeat (first | (refine Conf.mk (by kernel_rfl) ?_; conv => whnf) | (refine SeqOk.go ?_; conv => whnf))
          subst hQ1
          conv => whnf
          exact Ret.int (by rw [hp, if_pos h3])
        · have h3 : ¬ hasId (ids.take i) ids[i] = true := fun k => by
            have := any_isId2.2 (hasId_iff.1 k)
            rw [h3] at this; cases this
          rw [if_neg h3, ← take_snoc hi'] at hp
          conv => whnf
          repeat (first | (refine Conf.mk (by kernel_rfl) ?_; conv => whnf) | (refine SeqOk.go ?_; conv => whnf))
          exact Into.mono (Into.to [] [(15, dInt (i + 1 : Nat)), (14, dInt (ids.map Id.enc).length), (13, .dat (.list (ids.map Id.enc))), (0, .dat (.list (l.map Entry'.enc))), (1, .dat (.list (ids.map Id.enc)))] [] (by repeat (first | exact trivial | refine ⟨.same (congrArg dInt (wrap_up (by omega))), ?_⟩ | refine ⟨.same rfl, ?_⟩ | refine ⟨.any _, ?_⟩)) trivial rfl rfl) fun s' h => ⟨m - 1, by omega, i + 1, by omega, hp, h⟩
    · have hi' := ge_of_len h
      conv => whnf
      repeat (first | (refine Conf.mk (by kernel_rfl) ?_; conv => whnf) | (refine SeqOk.go ?_; conv => whnf))
      subst hQ1
      conv => whnf
      exact Ret.int (by rw [hp, List.drop_eq_nil_of_le hi']; rfl)
  · have he : idsErr l ids = logErr l := by unfold idsErr; rw [if_neg h0]
    refine BoolCase.yes (by simpa using h0) ?_
    conv => whnf
    repeat (first | (refine Conf.mk (by kernel_rfl) ?_; conv => whnf) | (refine SeqOk.go ?_; conv => whnf))
    exact Ret.int (by rw [he])
set_option maxHeartbeats 0 in
theorem checkIds_ok (l : List Entry') (hl : LogOk l) (ids : List Id) (hi : ids.length ≤ 140737488355327) : PCall Try.prog 27 [.dat (.list (l.map Entry'.enc)), .dat (.list (ids.map Id.enc))] (dInt (idsLoop l [] ids)) := by
  refine pcall_cut tab_all tab_mixed Try.func27 (by kernel_rfl) Try.ntmps27 rfl ?_
  conv => whnf
  conv => whnf
  repeat (first | (refine Conf.mk (by kernel_rfl) ?_; conv => whnf) | (refine SeqOk.go ?_; conv => whnf))
  refine LoopOk.hide fun Q1 hQ1 => ?_
  refine LoopOk.mk (fun m s => ∃ i, i + m = ids.length ∧ idsLoop l [] ids = idsLoop l (ids.take i) (ids.drop i) ∧ s = ⟨[(5, dInt i), (0, .dat (.list (l.map Entry'.enc))), (1, .dat (.list (ids.map Id.enc)))], 0, []⟩) ids.length (Into.mono (Into.to [] [(5, dInt (0 : Nat)), (0, .dat (.list (l.map Entry'.enc))), (1, .dat (.list (ids.map Id.enc)))] [] (by repeat (first | exact trivial | refine ⟨.same (congrArg dInt (wrap_up (by omega))), ?_⟩ | refine ⟨.same rfl, ?_⟩ | refine ⟨.any _, ?_⟩)) trivial rfl rfl) fun s' h => ⟨0, by omega, rfl, h⟩) ?_
  rintro m s ⟨i, him, hp, rfl⟩
  conv => whnf
  repeat (first | (refine Conf.mk (by kernel_rfl) ?_; conv => whnf) | (refine SeqOk.go ?_; conv => whnf))
  refine ⟨fun h => ?_, fun h => ?_⟩
  · have hi' := lt_of_len h
    rw [List.drop_eq_getElem_cons hi', idsLoop] at hp
    conv => whnf
    repeat (first | (refine Conf.mk (by kernel_rfl) ?_; conv => whnf) | (refine SeqOk.go ?_; conv => whnf))
    refine AtIdx.ofMap hi' rfl ?_
    conv => whnf
    repeat (first | (refine Conf.mk (by kernel_rfl) ?_; conv => whnf) | (refine SeqOk.go ?_; conv => whnf))
    refine .look _ _ (entryAt_ok ids[i] l hl.len) rfl rfl ?_
    conv => whnf
    repeat (first | (refine Conf.mk (by kernel_rfl) ?_; conv => whnf) | (refine SeqOk.go ?_; conv => whnf))
    refine ⟨fun h2 => ?_, fun h2 => ?_⟩
    · have h2 : l.any (isThe ids[i]) = false := by
        rw [Bool.eq_false_iff]
        intro k
        have := entryAt_iff.2 k
        simp at h2
        omega
      conv => whnf
      repeat (first | (refine Conf.mk (by kernel_rfl) ?_; conv => whnf) | (refine SeqOk.go ?_; conv => whnf))
      subst hQ1
      conv => whnf
      exact Ret.int (by rw [hp, if_pos h2])
    · have h2 : l.any (isThe ids[i]) = true := entryAt_iff.1 (by simpa using h2)
      rw [if_neg (by simp [h2])] at hp
      conv => whnf
      repeat (first | (refine Conf.mk (by kernel_rfl) ?_; conv => whnf) | (refine SeqOk.go ?_; conv => whnf))
      refine .mk 0 i rfl rfl (Nat.zero_le _) (by simp; omega) ?_
      rw [List.map_take.symm]
      conv => whnf
      repeat (first | (refine Conf.mk (by kernel_rfl) ?_; conv => whnf) | (refine SeqOk.go ?_; conv => whnf))
      refine AtIdx.ofMap hi' rfl ?_
      conv => whnf
      repeat (first | (refine Conf.mk (by kernel_rfl) ?_; conv => whnf) | (refine SeqOk.go ?_; conv => whnf))
      refine .look _ _ (hasId_ok ids[i] (ids.take i) (by rw [List.length_take]; omega)) rfl rfl ?_
      conv => whnf
      repeat (first | (refine Conf.mk (by kernel_rfl) ?_; conv => whnf) | (refine SeqOk.go ?_; conv => whnf))
      refine ⟨fun h3 => ?_, fun h3 => ?_⟩
      · conv => whnf
        repeat (first | (refine Conf.mk (by kernel_rfl) ?_; conv => whnf) | (refine SeqOk.go ?_; conv => whnf))
        subst hQ1
        conv => whnf
        exact Ret.int (by rw [hp, if_pos h3])
      · rw [if_neg (by simp [h3]), ← take_snoc hi'] at hp
        conv => whnf
        repeat (first | (refine Conf.mk (by kernel_rfl) ?_; conv => whnf) | (refine SeqOk.go ?_; conv => whnf))
        exact Into.mono (Into.to [] [(5, dInt (i + 1 : Nat)), (0, .dat (.list (l.map Entry'.enc))), (1, .dat (.list (ids.map Id.enc)))] [] (by repeat (first | exact trivial | refine ⟨.same (congrArg dInt (wrap_up (by omega))), ?_⟩ | refine ⟨.same rfl, ?_⟩ | refine ⟨.any _, ?_⟩)) trivial rfl rfl) fun s' h => ⟨m - 1, by omega, i + 1, by omega, hp, h⟩
  · have hi' := ge_of_len h
    conv => whnf
    repeat (first | (refine Conf.mk (by kernel_rfl) ?_; conv => whnf) | (refine SeqOk.go ?_; conv => whnf))
    subst hQ1
    conv => whnf
    exact Ret.int (by rw [hp, List.drop_eq_nil_of_le hi']; rfl)
end Go.Proofs.Ytlioojekjnigiae.AM
/- Orders: is it one; may one come. -/
namespace Go.Proofs.Ytlioojekjnigiae.AM
set_option linter.unusedVariables false
set_option linter.unusedSimpArgs false
theorem map_drop' {α β : Type} {f : α → β} {l : List α} {i : Nat} : (l.map f).drop i = (l.drop i).map f := by rw [List.map_drop]
theorem map_take' {α β : Type} {f : α → β} {l : List α} {i : Nat} : (l.map f).take i = (l.take i).map f := by rw [List.map_take]
set_option maxHeartbeats 0 in
theorem indexFunc_id {cl : Nat} {ds : List D} {ids : List Id} {p : Id → Bool} (hl : ids.length ≤ 140737488355327) (hcl : ∀ x ∈ ids, PCall Try.prog cl [x.arg, .dat (.ptr ds)] (dBool (p x))) :
    PCall Try.prog 64 [.dat (.list (ids.map Id.enc)), .fn (.func cl) [] [.dat (.ptr ds)]] (dInt (idxOf (isIdx p ids 0))) := by
  refine pcall_cut tab_all tab_mixed Try.func64 (by kernel_rfl) Try.ntmps64 rfl ?_
  conv => whnf
  conv => whnf
  repeat (first | (refine Conf.mk (by kernel_rfl) ?_; conv => whnf) | (refine SeqOk.go ?_; conv => whnf))
  refine LoopOk.hide fun Q1 hQ1 => ?_
  refine LoopOk.mk (fun m s => ∃ i, i + m = ids.length ∧ isIdx p ids 0 = isIdx p (ids.drop i) i ∧ s = ⟨[(8, dInt i), (7, dInt (ids.map Id.enc).length), (1, .fn (.func cl) [] [.dat (.ptr ds)]), (0, .dat (.list (ids.map Id.enc)))], 0, []⟩) ids.length (Into.mono (Into.to [] [(8, dInt (0 : Nat)), (7, dInt (ids.map Id.enc).length), (1, .fn (.func cl) [] [.dat (.ptr ds)]), (0, .dat (.list (ids.map Id.enc)))] [] (by repeat (first | exact trivial | refine ⟨.same (congrArg dInt (wrap_up (by omega))), ?_⟩ | refine ⟨.same rfl, ?_⟩ | refine ⟨.any _, ?_⟩)) trivial rfl rfl) fun s' h => ⟨0, by omega, rfl, h⟩) ?_
  rintro m s ⟨i, hi, hp, rfl⟩
  conv => whnf
  repeat (first | (refine Conf.mk (by kernel_rfl) ?_; conv => whnf) | (refine SeqOk.go ?_; conv => whnf))
  refine ⟨fun h => ?_, fun h => ?_⟩
  · have hi' := lt_of_len h
    rw [List.drop_eq_getElem_cons hi'] at hp
    conv => whnf
    repeat (first | (refine Conf.mk (by kernel_rfl) ?_; conv => whnf) | (refine SeqOk.go ?_; conv => whnf))
    refine AtIdx.ofMap hi' rfl ?_
    conv => whnf
    repeat (first | (refine Conf.mk (by kernel_rfl) ?_; conv => whnf) | (refine SeqOk.go ?_; conv => whnf))
    refine .look _ _ (hcl ids[i] (List.getElem_mem hi')) rfl rfl ?_
    conv => whnf
    repeat (first | (refine Conf.mk (by kernel_rfl) ?_; conv => whnf) | (refine SeqOk.go ?_; conv => whnf))
    refine ⟨fun h => ?_, fun h => ?_⟩
    · conv => whnf
      repeat (first | (refine Conf.mk (by kernel_rfl) ?_; conv => whnf) | (refine SeqOk.go ?_; conv => whnf))
      subst hQ1
      conv => whnf
      exact Ret.int (by rw [hp]; simp [isIdx, h, idxOf])
    · conv => whnf
      repeat (first | (refine Conf.mk (by kernel_rfl) ?_; conv => whnf) | (refine SeqOk.go ?_; conv => whnf))
      exact Into.mono (Into.to [] [(8, dInt (i + 1 : Nat)), (7, dInt (ids.map Id.enc).length), (1, .fn (.func cl) [] [.dat (.ptr ds)]), (0, .dat (.list (ids.map Id.enc)))] [] (by repeat (first | exact trivial | refine ⟨.same (congrArg dInt (wrap_up (by omega))), ?_⟩ | refine ⟨.same rfl, ?_⟩ | refine ⟨.any _, ?_⟩)) trivial rfl rfl) fun s' h' => ⟨m - 1, by omega, i + 1, by omega, by rw [hp]; simp [isIdx, h], h'⟩
  · conv => whnf
    repeat (first | (refine Conf.mk (by kernel_rfl) ?_; conv => whnf) | (refine SeqOk.go ?_; conv => whnf))
    subst hQ1
    conv => whnf
    exact Ret.int (by rw [hp, List.drop_eq_nil_of_le (ge_of_len h)]; rfl)
theorem containsFunc_id {cl : Nat} {ds : List D} {ids : List Id} {p : Id → Bool} (hl : ids.length ≤ 140737488355327) (hcl : ∀ x ∈ ids, PCall Try.prog cl [x.arg, .dat (.ptr ds)] (dBool (p x))) :
    PCall Try.prog 40 [.dat (.list (ids.map Id.enc)), .fn (.func cl) [] [.dat (.ptr ds)]] (dBool (ids.any p)) := by
  refine pcall_intro tab_all tab_mixed Try.func40 (by kernel_rfl) Try.ntmps40 rfl ?_
  conv => whnf
  refine .look _ _ (indexFunc_id hl hcl) rfl rfl ?_
  conv => whnf
  exact Ret.bool (by rw [← idx_any p ids 0])
theorem orderPastOf_ok (l : List Entry') (hl : LogOk l) (x : Id) : PCall Try.prog 39 [.dat (.list (l.map Entry'.enc)), x.arg] (.dat (.list ((pastAns l x).map Id.enc))) := by
  refine pcall_intro tab_all tab_mixed Try.func39 (by kernel_rfl) Try.ntmps39 rfl ?_
  conv => whnf
  refine .data _ _ (past_ok l hl x) rfl ?_
  conv => whnf
  repeat (first | (refine Conf.mk (by kernel_rfl) ?_; conv => whnf) | (refine SeqOk.go ?_; conv => whnf))
  exact Ret.to rfl
theorem orderPast_in {l : List Entry'} (hr : Right l) {x : Id} (h : ∃ e ∈ l, e.id = x) : PCall Try.prog 39 [.dat (.list (l.map Entry'.enc)), x.arg] (.dat (.list ((pastOfId l x).map Id.enc))) := by
  refine pcall_intro tab_all tab_mixed Try.func39 (by kernel_rfl) Try.ntmps39 rfl ?_
  conv => whnf
  refine .data _ _ (past_in hr h) rfl ?_
  conv => whnf
  repeat (first | (refine Conf.mk (by kernel_rfl) ?_; conv => whnf) | (refine SeqOk.go ?_; conv => whnf))
  exact Ret.to rfl
theorem is1_ok (past : List Id) (hp : past.length ≤ 140737488355328) (x : Id) : PCall Try.prog 41 [x.arg, .dat (.ptr [.list (past.map Id.enc)])] (dBool (past.any (isId2 x))) := by
  refine pcall_intro tab_all tab_mixed Try.func41 (by kernel_rfl) Try.ntmps41 rfl ?_
  conv => whnf
  refine .look _ _ (containsId_ok x past hp) rfl rfl ?_
  conv => whnf
  repeat (first | (refine Conf.mk (by kernel_rfl) ?_; conv => whnf) | (refine SeqOk.go ?_; conv => whnf))
  exact Ret.bool rfl
theorem all_not (t past : List Id) : t.all (fun y => !hasId past y) = !(t.any fun x => past.any (isId2 x)) := by
  have e : (fun x => past.any (isId2 x)) = hasId past := funext fun x => by rw [Bool.eq_iff_iff, any_isId2, hasId_iff]
  rw [e]
  induction t with
  | nil => rfl
  | cons x t ih => rw [List.all_cons, List.any_cons, ih, Bool.not_or]
def isAns (l : List Entry') (ids : List Id) : Bool := decide (idsErr l ids = 0) && isOrder l ids
set_option maxHeartbeats 0 in
theorem Is_ok (l : List Entry') (hl : LogOk l) (ids : List Id) (hi : ids.length ≤ 140737488355326) : PCall Try.prog 16 [.dat (.list (l.map Entry'.enc)), .dat (.list (ids.map Id.enc))] (.tup [dBool (isAns l ids), dInt (idsErr l ids)]) := by
  refine pcall_cut tab_all tab_mixed Try.func16 (by kernel_rfl) Try.ntmps16 rfl ?_
  conv => whnf
  conv => whnf
  repeat (first | (refine Conf.mk (by kernel_rfl) ?_; conv => whnf) | (refine SeqOk.go ?_; conv => whnf))
  refine .data _ _ (orderCheck_ok l hl ids (by omega)) rfl ?_
  conv => whnf
  repeat (first | (refine Conf.mk (by kernel_rfl) ?_; conv => whnf) | (refine SeqOk.go ?_; conv => whnf))
  by_cases h0 : idsErr l ids = 0
  · obtain ⟨hr, hin, hnd⟩ := idsErr_ok h0
    have ha : isAns l ids = isOrder l ids := by unfold isAns; rw [h0]; rfl
    refine BoolCase.no (by rw [h0]; rfl) ?_
    conv => whnf
    repeat (first | (refine Conf.mk (by kernel_rfl) ?_; conv => whnf) | (refine SeqOk.go ?_; conv => whnf))
    refine LoopOk.hide fun Q1 hQ1 => ?_
    refine LoopOk.mk (fun m s => ∃ i, i + m = ids.length ∧ isOrder l ids = isOrder l (ids.drop i) ∧ s = ⟨[(18, dInt i), (17, dInt (ids.map Id.enc).length), (16, .dat (.list (ids.map Id.enc))), (0, .dat (.list (l.map Entry'.enc))), (1, .dat (.list (ids.map Id.enc)))], 0, []⟩) ids.length (Into.mono (Into.to [] [(18, dInt (0 : Nat)), (17, dInt (ids.map Id.enc).length), (16, .dat (.list (ids.map Id.enc))), (0, .dat (.list (l.map Entry'.enc))), (1, .dat (.list (ids.map Id.enc)))] [] (by repeat (first | exact trivial | refine ⟨.same (congrArg dInt (wrap_up (by omega))), ?_⟩ | refine ⟨.same rfl, ?_⟩ | refine ⟨.any _, ?_⟩)) trivial rfl rfl) fun s' h => ⟨0, by omega, rfl, h⟩) ?_
    rintro m s ⟨i, him, hp, rfl⟩
    conv => whnf
    repeat (first | (refine Conf.mk (by kernel_rfl) ?_; conv => whnf) | (refine SeqOk.go ?_; conv => whnf))
    refine ⟨fun h => ?_, fun h => ?_⟩
    · have hi' := lt_of_len h
      have hpl := pastOfId_len hr ids[i]
      rw [List.drop_eq_getElem_cons hi', isOrder] at hp
      conv => whnf
      repeat (first | (refine Conf.mk (by kernel_rfl) ?_; conv => whnf) | (refine SeqOk.go ?_; conv => whnf))
      refine AtIdx.ofMap hi' rfl ?_
      conv => whnf
      repeat (first | (refine Conf.mk (by kernel_rfl) ?_; conv => whnf) | (refine SeqOk.go ?_; conv => whnf))
      refine .data _ _ (orderPast_in hr (hin _ (List.getElem_mem hi'))) rfl ?_
      conv => whnf
      repeat (first | (refine Conf.mk (by kernel_rfl) ?_; conv => whnf) | (refine SeqOk.go ?_; conv => whnf))
      refine .mk (i + 1) ids.length (by rw [wrap_id (by omega) (by omega)]; rfl) (by simp) (by omega) (by simp) ?_
      refine ⟨by simp [Id.enc], ?_⟩
      rw [map_drop']
      conv => whnf
      repeat (first | (refine Conf.mk (by kernel_rfl) ?_; conv => whnf) | (refine SeqOk.go ?_; conv => whnf))
      refine .look _ _ (containsFunc_id (by rw [List.length_drop]; omega) fun x _ => is1_ok (pastOfId l ids[i]) (by omega) x) rfl rfl ?_
      conv => whnf
      repeat (first | (refine Conf.mk (by kernel_rfl) ?_; conv => whnf) | (refine SeqOk.go ?_; conv => whnf))
      have hb := all_not (ids.drop (i + 1)) (pastOfId l ids[i])
      rw [hb] at hp
      refine ⟨fun h2 => ?_, fun h2 => ?_⟩
      · rw [h2] at hp
        conv => whnf
        repeat (first | (refine Conf.mk (by kernel_rfl) ?_; conv => whnf) | (refine SeqOk.go ?_; conv => whnf))
        subst hQ1
        conv => whnf
        exact Ret.to (by rw [ha, h0, hp]; rfl)
      · rw [h2, Bool.not_false, Bool.true_and] at hp
        conv => whnf
        repeat (first | (refine Conf.mk (by kernel_rfl) ?_; conv => whnf) | (refine SeqOk.go ?_; conv => whnf))
        exact Into.mono (Into.to [] [(18, dInt (i + 1 : Nat)), (17, dInt (ids.map Id.enc).length), (16, .dat (.list (ids.map Id.enc))), (0, .dat (.list (l.map Entry'.enc))), (1, .dat (.list (ids.map Id.enc)))] [] (by repeat (first | exact trivial | refine ⟨.same (congrArg dInt (wrap_up (by omega))), ?_⟩ | refine ⟨.same rfl, ?_⟩ | refine ⟨.any _, ?_⟩)) trivial rfl rfl) fun s' h => ⟨m - 1, by omega, i + 1, by omega, hp, h⟩
    · conv => whnf
      repeat (first | (refine Conf.mk (by kernel_rfl) ?_; conv => whnf) | (refine SeqOk.go ?_; conv => whnf))
      subst hQ1
      conv => whnf
      exact Ret.to (by rw [ha, h0, hp, List.drop_eq_nil_of_le (ge_of_len h)]; rfl)
  · have ha : isAns l ids = false := by unfold isAns; rw [decide_eq_false h0]; rfl
    refine BoolCase.yes (by simpa using h0) ?_
    conv => whnf
    repeat (first | (refine Conf.mk (by kernel_rfl) ?_; conv => whnf) | (refine SeqOk.go ?_; conv => whnf))
    exact Ret.to (by rw [ha]; rfl)
set_option maxHeartbeats 0 in
theorem inPast_ok {l : List Entry'} (hr : Right l) {x y : Id} (hx : ∃ e ∈ l, e.id = x) (hy : ∃ e ∈ l, e.id = y) : PCall Try.prog 57 [.dat (.list (l.map Entry'.enc)), x.arg, y.arg] (dBool (hasId (pastOfId l y) x)) := by
  obtain ⟨i, hi, rfl⟩ := Right.idx_mem.1 hx
  obtain ⟨j, hj, rfl⟩ := Right.idx_mem.1 hy
  have hai : entryAt l l[i].id = (i : Int) := by rw [entryAt_eq, idx_of hr hi]; rfl
  have haj : entryAt l l[j].id = (j : Int) := by rw [entryAt_eq, idx_of hr hj]; rfl
  have hlen := hr.len
  have hei := entryAt_ok l[i].id l (by omega)
  have hej := entryAt_ok l[j].id l (by omega)
  rw [hai] at hei
  rw [haj] at hej
  have hpl : i < (pastBs l j).length := by rw [pastBs, pastB_length]; exact hi
  refine pcall_cut tab_all tab_mixed Try.func57 (by kernel_rfl) Try.ntmps57 rfl ?_
  conv => whnf
  conv => whnf
  repeat (first | (refine Conf.mk (by kernel_rfl) ?_; conv => whnf) | (refine SeqOk.go ?_; conv => whnf))
  refine .data _ _ hej rfl ?_
  conv => whnf
  repeat (first | (refine Conf.mk (by kernel_rfl) ?_; conv => whnf) | (refine SeqOk.go ?_; conv => whnf))
  refine .data _ _ (pastOfB_ok l hr j hj) rfl ?_
  conv => whnf
  repeat (first | (refine Conf.mk (by kernel_rfl) ?_; conv => whnf) | (refine SeqOk.go ?_; conv => whnf))
  refine .data _ _ hei rfl ?_
  conv => whnf
  repeat (first | (refine Conf.mk (by kernel_rfl) ?_; conv => whnf) | (refine SeqOk.go ?_; conv => whnf))
  refine AtIdx.ofMap hpl rfl ?_
  conv => whnf
  repeat (first | (refine Conf.mk (by kernel_rfl) ?_; conv => whnf) | (refine SeqOk.go ?_; conv => whnf))
  refine Ret.bool ?_
  rw [Bool.eq_iff_iff, hasId_iff, mem_pastOfId hr, ← pastBs_iff hr hj hi]
  unfold isIn
  rw [List.getElem?_eq_getElem hpl]
  rfl
set_option maxHeartbeats 0 in
theorem isOrderRef_ok {l : List Entry'} (hr : Right l) (ids : List Id) (hin : ∀ x ∈ ids, ∃ e ∈ l, e.id = x) (hi : ids.length ≤ 140737488355326) : PCall Try.prog 30 [.dat (.list (l.map Entry'.enc)), .dat (.list (ids.map Id.enc))] (dBool (isOrder l ids)) := by
  refine pcall_cut tab_all tab_mixed Try.func30 (by kernel_rfl) Try.ntmps30 rfl ?_
  conv => whnf
  conv => whnf
  repeat (first | (refine Conf.mk (by kernel_rfl) ?_; conv => whnf) | (refine SeqOk.go ?_; conv => whnf))
  refine LoopOk.hide fun Q1 hQ1 => ?_
  refine LoopOk.mk (fun m s => ∃ i, i + m = ids.length ∧ isOrder l ids = isOrder l (ids.drop i) ∧ s = ⟨[(5, dInt i), (0, .dat (.list (l.map Entry'.enc))), (1, .dat (.list (ids.map Id.enc)))], 0, []⟩) ids.length (Into.mono (Into.to [] [(5, dInt (0 : Nat)), (0, .dat (.list (l.map Entry'.enc))), (1, .dat (.list (ids.map Id.enc)))] [] (by repeat (first | exact trivial | refine ⟨.same (congrArg dInt (wrap_up (by omega))), ?_⟩ | refine ⟨.same rfl, ?_⟩ | refine ⟨.any _, ?_⟩)) trivial rfl rfl) fun s' h => ⟨0, by omega, rfl, h⟩) ?_
  rintro m s ⟨i, him, hp, rfl⟩
  conv => whnf
  repeat (first | (refine Conf.mk (by kernel_rfl) ?_; conv => whnf) | (refine SeqOk.go ?_; conv => whnf))
  refine ⟨fun h => ?_, fun h => ?_⟩
  · have hi' := lt_of_len h
    rw [List.drop_eq_getElem_cons hi', isOrder] at hp
    conv => whnf
    repeat (first | (refine Conf.mk (by kernel_rfl) ?_; conv => whnf) | (refine SeqOk.go ?_; conv => whnf))
    refine LoopOk.hide fun Q2 hQ2 => ?_
    refine LoopOk.mk (fun m s => ∃ k, k + m = ids.length ∧ i < k ∧ isOrder l ids = ((ids.drop k).all (fun y => !hasId (pastOfId l ids[i]) y) && isOrder l (ids.drop (i + 1))) ∧ s = ⟨[(6, dInt k), (5, dInt i), (0, .dat (.list (l.map Entry'.enc))), (1, .dat (.list (ids.map Id.enc)))], 0, []⟩) (ids.length - (i + 1)) (Into.mono (Into.to [] [(6, dInt (i + 1 : Nat)), (5, dInt i), (0, .dat (.list (l.map Entry'.enc))), (1, .dat (.list (ids.map Id.enc)))] [] (by repeat (first | exact trivial | refine ⟨.same (congrArg dInt (wrap_up (by omega))), ?_⟩ | refine ⟨.same rfl, ?_⟩ | refine ⟨.any _, ?_⟩)) trivial rfl rfl) fun s' h => ⟨i + 1, by omega, by omega, hp, h⟩) ?_
    rintro m' s ⟨k, hk, hik, hq, rfl⟩
    conv => whnf
    repeat (first | (refine Conf.mk (by kernel_rfl) ?_; conv => whnf) | (refine SeqOk.go ?_; conv => whnf))
    refine ⟨fun h2 => ?_, fun h2 => ?_⟩
    · have hk' := lt_of_len h2
      rw [List.drop_eq_getElem_cons hk', List.all_cons] at hq
      conv => whnf
      repeat (first | (refine Conf.mk (by kernel_rfl) ?_; conv => whnf) | (refine SeqOk.go ?_; conv => whnf))
      refine AtIdx.ofMap hk' rfl ?_
      conv => whnf
      repeat (first | (refine Conf.mk (by kernel_rfl) ?_; conv => whnf) | (refine SeqOk.go ?_; conv => whnf))
      refine AtIdx.ofMap hi' rfl ?_
      conv => whnf
      repeat (first | (refine Conf.mk (by kernel_rfl) ?_; conv => whnf) | (refine SeqOk.go ?_; conv => whnf))
      refine .look _ _ (inPast_ok hr (hin _ (List.getElem_mem hk')) (hin _ (List.getElem_mem hi'))) rfl rfl ?_
      conv => whnf
      repeat (first | (refine Conf.mk (by kernel_rfl) ?_; conv => whnf) | (refine SeqOk.go ?_; conv => whnf))
      refine ⟨fun h3 => ?_, fun h3 => ?_⟩
      · conv => whnf
        repeat (first | (refine Conf.mk (by kernel_rfl) ?_; conv => whnf) | (refine SeqOk.go ?_; conv => whnf))
        subst hQ2
        conv => whnf
        subst hQ1
        conv => whnf
        exact Ret.bool (by rw [hq, h3]; rfl)
      · conv => whnf
        repeat (first | (refine Conf.mk (by kernel_rfl) ?_; conv => whnf) | (refine SeqOk.go ?_; conv => whnf))
        exact Into.mono (Into.to [] [(6, dInt (k + 1 : Nat)), (5, dInt i), (0, .dat (.list (l.map Entry'.enc))), (1, .dat (.list (ids.map Id.enc)))] [] (by repeat (first | exact trivial | refine ⟨.same (congrArg dInt (wrap_up (by omega))), ?_⟩ | refine ⟨.same rfl, ?_⟩ | refine ⟨.any _, ?_⟩)) trivial rfl rfl) fun s' h => ⟨m' - 1, by omega, k + 1, by omega, by omega, by rw [hq, h3]; rfl, h⟩
    · rw [List.drop_eq_nil_of_le (ge_of_len h2)] at hq
      conv => whnf
      repeat (first | (refine Conf.mk (by kernel_rfl) ?_; conv => whnf) | (refine SeqOk.go ?_; conv => whnf))
      subst hQ2
      conv => whnf
      exact Into.mono (Into.to [] [(5, dInt (i + 1 : Nat)), (0, .dat (.list (l.map Entry'.enc))), (1, .dat (.list (ids.map Id.enc)))] [] (by repeat (first | exact trivial | refine ⟨.same (congrArg dInt (wrap_up (by omega))), ?_⟩ | refine ⟨.same rfl, ?_⟩ | refine ⟨.any _, ?_⟩)) trivial rfl rfl) fun s' h => ⟨m - 1, by omega, i + 1, by omega, hq, h⟩
  · conv => whnf
    repeat (first | (refine Conf.mk (by kernel_rfl) ?_; conv => whnf) | (refine SeqOk.go ?_; conv => whnf))
    subst hQ1
    conv => whnf
    exact Ret.bool (by rw [hp, List.drop_eq_nil_of_le (ge_of_len h)]; rfl)
set_option maxHeartbeats 0 in
theorem mayCome_ok {l : List Entry'} (hr : Right l) (c : Int) (i : Nat) (hi : i < l.length) (ids : List Id) (hl : ids.length ≤ 140737488355326) : PCall Try.prog 29 [.dat (.list (l.map Entry'.enc)), dInt c, dInt i, .dat (.list (ids.map Id.enc))] (dBool ((needs l c l[i].id).all (hasId ids))) := by
  have hlen := hr.len
  have hpl : (pastBs l i).length = l.length := by rw [pastBs, pastB_length]
  have hin : ∀ k (hk : k < l.length), isIn (pastBs l i) k = true → meets l[k].colors c = true → l[k].id ∈ needs l c l[i].id := fun k hk h1 h2 =>
    (mem_needs hr).2 ⟨(pastBs_iff hr hi hk).1 h1, colored_iff.2 ⟨l[k], List.getElem_mem hk, rfl, h2⟩⟩
  refine pcall_cut tab_all tab_mixed Try.func29 (by kernel_rfl) Try.ntmps29 rfl ?_
  conv => whnf
  conv => whnf
  repeat (first | (refine Conf.mk (by kernel_rfl) ?_; conv => whnf) | (refine SeqOk.go ?_; conv => whnf))
  refine .data _ _ (pastOfB_ok l hr i hi) rfl ?_
  conv => whnf
  repeat (first | (refine Conf.mk (by kernel_rfl) ?_; conv => whnf) | (refine SeqOk.go ?_; conv => whnf))
  refine LoopOk.hide fun Q1 hQ1 => ?_
  refine LoopOk.mk (fun m s => ∃ k, k + m = l.length ∧ (∀ j (hj : j < l.length), j < k → isIn (pastBs l i) j = true → meets l[j].colors c = true → hasId ids l[j].id = true) ∧ s = ⟨[(10, dInt k), (9, .dat (.list ((pastBs l i).map Bool.encB))), (0, .dat (.list (l.map Entry'.enc))), (1, dInt c), (3, .dat (.list (ids.map Id.enc)))], 0, []⟩) l.length (Into.mono (Into.to [] [(10, dInt (0 : Nat)), (9, .dat (.list ((pastBs l i).map Bool.encB))), (0, .dat (.list (l.map Entry'.enc))), (1, dInt c), (3, .dat (.list (ids.map Id.enc)))] [] (by repeat (first | exact trivial | refine ⟨.same (congrArg dInt (wrap_up (by omega))), ?_⟩ | refine ⟨.same rfl, ?_⟩ | refine ⟨.any _, ?_⟩)) trivial rfl rfl) fun s' h => ⟨0, by omega, fun j _ hj => by omega, h⟩) ?_
  rintro m s ⟨k, hk, hq, rfl⟩
  conv => whnf
  repeat (first | (refine Conf.mk (by kernel_rfl) ?_; conv => whnf) | (refine SeqOk.go ?_; conv => whnf))
  refine ⟨fun h => ?_, fun h => ?_⟩
  · have hk' := lt_of_len h
    have hkb : k < (pastBs l i).length := by omega
    have hib : isIn (pastBs l i) k = (pastBs l i)[k] := by unfold isIn; rw [List.getElem?_eq_getElem hkb]; rfl
    conv => whnf
    repeat (first | (refine Conf.mk (by kernel_rfl) ?_; conv => whnf) | (refine SeqOk.go ?_; conv => whnf))
    refine AtIdx.ofMap hkb rfl ?_
    conv => whnf
    repeat (first | (refine Conf.mk (by kernel_rfl) ?_; conv => whnf) | (refine SeqOk.go ?_; conv => whnf))
    refine ⟨fun h1 => ?_, fun h1 => ?_⟩
    · conv => whnf
      repeat (first | (refine Conf.mk (by kernel_rfl) ?_; conv => whnf) | (refine SeqOk.go ?_; conv => whnf))
      refine AtIdx.ofMap hk' rfl ?_
      conv => whnf
      repeat (first | (refine Conf.mk (by kernel_rfl) ?_; conv => whnf) | (refine SeqOk.go ?_; conv => whnf))
      refine .look _ _ (meets_ok l[k].colors c) rfl rfl ?_
      conv => whnf
      repeat (first | (refine Conf.mk (by kernel_rfl) ?_; conv => whnf) | (refine SeqOk.go ?_; conv => whnf))
      refine ⟨fun h2 => ?_, fun h2 => ?_⟩
      · conv => whnf
        repeat (first | (refine Conf.mk (by kernel_rfl) ?_; conv => whnf) | (refine SeqOk.go ?_; conv => whnf))
        refine AtIdx.ofMap hk' rfl ?_
        conv => whnf
        repeat (first | (refine Conf.mk (by kernel_rfl) ?_; conv => whnf) | (refine SeqOk.go ?_; conv => whnf))
        refine .look _ _ (hasId_ok l[k].id ids (by omega)) rfl rfl ?_
        conv => whnf
        repeat (first | (refine Conf.mk (by kernel_rfl) ?_; conv => whnf) | (refine SeqOk.go ?_; conv => whnf))
        refine ⟨fun h3 => ?_, fun h3 => ?_⟩
        · have h3 : hasId ids l[k].id = false := (Bool.not_eq_true' _).mp h3
          conv => whnf
          repeat (first | (refine Conf.mk (by kernel_rfl) ?_; conv => whnf) | (refine SeqOk.go ?_; conv => whnf))
          subst hQ1
          conv => whnf
          refine Ret.bool ?_
          symm
          rw [Bool.eq_false_iff]
          intro hh
          rw [List.all_eq_true] at hh
          have := hh _ (hin k hk' (hib.trans h1) h2)
          rw [h3] at this; cases this
        · have h3 : hasId ids l[k].id = true := (Bool.not_eq_false' (b := hasId ids l[k].id)).mp h3
          have hn : isIn (pastBs l i) k = true → meets l[k].colors c = true → hasId ids l[k].id = true := fun _ _ => h3
          conv => whnf
          repeat (first | (refine Conf.mk (by kernel_rfl) ?_; conv => whnf) | (refine SeqOk.go ?_; conv => whnf))
          exact Into.mono (Into.to [] [(10, dInt (k + 1 : Nat)), (9, .dat (.list ((pastBs l i).map Bool.encB))), (0, .dat (.list (l.map Entry'.enc))), (1, dInt c), (3, .dat (.list (ids.map Id.enc)))] [] (by repeat (first | exact trivial | refine ⟨.same (congrArg dInt (wrap_up (by omega))), ?_⟩ | refine ⟨.same rfl, ?_⟩ | refine ⟨.any _, ?_⟩)) trivial rfl rfl) fun s' h => ⟨m - 1, by omega, k + 1, by omega, fun j hj hjk a b => (by
            by_cases e : j = k
            · subst e; exact hn a b
            · exact hq j hj (by omega) a b), h⟩
      · have hn : isIn (pastBs l i) k = true → meets l[k].colors c = true → hasId ids l[k].id = true := fun _ b => by rw [h2] at b; cases b
        conv => whnf
        repeat (first | (refine Conf.mk (by kernel_rfl) ?_; conv => whnf) | (refine SeqOk.go ?_; conv => whnf))
        exact Into.mono (Into.to [] [(10, dInt (k + 1 : Nat)), (9, .dat (.list ((pastBs l i).map Bool.encB))), (0, .dat (.list (l.map Entry'.enc))), (1, dInt c), (3, .dat (.list (ids.map Id.enc)))] [] (by repeat (first | exact trivial | refine ⟨.same (congrArg dInt (wrap_up (by omega))), ?_⟩ | refine ⟨.same rfl, ?_⟩ | refine ⟨.any _, ?_⟩)) trivial rfl rfl) fun s' h => ⟨m - 1, by omega, k + 1, by omega, fun j hj hjk a b => (by
          by_cases e : j = k
          · subst e; exact hn a b
          · exact hq j hj (by omega) a b), h⟩
    · have hn : isIn (pastBs l i) k = true → meets l[k].colors c = true → hasId ids l[k].id = true := fun a _ => by rw [hib] at a; exact absurd (h1.symm.trans a) (by simp)
      conv => whnf
      repeat (first | (refine Conf.mk (by kernel_rfl) ?_; conv => whnf) | (refine SeqOk.go ?_; conv => whnf))
      exact Into.mono (Into.to [] [(10, dInt (k + 1 : Nat)), (9, .dat (.list ((pastBs l i).map Bool.encB))), (0, .dat (.list (l.map Entry'.enc))), (1, dInt c), (3, .dat (.list (ids.map Id.enc)))] [] (by repeat (first | exact trivial | refine ⟨.same (congrArg dInt (wrap_up (by omega))), ?_⟩ | refine ⟨.same rfl, ?_⟩ | refine ⟨.any _, ?_⟩)) trivial rfl rfl) fun s' h => ⟨m - 1, by omega, k + 1, by omega, fun j hj hjk a b => (by
        by_cases e : j = k
        · subst e; exact hn a b
        · exact hq j hj (by omega) a b), h⟩
  · have hk' := ge_of_len h
    conv => whnf
    repeat (first | (refine Conf.mk (by kernel_rfl) ?_; conv => whnf) | (refine SeqOk.go ?_; conv => whnf))
    subst hQ1
    conv => whnf
    refine Ret.bool ?_
    symm
    rw [List.all_eq_true]
    intro x hx
    obtain ⟨ha, hcx⟩ := (mem_needs hr).1 hx
    obtain ⟨e, he, rfl, hm⟩ := colored_iff.1 hcx
    obtain ⟨j, hj, rfl⟩ := List.getElem_of_mem he
    exact hq j hj (by omega) ((pastBs_iff hr hi hj).2 ha) hm
end Go.Proofs.Ytlioojekjnigiae.AM
/- Orders: what is begun, and how it goes on, as the document says. -/
namespace Go.Proofs.Ytlioojekjnigiae.AM
set_option linter.unusedVariables false
set_option linter.unusedSimpArgs false
def begunErr (l : List Entry') (c : Int) (ids : List Id) : Int := if idsErr l ids = 0 then (if c < 1 ∨ 7 < c then 3 else if begunOk l c ids = true then 0 else 4) else idsErr l ids
theorem begunErr_ok {l : List Entry'} {c : Int} {ids : List Id} (h : begunErr l c ids = 0) : idsErr l ids = 0 ∧ (1 ≤ c ∧ c ≤ 7) ∧ begunOk l c ids = true := by
  unfold begunErr at h
  split at h
  · rename_i h1
    split at h
    · simp at h
    · split at h
      · rename_i h2 h3; exact ⟨h1, by omega, h3⟩
      · simp at h
  · rename_i h1; exact absurd h h1
theorem between_ok' (n a b : Int) : PCall Try.prog 28 [dInt n, dInt a, dInt b] (dBool (decide (a ≤ n) && decide (n ≤ b))) := between_ok n a b
set_option maxHeartbeats 0 in
theorem checkBegun_ok (l : List Entry') (hl : LogOk l) (c : Int) (ids : List Id) (hi : ids.length ≤ 140737488355326) : PCall Try.prog 8 [.dat (.list (l.map Entry'.enc)), dInt c, .dat (.list (ids.map Id.enc))] (dInt (begunErr l c ids)) := by
  refine pcall_cut tab_all tab_mixed Try.func8 (by kernel_rfl) Try.ntmps8 rfl ?_
  conv => whnf
  conv => whnf
  repeat (first | (refine Conf.mk (by kernel_rfl) ?_; conv => whnf) | (refine SeqOk.go ?_; conv => whnf))
  refine .data _ _ (checkLog_ok l hl) rfl ?_
  conv => whnf
  refine SeqOk.cut' ⟨[(7, dInt (idsErr l ids)), (0, .dat (.list (l.map Entry'.enc))), (1, dInt c), (2, .dat (.list (ids.map Id.enc)))], 0, []⟩ ?_ ?_
  · conv => whnf
    refine ⟨fun h => ?_, fun h => ?_⟩
    · have h : logErr l = 0 := by simpa using h
      have he : idsErr l ids = idsLoop l [] ids := by unfold idsErr; rw [if_pos h]
      conv => whnf
      repeat (first | (refine Conf.mk (by kernel_rfl) ?_; conv => whnf) | (refine SeqOk.go ?_; conv => whnf))
      refine .data _ _ (checkIds_ok l hl ids (by omega)) rfl ?_
      conv => whnf
      repeat (first | (refine Conf.mk (by kernel_rfl) ?_; conv => whnf) | (refine SeqOk.go ?_; conv => whnf))
      exact Into.to [] [(7, dInt (idsErr l ids)), (0, .dat (.list (l.map Entry'.enc))), (1, dInt c), (2, .dat (.list (ids.map Id.enc)))] [] ⟨.same (congrArg dInt he), .same rfl, .same rfl, .same rfl, trivial⟩ trivial rfl rfl
    · have h : logErr l ≠ 0 := by simpa using h
      have he : idsErr l ids = logErr l := by unfold idsErr; rw [if_neg h]
      conv => whnf
      repeat (first | (refine Conf.mk (by kernel_rfl) ?_; conv => whnf) | (refine SeqOk.go ?_; conv => whnf))
      exact Into.to [] [(7, dInt (idsErr l ids)), (0, .dat (.list (l.map Entry'.enc))), (1, dInt c), (2, .dat (.list (ids.map Id.enc)))] [] ⟨.same (congrArg dInt he), .same rfl, .same rfl, .same rfl, trivial⟩ trivial rfl rfl
  · by_cases h0 : idsErr l ids = 0
    · obtain ⟨hr, hin, hnd⟩ := idsErr_ok h0
      have hlen := hr.len
      have hbt := between_ok' c 1 7
      by_cases hc : 1 ≤ c ∧ c ≤ 7
      · have he : begunErr l c ids = if begunOk l c ids = true then 0 else 4 := by unfold begunErr; rw [if_pos h0, if_neg (by omega)]
        rw [show (decide (1 ≤ c) && decide (c ≤ 7)) = true by simp; omega] at hbt
        conv => whnf
        repeat (first | (refine Conf.mk (by kernel_rfl) ?_; conv => whnf) | (refine SeqOk.go ?_; conv => whnf))
        refine BoolCase.yes (by rw [h0]; rfl) ?_
        conv => whnf
        repeat (first | (refine Conf.mk (by kernel_rfl) ?_; conv => whnf) | (refine SeqOk.go ?_; conv => whnf))
        refine .look _ _ hbt.kb rfl rfl ?_
        conv => whnf
        repeat (first | (refine Conf.mk (by kernel_rfl) ?_; conv => whnf) | (refine SeqOk.go ?_; conv => whnf))
        refine BoolCase.no (by rw [h0]; rfl) ?_
        conv => whnf
        repeat (first | (refine Conf.mk (by kernel_rfl) ?_; conv => whnf) | (refine SeqOk.go ?_; conv => whnf))
        refine LoopOk.hide fun Q1 hQ1 => ?_
        refine LoopOk.mk (fun m s => ∃ i, i + m = ids.length ∧ (∀ j (hj : j < ids.length), j < i → (colored l c ids[j] && (needs l c ids[j]).all (hasId ids)) = true) ∧ s = ⟨[(8, dInt i), (0, .dat (.list (l.map Entry'.enc))), (1, dInt c), (2, .dat (.list (ids.map Id.enc)))], 0, []⟩) ids.length (Into.mono (Into.to [] [(8, dInt (0 : Nat)), (0, .dat (.list (l.map Entry'.enc))), (1, dInt c), (2, .dat (.list (ids.map Id.enc)))] [] (by repeat (first | exact trivial | refine ⟨.same (congrArg dInt (wrap_up (by omega))), ?_⟩ | refine ⟨.same rfl, ?_⟩ | refine ⟨.any _, ?_⟩)) trivial rfl rfl) fun s' h => ⟨0, by omega, fun j _ hj => by omega, h⟩) ?_
        rintro m s ⟨i, him, hq, rfl⟩
        conv => whnf
        repeat (first | (refine Conf.mk (by kernel_rfl) ?_; conv => whnf) | (refine SeqOk.go ?_; conv => whnf))
        refine ⟨fun h => ?_, fun h => ?_⟩
        · have hi' := lt_of_len h
          have hii := List.getElem_mem hi'
          obtain ⟨p, hp, hpe⟩ := Right.idx_mem.1 (hin _ hii)
          have hat : entryAt l ids[i] = (p : Int) := by rw [entryAt_eq, ← hpe, idx_of hr hp]; rfl
          have hea := entryAt_ok ids[i] l (by omega)
          rw [hat] at hea
          have hco : colored l c ids[i] = meets l[p].colors c := by
            rw [Bool.eq_iff_iff, colored_iff]
            refine ⟨fun ⟨e, he, h1, h2⟩ => ?_, fun h => ⟨l[p], List.getElem_mem hp, hpe, h⟩⟩
            rw [hr.ent (List.getElem_mem hp) he (hpe.trans h1.symm)]; exact h2
          conv => whnf
          repeat (first | (refine Conf.mk (by kernel_rfl) ?_; conv => whnf) | (refine SeqOk.go ?_; conv => whnf))
          refine AtIdx.ofMap hi' rfl ?_
          conv => whnf
          repeat (first | (refine Conf.mk (by kernel_rfl) ?_; conv => whnf) | (refine SeqOk.go ?_; conv => whnf))
          refine .look _ _ hea rfl rfl ?_
          conv => whnf
          repeat (first | (refine Conf.mk (by kernel_rfl) ?_; conv => whnf) | (refine SeqOk.go ?_; conv => whnf))
          refine AtIdx.ofMap hp rfl ?_
          conv => whnf
          repeat (first | (refine Conf.mk (by kernel_rfl) ?_; conv => whnf) | (refine SeqOk.go ?_; conv => whnf))
          refine .look _ _ (meets_ok l[p].colors c) rfl rfl ?_
          conv => whnf
          repeat (first | (refine Conf.mk (by kernel_rfl) ?_; conv => whnf) | (refine SeqOk.go ?_; conv => whnf))
          refine ⟨fun h2 => ?_, fun h2 => ?_⟩
          · have h2 : meets l[p].colors c = false := (Bool.not_eq_true' _).mp h2
            have hbad : (colored l c ids[i] && (needs l c ids[i]).all (hasId ids)) = false := by rw [hco, h2]; rfl
            have hnb : begunOk l c ids = false := by
              rw [Bool.eq_false_iff]
              intro hh
              unfold begunOk at hh
              rw [Bool.and_eq_true, List.all_eq_true] at hh
              have := hh.1 _ (List.getElem_mem hi')
              rw [hbad] at this
              cases this
            conv => whnf
            repeat (first | (refine Conf.mk (by kernel_rfl) ?_; conv => whnf) | (refine SeqOk.go ?_; conv => whnf))
            subst hQ1
            conv => whnf
            exact Ret.int (by rw [he, hnb]; rfl)
          · have h2 : meets l[p].colors c = true := (Bool.not_eq_false' (b := meets l[p].colors c)).mp h2
            have hmc := mayCome_ok hr c p hp ids hi
            rw [hpe] at hmc
            conv => whnf
            repeat (first | (refine Conf.mk (by kernel_rfl) ?_; conv => whnf) | (refine SeqOk.go ?_; conv => whnf))
            refine .look _ _ hmc rfl rfl ?_
            conv => whnf
            repeat (first | (refine Conf.mk (by kernel_rfl) ?_; conv => whnf) | (refine SeqOk.go ?_; conv => whnf))
            refine ⟨fun h3 => ?_, fun h3 => ?_⟩
            · have h3 : (needs l c ids[i]).all (hasId ids) = false := (Bool.not_eq_true' _).mp h3
              have hbad : (colored l c ids[i] && (needs l c ids[i]).all (hasId ids)) = false := by rw [h3, Bool.and_false]
              have hnb : begunOk l c ids = false := by
                rw [Bool.eq_false_iff]
                intro hh
                unfold begunOk at hh
                rw [Bool.and_eq_true, List.all_eq_true] at hh
                have := hh.1 _ (List.getElem_mem hi')
                rw [hbad] at this
                cases this
              conv => whnf
              repeat (first | (refine Conf.mk (by kernel_rfl) ?_; conv => whnf) | (refine SeqOk.go ?_; conv => whnf))
              subst hQ1
              conv => whnf
              exact Ret.int (by rw [he, hnb]; rfl)
            · have h3 : (needs l c ids[i]).all (hasId ids) = true := (Bool.not_eq_false' (b := (needs l c ids[i]).all (hasId ids))).mp h3
              conv => whnf
              repeat (first | (refine Conf.mk (by kernel_rfl) ?_; conv => whnf) | (refine SeqOk.go ?_; conv => whnf))
              exact Into.mono (Into.to [] [(8, dInt (i + 1 : Nat)), (0, .dat (.list (l.map Entry'.enc))), (1, dInt c), (2, .dat (.list (ids.map Id.enc)))] [] (by repeat (first | exact trivial | refine ⟨.same (congrArg dInt (wrap_up (by omega))), ?_⟩ | refine ⟨.same rfl, ?_⟩ | refine ⟨.any _, ?_⟩)) trivial rfl rfl) fun s' h => ⟨m - 1, by omega, i + 1, by omega, fun j hj hji => (by
                by_cases e : j = i
                · subst e; rw [hco, h2, h3]; rfl
                · exact hq j hj (by omega)), h⟩
        · have hall : ids.all (fun x => colored l c x && (needs l c x).all (hasId ids)) = true := by
            rw [List.all_eq_true]
            intro x hx
            obtain ⟨j, hj, rfl⟩ := List.getElem_of_mem hx
            exact hq j hj (by have := ge_of_len h; omega)
          conv => whnf
          repeat (first | (refine Conf.mk (by kernel_rfl) ?_; conv => whnf) | (refine SeqOk.go ?_; conv => whnf))
          subst hQ1
          conv => whnf
          repeat (first | (refine Conf.mk (by kernel_rfl) ?_; conv => whnf) | (refine SeqOk.go ?_; conv => whnf))
          refine .look _ _ (isOrderRef_ok hr ids hin hi) rfl rfl ?_
          conv => whnf
          repeat (first | (refine Conf.mk (by kernel_rfl) ?_; conv => whnf) | (refine SeqOk.go ?_; conv => whnf))
          refine ⟨fun h3 => ?_, fun h3 => ?_⟩
          · have h3 : isOrder l ids = false := (Bool.not_eq_true' _).mp h3
            conv => whnf
            repeat (first | (refine Conf.mk (by kernel_rfl) ?_; conv => whnf) | (refine SeqOk.go ?_; conv => whnf))
            exact Ret.int (by rw [he, begunOk, hall, h3]; rfl)
          · have h3 : isOrder l ids = true := (Bool.not_eq_false' (b := isOrder l ids)).mp h3
            conv => whnf
            repeat (first | (refine Conf.mk (by kernel_rfl) ?_; conv => whnf) | (refine SeqOk.go ?_; conv => whnf))
            exact Ret.int (by rw [he, begunOk, hall, h3]; rfl)
      · have he : begunErr l c ids = 3 := by unfold begunErr; rw [if_pos h0, if_pos (by omega)]
        rw [show (decide (1 ≤ c) && decide (c ≤ 7)) = false by simp; omega] at hbt
        conv => whnf
        repeat (first | (refine Conf.mk (by kernel_rfl) ?_; conv => whnf) | (refine SeqOk.go ?_; conv => whnf))
        refine BoolCase.yes (by rw [h0]; rfl) ?_
        conv => whnf
        repeat (first | (refine Conf.mk (by kernel_rfl) ?_; conv => whnf) | (refine SeqOk.go ?_; conv => whnf))
        refine .look _ _ hbt.kb rfl rfl ?_
        conv => whnf
        repeat (first | (refine Conf.mk (by kernel_rfl) ?_; conv => whnf) | (refine SeqOk.go ?_; conv => whnf))
        refine BoolCase.yes rfl ?_
        conv => whnf
        repeat (first | (refine Conf.mk (by kernel_rfl) ?_; conv => whnf) | (refine SeqOk.go ?_; conv => whnf))
        exact Ret.int (by rw [he])
    · have he : begunErr l c ids = idsErr l ids := by unfold begunErr; rw [if_neg h0]
      conv => whnf
      repeat (first | (refine Conf.mk (by kernel_rfl) ?_; conv => whnf) | (refine SeqOk.go ?_; conv => whnf))
      refine BoolCase.no (by simpa using h0) ?_
      conv => whnf
      repeat (first | (refine Conf.mk (by kernel_rfl) ?_; conv => whnf) | (refine SeqOk.go ?_; conv => whnf))
      refine BoolCase.yes (by simpa using h0) ?_
      conv => whnf
      repeat (first | (refine Conf.mk (by kernel_rfl) ?_; conv => whnf) | (refine SeqOk.go ?_; conv => whnf))
      exact Ret.int (by rw [he])
/-- What may be next. -/
def cand (l : List Entry') (c : Int) (out : List Id) (x : Id) : Bool := colored l c x && mayP l c out x
theorem nextOf_eq (l : List Entry') (c : Int) (out : List Id) : nextOf l c out = allIds.find? (cand l c out) := by
  unfold nextOf colIds
  rw [List.find?_filter]
  congr 1
  funext x
  unfold cand
  rw [Bool.eq_iff_iff]
  simp
theorem find_at {p : Id → Bool} {k : Nat} {x : Id} (hn : ∀ y ∈ allIds.take k, p y = false) (hx : allIds[k]? = some x) (hp : p x = true) : allIds.find? p = some x := by
  obtain ⟨hk, hxe⟩ := List.getElem?_eq_some_iff.1 hx
  have : allIds = allIds.take k ++ x :: allIds.drop (k + 1) := by rw [← hxe, ← List.drop_eq_getElem_cons hk, List.take_append_drop]
  rw [this, List.find?_append, List.find?_eq_none.2 fun y hy => by rw [hn y hy]; simp, List.find?_cons, hp]
  rfl
theorem take_more {p : Id → Bool} {k : Nat} {x : Id} (hn : ∀ y ∈ allIds.take k, p y = false) (hx : allIds[k]? = some x) (hp : p x = false) : ∀ y ∈ allIds.take (k + 1), p y = false := fun y hy => by
  rw [List.take_add_one, hx] at hy
  rcases List.mem_append.1 hy with hy | hy
  · exact hn y hy
  · have : y = x := by simpa using hy
    rw [this]; exact hp
/-- How far one has looked for who is next. -/
def Seek (l : List Entry') (c : Int) (out : List Id) (k : Nat) (mo : Bool) (out' : List Id) : Prop :=
  (mo = false ∧ out = out' ∧ ∀ x ∈ allIds.take k, cand l c out x = false) ∨ (mo = true ∧ ∃ x, nextOf l c out = some x ∧ out' = out ++ [x])
set_option maxHeartbeats 0 in
theorem moreOf_ok {l : List Entry'} (hr : Right l) (c : Int) (ids : List Id) (hin : ∀ x ∈ ids, ∃ e ∈ l, e.id = x) (hnd : ids.Nodup) : PCall Try.prog 34 [.dat (.list (l.map Entry'.enc)), dInt c, .dat (.list (ids.map Id.enc))] (.dat (.list ((moreOf l c ids).map Id.enc))) := by
  have hlen := hr.len
  have hil := ids_len hin hnd
  refine pcall_cut tab_all tab_mixed Try.func34 (by kernel_rfl) Try.ntmps34 rfl ?_
  conv => whnf
  conv => whnf
  repeat (first | (refine Conf.mk (by kernel_rfl) ?_; conv => whnf) | (refine SeqOk.go ?_; conv => whnf))
  refine ⟨by simp [Id.enc], by simp; omega, ?_⟩
  conv => whnf
  repeat (first | (refine Conf.mk (by kernel_rfl) ?_; conv => whnf) | (refine SeqOk.go ?_; conv => whnf))
  refine LoopOk.hide fun Q1 hQ1 => ?_
  refine LoopOk.mk (fun m s => ∃ out mo, moreOf l c ids = moreOf l c out ∧ (∀ x ∈ out, ∃ e ∈ l, e.id = x) ∧ out.Nodup ∧ (mo = false → nextOf l c out = none) ∧ m = (if mo = true then left l c out + 1 else 0) ∧ s = ⟨[(8, dBool mo), (0, .dat (.list (l.map Entry'.enc))), (1, dInt c), (7, .row 0)], 1, [(0, .rows 36 2 (out.map Id.enc) true)]⟩) (left l c ids + 1) (Into.mono (Into.to [0] [(8, dBool true), (0, .dat (.list (l.map Entry'.enc))), (1, dInt c), (7, .row 0)] [(0, .rows 36 2 (ids.map Id.enc) true)] ⟨.kb true, .same rfl, .same rfl, .same rfl, trivial⟩ ⟨⟨rfl, rfl, rfl, rfl⟩, trivial⟩ rfl rfl) fun s' h => ⟨ids, true, rfl, hin, hnd, by simp, by simp, h⟩) ?_
  rintro m s ⟨out, mo, hmo, hon, hod, hno, hm, rfl⟩
  have hol := ids_len hon hod
  conv => whnf
  repeat (first | (refine Conf.mk (by kernel_rfl) ?_; conv => whnf) | (refine SeqOk.go ?_; conv => whnf))
  cases mo with
  | false =>
    refine BoolCase.no rfl ?_
    conv => whnf
    repeat (first | (refine Conf.mk (by kernel_rfl) ?_; conv => whnf) | (refine SeqOk.go ?_; conv => whnf))
    subst hQ1
    conv => whnf
    exact Ret.to (by rw [hmo, moreOf_none (hno rfl)])
  | true =>
    refine BoolCase.yes rfl ?_
    simp only [if_true] at hm
    conv => whnf
    repeat (first | (refine Conf.mk (by kernel_rfl) ?_; conv => whnf) | (refine SeqOk.go ?_; conv => whnf))
    refine LoopOk.hide fun Q2 hQ2 => ?_
    refine LoopOk.mk (fun m2 s => ∃ r mo out', r + m2 = 2 ∧ Seek l c out (20 * r) mo out' ∧ s = ⟨[(9, dInt r), (8, dBool mo), (0, .dat (.list (l.map Entry'.enc))), (1, dInt c), (7, .row 0)], 1, [(0, .rows 36 2 (out'.map Id.enc) true)]⟩) 2 (Into.mono (Into.to [0] [(9, dInt (0 : Nat)), (8, dBool false), (0, .dat (.list (l.map Entry'.enc))), (1, dInt c), (7, .row 0)] [(0, .rows 36 2 (out.map Id.enc) true)] ⟨.same rfl, .kb false, .same rfl, .same rfl, .same rfl, trivial⟩ ⟨⟨rfl, rfl, rfl, rfl⟩, trivial⟩ rfl rfl) fun s' h => ⟨0, false, out, by omega, .inl ⟨rfl, rfl, by simp⟩, h⟩) ?_
    rintro m2 s ⟨r, mo, out', hrm, hsk, rfl⟩
    conv => whnf
    repeat (first | (refine Conf.mk (by kernel_rfl) ?_; conv => whnf) | (refine SeqOk.go ?_; conv => whnf))
    refine ⟨fun h => ?_, fun h => ?_⟩
    · have hr2 : r < 2 := by simp at h; omega
      conv => whnf
      repeat (first | (refine Conf.mk (by kernel_rfl) ?_; conv => whnf) | (refine SeqOk.go ?_; conv => whnf))
      rcases hsk with ⟨rfl, rfl, hsk⟩ | ⟨rfl, x, hx, rfl⟩
      · refine BoolCase.yes rfl ?_
        conv => whnf
        repeat (first | (refine Conf.mk (by kernel_rfl) ?_; conv => whnf) | (refine SeqOk.go ?_; conv => whnf))
        refine LoopOk.hide fun Q3 hQ3 => ?_
        refine LoopOk.mk (fun m3 s => ∃ k mo out', k + m3 = 20 ∧ Seek l c out (20 * r + k) mo out' ∧ s = ⟨[(10, dInt (k + 1 : Nat)), (9, dInt r), (8, dBool mo), (0, .dat (.list (l.map Entry'.enc))), (1, dInt c), (7, .row 0)], 1, [(0, .rows 36 2 (out'.map Id.enc) true)]⟩) 20 (Into.mono (Into.to [0] [(10, dInt (0 + 1 : Nat)), (9, dInt r), (8, dBool false), (0, .dat (.list (l.map Entry'.enc))), (1, dInt c), (7, .row 0)] [(0, .rows 36 2 (out.map Id.enc) true)] ⟨.same rfl, .same rfl, .same rfl, .same rfl, .same rfl, .same rfl, trivial⟩ ⟨⟨rfl, rfl, rfl, rfl⟩, trivial⟩ rfl rfl) fun s' h => ⟨0, false, out, by omega, .inl ⟨rfl, rfl, hsk⟩, h⟩) ?_
        rintro m3 s ⟨k, mo, out', hk, hsk, rfl⟩
        conv => whnf
        repeat (first | (refine Conf.mk (by kernel_rfl) ?_; conv => whnf) | (refine SeqOk.go ?_; conv => whnf))
        refine ⟨fun h2 => ?_, fun h2 => ?_⟩
        · have hk2 : k < 20 := by simp at h2; omega
          have hget := allIds_get hr2 hk2
          conv => whnf
          repeat (first | (refine Conf.mk (by kernel_rfl) ?_; conv => whnf) | (refine SeqOk.go ?_; conv => whnf))
          rcases hsk with ⟨rfl, rfl, hsk⟩ | ⟨rfl, x, hx, rfl⟩
          · refine BoolCase.yes rfl ?_
            conv => whnf
            repeat (first | (refine Conf.mk (by kernel_rfl) ?_; conv => whnf) | (refine SeqOk.go ?_; conv => whnf))
            refine .look _ _ (entryAt_ok ⟨r, ((k + 1 : Nat) : Int)⟩ l (by omega)) rfl rfl ?_
            conv => whnf
            repeat (first | (refine Conf.mk (by kernel_rfl) ?_; conv => whnf) | (refine SeqOk.go ?_; conv => whnf))
            refine ⟨fun h3 => ?_, fun h3 => ?_⟩
            · have h3 : l.any (isThe ⟨r, ((k + 1 : Nat) : Int)⟩) = true := entryAt_iff.1 (by simpa using h3)
              obtain ⟨p, hp⟩ : ∃ p, idx l ⟨r, ((k + 1 : Nat) : Int)⟩ = some p := Option.isSome_iff_exists.1 (idxOf_nonneg.1 (entryAt_iff.2 h3))
              obtain ⟨hpl, hpe⟩ := idx_some hp
              have hat : entryAt l ⟨r, ((k + 1 : Nat) : Int)⟩ = (p : Int) := by rw [entryAt_eq, hp]; rfl
              have hco : colored l c ⟨r, ((k + 1 : Nat) : Int)⟩ = meets l[p].colors c := by
                rw [Bool.eq_iff_iff, colored_iff]
                refine ⟨fun ⟨e, he, h1, h2⟩ => ?_, fun h => ⟨l[p], List.getElem_mem hpl, hpe, h⟩⟩
                rw [hr.ent (List.getElem_mem hpl) he (hpe.trans h1.symm)]; exact h2
              conv => whnf
              repeat (first | (refine Conf.mk (by kernel_rfl) ?_; conv => whnf) | (refine SeqOk.go ?_; conv => whnf))
              refine AtIdx.ofMap' p hat hpl rfl ?_
              conv => whnf
              repeat (first | (refine Conf.mk (by kernel_rfl) ?_; conv => whnf) | (refine SeqOk.go ?_; conv => whnf))
              refine .look _ _ (meets_ok l[p].colors c) rfl rfl ?_
              conv => whnf
              repeat (first | (refine Conf.mk (by kernel_rfl) ?_; conv => whnf) | (refine SeqOk.go ?_; conv => whnf))
              refine ⟨fun h4 => ?_, fun h4 => ?_⟩
              · conv => whnf
                repeat (first | (refine Conf.mk (by kernel_rfl) ?_; conv => whnf) | (refine SeqOk.go ?_; conv => whnf))
                refine .look _ _ (hasId_ok ⟨r, ((k + 1 : Nat) : Int)⟩ out (by omega)) rfl rfl ?_
                conv => whnf
                repeat (first | (refine Conf.mk (by kernel_rfl) ?_; conv => whnf) | (refine SeqOk.go ?_; conv => whnf))
                refine ⟨fun h5 => ?_, fun h5 => ?_⟩
                · have h5 : hasId out ⟨r, ((k + 1 : Nat) : Int)⟩ = false := (Bool.not_eq_true' _).mp h5
                  have hmc := mayCome_ok hr c p hpl out (by omega)
                  rw [hpe, ← hat] at hmc
                  conv => whnf
                  repeat (first | (refine Conf.mk (by kernel_rfl) ?_; conv => whnf) | (refine SeqOk.go ?_; conv => whnf))
                  refine .look _ _ hmc rfl rfl ?_
                  conv => whnf
                  repeat (first | (refine Conf.mk (by kernel_rfl) ?_; conv => whnf) | (refine SeqOk.go ?_; conv => whnf))
                  refine ⟨fun h6 => ?_, fun h6 => ?_⟩
                  · have hcand : cand l c out ⟨r, ((k + 1 : Nat) : Int)⟩ = true := by unfold cand mayP; rw [hco, h4, h5, h6]; rfl
                    have hx : nextOf l c out = some ⟨r, ((k + 1 : Nat) : Int)⟩ := by rw [nextOf_eq]; exact find_at hsk hget hcand
                    conv => whnf
                    repeat (first | (refine Conf.mk (by kernel_rfl) ?_; conv => whnf) | (refine SeqOk.go ?_; conv => whnf))
                    refine ⟨by simp [Id.enc], by simp; omega, ?_⟩
                    conv => whnf
                    repeat (first | (refine Conf.mk (by kernel_rfl) ?_; conv => whnf) | (refine SeqOk.go ?_; conv => whnf))
                    exact Into.mono (Into.to [3] [(10, dInt ((k + 1) + 1 : Nat)), (9, dInt r), (8, dBool true), (0, .dat (.list (l.map Entry'.enc))), (1, dInt c), (7, .row 0)] [(0, .rows 36 2 ((out ++ [Id.mk r ((k + 1 : Nat) : Int)]).map Id.enc) true)] ⟨.same (congrArg dInt (wrap_up (by omega))), .same rfl, .kb true, .same rfl, .same rfl, .same rfl, trivial⟩ ⟨⟨rfl, rfl, rfl, by rw [List.map_append]; rfl⟩, trivial⟩ rfl rfl) fun s' h => ⟨m3 - 1, by omega, k + 1, true, out ++ [Id.mk r ((k + 1 : Nat) : Int)], by omega, .inr ⟨rfl, _, hx, rfl⟩, h⟩
                  · have hcand : cand l c out ⟨r, ((k + 1 : Nat) : Int)⟩ = false := by unfold cand mayP; rw [h6, Bool.and_false, Bool.and_false]
                    conv => whnf
                    repeat (first | (refine Conf.mk (by kernel_rfl) ?_; conv => whnf) | (refine SeqOk.go ?_; conv => whnf))
                    exact Into.mono (Into.to [0] [(10, dInt ((k + 1) + 1 : Nat)), (9, dInt r), (8, dBool false), (0, .dat (.list (l.map Entry'.enc))), (1, dInt c), (7, .row 0)] [(0, .rows 36 2 (out.map Id.enc) true)] ⟨.same (congrArg dInt (wrap_up (by omega))), .same rfl, .same rfl, .same rfl, .same rfl, .same rfl, trivial⟩ ⟨⟨rfl, rfl, rfl, rfl⟩, trivial⟩ rfl rfl) fun s' h => ⟨m3 - 1, by omega, k + 1, false, out, by omega, .inl ⟨rfl, rfl, take_more hsk hget hcand⟩, h⟩
                · have h5 : hasId out ⟨r, ((k + 1 : Nat) : Int)⟩ = true := (Bool.not_eq_false' (b := hasId out ⟨r, ((k + 1 : Nat) : Int)⟩)).mp h5
                  have hcand : cand l c out ⟨r, ((k + 1 : Nat) : Int)⟩ = false := by unfold cand mayP; rw [h5, Bool.not_true, Bool.false_and, Bool.and_false]
                  conv => whnf
                  repeat (first | (refine Conf.mk (by kernel_rfl) ?_; conv => whnf) | (refine SeqOk.go ?_; conv => whnf))
                  exact Into.mono (Into.to [0] [(10, dInt ((k + 1) + 1 : Nat)), (9, dInt r), (8, dBool false), (0, .dat (.list (l.map Entry'.enc))), (1, dInt c), (7, .row 0)] [(0, .rows 36 2 (out.map Id.enc) true)] ⟨.same (congrArg dInt (wrap_up (by omega))), .same rfl, .same rfl, .same rfl, .same rfl, .same rfl, trivial⟩ ⟨⟨rfl, rfl, rfl, rfl⟩, trivial⟩ rfl rfl) fun s' h => ⟨m3 - 1, by omega, k + 1, false, out, by omega, .inl ⟨rfl, rfl, take_more hsk hget hcand⟩, h⟩
              · have hcand : cand l c out ⟨r, ((k + 1 : Nat) : Int)⟩ = false := by unfold cand; rw [hco, h4, Bool.false_and]
                conv => whnf
                repeat (first | (refine Conf.mk (by kernel_rfl) ?_; conv => whnf) | (refine SeqOk.go ?_; conv => whnf))
                exact Into.mono (Into.to [0] [(10, dInt ((k + 1) + 1 : Nat)), (9, dInt r), (8, dBool false), (0, .dat (.list (l.map Entry'.enc))), (1, dInt c), (7, .row 0)] [(0, .rows 36 2 (out.map Id.enc) true)] ⟨.same (congrArg dInt (wrap_up (by omega))), .same rfl, .same rfl, .same rfl, .same rfl, .same rfl, trivial⟩ ⟨⟨rfl, rfl, rfl, rfl⟩, trivial⟩ rfl rfl) fun s' h => ⟨m3 - 1, by omega, k + 1, false, out, by omega, .inl ⟨rfl, rfl, take_more hsk hget hcand⟩, h⟩
            · have h3 : l.any (isThe ⟨r, ((k + 1 : Nat) : Int)⟩) = false := by
                rw [Bool.eq_false_iff]
                intro hh
                exact of_decide_eq_false h3 (entryAt_iff.2 hh)
              have hcand : cand l c out ⟨r, ((k + 1 : Nat) : Int)⟩ = false := by
                unfold cand
                rw [Bool.and_eq_false_iff]
                refine .inl ?_
                rw [Bool.eq_false_iff]
                intro hh
                obtain ⟨e, he, h1, _⟩ := colored_iff.1 hh
                rw [any_isThe.2 ⟨e, he, h1⟩] at h3
                cases h3
              conv => whnf
              repeat (first | (refine Conf.mk (by kernel_rfl) ?_; conv => whnf) | (refine SeqOk.go ?_; conv => whnf))
              exact Into.mono (Into.to [0] [(10, dInt ((k + 1) + 1 : Nat)), (9, dInt r), (8, dBool false), (0, .dat (.list (l.map Entry'.enc))), (1, dInt c), (7, .row 0)] [(0, .rows 36 2 (out.map Id.enc) true)] ⟨.same (congrArg dInt (wrap_up (by omega))), .same rfl, .same rfl, .same rfl, .same rfl, .same rfl, trivial⟩ ⟨⟨rfl, rfl, rfl, rfl⟩, trivial⟩ rfl rfl) fun s' h => ⟨m3 - 1, by omega, k + 1, false, out, by omega, .inl ⟨rfl, rfl, take_more hsk hget hcand⟩, h⟩
          · refine BoolCase.no rfl ?_
            conv => whnf
            repeat (first | (refine Conf.mk (by kernel_rfl) ?_; conv => whnf) | (refine SeqOk.go ?_; conv => whnf))
            subst hQ3
            conv => whnf
            exact Into.mono (Into.to [0] [(9, dInt (r + 1 : Nat)), (8, dBool true), (0, .dat (.list (l.map Entry'.enc))), (1, dInt c), (7, .row 0)] [(0, .rows 36 2 ((out ++ [x]).map Id.enc) true)] ⟨.same (congrArg dInt (wrap_up (by omega))), .same rfl, .same rfl, .same rfl, .same rfl, trivial⟩ ⟨⟨rfl, rfl, rfl, rfl⟩, trivial⟩ rfl rfl) fun s' h => ⟨m2 - 1, by omega, r + 1, true, out ++ [x], by omega, .inr ⟨rfl, x, hx, rfl⟩, h⟩
        · have hk2 : k = 20 := by simp at h2; omega
          subst hk2
          conv => whnf
          repeat (first | (refine Conf.mk (by kernel_rfl) ?_; conv => whnf) | (refine SeqOk.go ?_; conv => whnf))
          rcases hsk with ⟨rfl, rfl, hsk⟩ | ⟨rfl, x, hx, rfl⟩
          · subst hQ3
            conv => whnf
            exact Into.mono (Into.to [0] [(9, dInt (r + 1 : Nat)), (8, dBool false), (0, .dat (.list (l.map Entry'.enc))), (1, dInt c), (7, .row 0)] [(0, .rows 36 2 (out.map Id.enc) true)] ⟨.same (congrArg dInt (wrap_up (by omega))), .same rfl, .same rfl, .same rfl, .same rfl, trivial⟩ ⟨⟨rfl, rfl, rfl, rfl⟩, trivial⟩ rfl rfl) fun s' h => ⟨m2 - 1, by omega, r + 1, false, out, by omega, .inl ⟨rfl, rfl, by rw [show 20 * (r + 1) = 20 * r + 20 by omega]; exact hsk⟩, h⟩
          · subst hQ3
            conv => whnf
            exact Into.mono (Into.to [0] [(9, dInt (r + 1 : Nat)), (8, dBool true), (0, .dat (.list (l.map Entry'.enc))), (1, dInt c), (7, .row 0)] [(0, .rows 36 2 ((out ++ [x]).map Id.enc) true)] ⟨.same (congrArg dInt (wrap_up (by omega))), .same rfl, .same rfl, .same rfl, .same rfl, trivial⟩ ⟨⟨rfl, rfl, rfl, rfl⟩, trivial⟩ rfl rfl) fun s' h => ⟨m2 - 1, by omega, r + 1, true, out ++ [x], by omega, .inr ⟨rfl, x, hx, rfl⟩, h⟩
      · refine BoolCase.no rfl ?_
        conv => whnf
        repeat (first | (refine Conf.mk (by kernel_rfl) ?_; conv => whnf) | (refine SeqOk.go ?_; conv => whnf))
        subst hQ2
        conv => whnf
        exact Into.mono (Into.to [0] [(8, dBool true), (0, .dat (.list (l.map Entry'.enc))), (1, dInt c), (7, .row 0)] [(0, .rows 36 2 ((out ++ [x]).map Id.enc) true)] ⟨.same rfl, .same rfl, .same rfl, .same rfl, trivial⟩ ⟨⟨rfl, rfl, rfl, rfl⟩, trivial⟩ rfl rfl) fun s' h => ⟨m - 1, by omega, out ++ [x], true, by rw [hmo, moreOf_some hx], fun y hy => (by
          rcases List.mem_append.1 hy with hy | hy
          · exact hon y hy
          · have : y = x := by simpa using hy
            rw [this]
            obtain ⟨e, he, h1, _⟩ := colored_iff.1 ((mem_colIds hr).1 (nextOf_some hx).1)
            exact ⟨e, he, h1⟩), (by
          rw [List.nodup_append]
          refine ⟨hod, by simp, fun y hy z hz e => ?_⟩
          have : z = x := by simpa using hz
          subst this
          exact ((mayP_iff hr).1 (nextOf_some hx).2).1 (by rw [← e]; exact hy)), by simp, by simp only [if_true]; have := nextOf_left hx; omega, h⟩
    · have hr2 : r = 2 := by simp at h; omega
      subst hr2
      conv => whnf
      repeat (first | (refine Conf.mk (by kernel_rfl) ?_; conv => whnf) | (refine SeqOk.go ?_; conv => whnf))
      rcases hsk with ⟨rfl, rfl, hsk⟩ | ⟨rfl, x, hx, rfl⟩
      · subst hQ2
        conv => whnf
        have hnone : nextOf l c out = none := by
          rw [nextOf_eq, List.find?_eq_none]
          intro y hy
          rw [List.take_of_length_le (by rw [allIds_length]; exact Nat.le_refl _)] at hsk
          rw [hsk y hy]; simp
        exact Into.mono (Into.to [0] [(8, dBool false), (0, .dat (.list (l.map Entry'.enc))), (1, dInt c), (7, .row 0)] [(0, .rows 36 2 (out.map Id.enc) true)] ⟨.same rfl, .same rfl, .same rfl, .same rfl, trivial⟩ ⟨⟨rfl, rfl, rfl, rfl⟩, trivial⟩ rfl rfl) fun s' h => ⟨0, by omega, out, false, hmo, hon, hod, fun _ => hnone, by simp, h⟩
      · subst hQ2
        conv => whnf
        exact Into.mono (Into.to [0] [(8, dBool true), (0, .dat (.list (l.map Entry'.enc))), (1, dInt c), (7, .row 0)] [(0, .rows 36 2 ((out ++ [x]).map Id.enc) true)] ⟨.same rfl, .same rfl, .same rfl, .same rfl, trivial⟩ ⟨⟨rfl, rfl, rfl, rfl⟩, trivial⟩ rfl rfl) fun s' h => ⟨m - 1, by omega, out ++ [x], true, by rw [hmo, moreOf_some hx], fun y hy => (by
          rcases List.mem_append.1 hy with hy | hy
          · exact hon y hy
          · have : y = x := by simpa using hy
            rw [this]
            obtain ⟨e, he, h1, _⟩ := colored_iff.1 ((mem_colIds hr).1 (nextOf_some hx).1)
            exact ⟨e, he, h1⟩), (by
          rw [List.nodup_append]
          refine ⟨hod, by simp, fun y hy z hz e => ?_⟩
          have : z = x := by simpa using hz
          subst this
          exact ((mayP_iff hr).1 (nextOf_some hx).2).1 (by rw [← e]; exact hy)), by simp, by simp only [if_true]; have := nextOf_left hx; omega, h⟩
end Go.Proofs.Ytlioojekjnigiae.AM
/- What the walks lean on: worlds that only grow, blocks, rows, and regions whose order is left open. -/
namespace Go.Proofs.Ytlioojekjnigiae
open Go.RowKit

/-- The world has grown: all that was there is as it was. -/
def Grow (w w' : World) : Prop := Below w.heap.size w w'
theorem Grow.refl (w : World) : Grow w w := Below.refl _ _
theorem Grow.size {w w' : World} (h : Grow w w') : w.heap.size ≤ w'.heap.size := Below.size h
theorem Grow.trans {a b c : World} (h : Grow a b) (k : Grow b c) : Grow a c := Below.trans h (Below.mono k (Below.size h))
theorem Grow.drew {a b : World} (h : Grow a b) : Grow a b.drew := Below.drew h
theorem Grow.drewN {a b : World} (h : Grow a b) (n : Nat) : Grow a (b.drewN n) := Below.trans h ⟨rfl, rfl, rfl, Nat.le_refl _, fun _ _ => rfl⟩
theorem Grow.alloc {a b : World} (h : Grow a b) (o : Obj) : Grow a (b.alloc o) := Below.alloc h (Below.size h) o
theorem Grow.setCell {a b : World} (h : Grow a b) {p : Addr} (hp : a.heap.size ≤ p.block) (u : Value) : Grow a (b.setCell p u) := Below.setCell h hp u
theorem cell_lt {w : World} {a : Addr} {v : Value} (h : w.cell? a = some v) : a.block < w.heap.size := World.block_lt_of_cell? w a h
theorem cell_grow {w w' : World} {a : Addr} {v : Value} (hb : Grow w w') (h : w.cell? a = some v) : w'.cell? a = some v :=
  (Below.cell hb (p := a) (cell_lt h)).trans h
theorem frozen_grow {w w' : World} {a : Addr} {v : Value} (hb : Grow w w') (h : w.cell? a = some v) : w'.frozen? a = w.frozen? a :=
  Below.frozen hb (p := a) (cell_lt h)

theorem block_grown {w w1 : World} {row : Option Nat} {b : Nat} {o o' : Obj} (hg : (w.alloc o').grownBy w1 row) (hne : some b ≠ row) (h : w.heap[b]? = some o) : w1.heap[b]? = some o := by
  have hlt := lt_of_block h
  rw [hg.block b (by simp; omega) hne, Below.heap_alloc _ _ _ hlt, h]
theorem cell_grown {w w1 : World} {row : Option Nat} {a : Addr} {v : Value} {o' : Obj} (hg : (w.alloc o').grownBy w1 row) (hne : some a.block ≠ row) (h : w.cell? a = some v) : w1.cell? a = some v := by
  have hlt := cell_lt h
  have e : w1.heap[a.block]? = w.heap[a.block]? := by rw [hg.block a.block (by simp; omega) hne, Below.heap_alloc _ _ _ hlt]
  exact (World.cell?_of_block (w := w) e).trans h
theorem own_ne {w : World} {base : Nat} {e : TypeId} {size : Nat} {v : Value} {n : Nat} {xs : List Value} (h : w.ownsRow base e size v n xs) {b : Nat} (hb : b < base) : some b ≠ v.ownBlock := by
  intro he
  have := (h.lt b he.symm).1
  omega
theorem cell_of_block {w : World} {b o : Nat} {cs : Array Value} {t : TypeId} {v : Value} (h : w.heap[b]? = some (.cells cs t (0, 0))) (hv : cs[o]? = some v) : w.cell? ⟨b, o, none⟩ = some v := by simp [World.cell?, h, hv]
theorem free_of_block {w : World} {b : Nat} {cs : Array Value} {t : TypeId} (h : w.heap[b]? = some (.cells cs t (0, 0))) (o : Nat) : w.frozen? ⟨b, o, none⟩ = false := by simp [World.frozen?, h]
/-- What the reader panics with. -/
theorem block_set {w : World} {b o : Nat} {cs : Array Value} {t : TypeId} {v : Value} (h : w.heap[b]? = some (.cells cs t (0, 0))) : (w.setCell ⟨b, o, none⟩ v).heap[b]? = some (.cells (cs.setIfInBounds o v) t (0, 0)) := by
  have hlt := lt_of_block h
  have h' : w.heap[b] = .cells cs t (0, 0) := by simpa [Array.getElem?_eq_getElem hlt] using h
  show (w.heap.modify b _)[b]? = _
  rw [Array.getElem?_eq_getElem (by simpa using hlt), Array.getElem_modify_self, h']
  rfl
theorem block_far {w : World} {b : Nat} {o : Obj} {a : Addr} {v : Value} (hn : b ≠ a.block) (h : w.heap[b]? = some o) : (w.setCell a v).heap[b]? = some o := (Below.heap_setCell _ _ _ _ hn).trans h

theorem ownsRow_far {w : World} {base : Nat} {e : TypeId} {size : Nat} {v : Value} {n : Nat} {xs : List Value} (h : w.ownsRow base e size v n xs) {p : Addr} (hp : p.block < base) (u : Value) : (w.setCell p u).ownsRow base e size v n xs := by
  obtain ⟨h1, h2⟩ := h
  refine ⟨h1, ?_⟩
  rcases h2 with h2 | ⟨g, cap, cur, hv, hg, hh, r⟩
  · exact .inl h2
  · exact .inr ⟨g, cap, cur, hv, hg, block_far (by omega) hh, r⟩
theorem grow_grown {w w2 w3 : World} {o : Obj} {base : Nat} {e : TypeId} {size : Nat} {v : Value} {n : Nat} {xs : List Value} (h : Grow w w2) (hown : w2.ownsRow base e size v n xs) (hb : w.heap.size ≤ base) (hg : (w2.alloc o).grownBy w3 v.ownBlock) : Grow w w3 :=
  ⟨hg.os.trans h.os, hg.tape.trans h.tape, hg.output.trans h.output, by have := hg.size; have := h.size; simp at *; omega, fun k hk => by
    have := h.size
    rw [hg.block k (by simp; omega) (own_ne hown (by omega)), Below.heap_alloc _ _ _ (by omega)]
    exact h.block k hk⟩
section
variable {P : Program} {ops : Array Oper} {Q : Exit → Act → World → Prop} {md : Region.Mode}

theorem wpAnyH_weaken {S S' : World → Prop} (hS : ∀ w, S w → S' w) : ∀ (fuel : Nat) (listed : Array Bool) (a : Act) (w : World), wpAnyH P md ops Q S fuel listed a w → wpAnyH P md ops Q S' fuel listed a w
  | 0, _, _, _, h => h
  | fuel + 1, _, _, _, h => ⟨h.1, fun i hi => wpOp_mono (fun a' w' h' => ⟨hS _ h'.1, wpAnyH_weaken hS fuel _ a' w' h'.2⟩) (h.2 i hi)⟩

/-- The beginning: no way out by a panic is let. -/
theorem held_start {id : Nat} {a : Act} {w : World} (hm : P.follows .mixedOrders = true)
    (h : wpAnyH P .any ops (NoPanic Q) (Grow w.drew) ops.size (Array.replicate ops.size false) a w.drew) : (Code.region id ops true).wp P Q a w :=
  wp_region_noPanic (wp_region_held hm h)
/-- An operation that only looks is taken first. -/
theorem held_take {i : Nat} {oi : Oper} {v : Value} {fuel : Nat} {listed : Array Bool} {a : Act} {w : World} (hi : ops[i]? = some oi)
    (hs : Region.noSelect ops = true) (hf : Region.free md ops listed i = true) (hr : (Region.ready md ops listed).contains i = true)
    (hw : Region.wanted oi (yielded ops a.tmps) = true) (hy : ∀ w', Grow w w' → (execOp a.eval oi).run P w' = .ok (.value v) w')
    (h : wpAnyH P md ops (NoPanic Q) (Grow w) fuel (listed.setIfInBounds i true) (a.put oi.dst v) w) : wpAnyH P md ops (NoPanic Q) (Grow w) (fuel + 1) listed a w :=
  wpAnyH_take hi hs hf hr (fun _ _ _ h => h) (Or.inl ⟨hw, hy⟩) (Grow.refl w) h
/-- An operation that nobody wants. -/
theorem held_skip {i : Nat} {oi : Oper} {fuel : Nat} {listed : Array Bool} {a : Act} {w : World} (hi : ops[i]? = some oi)
    (hs : Region.noSelect ops = true) (hf : Region.free md ops listed i = true) (hr : (Region.ready md ops listed).contains i = true)
    (hw : Region.wanted oi (yielded ops a.tmps) = false)
    (h : wpAnyH P md ops (NoPanic Q) (Grow w) fuel (listed.setIfInBounds i true) (a.put oi.dst undef) w) : wpAnyH P md ops (NoPanic Q) (Grow w) (fuel + 1) listed a w :=
  wpAnyH_take hi hs hf hr (fun _ _ _ h => h) (Or.inr ⟨hw, rfl⟩) (Grow.refl w) h
/-- An operation that comes up alone, and lets the world grow. -/
theorem held_call {i : Nat} {oi : Oper} {fuel : Nat} {listed : Array Bool} {a : Act} {w : World} (hi : ops[i]? = some oi) (hr : Region.ready md ops listed = [i])
    (hw : Region.wanted oi (yielded ops a.tmps) = true)
    (h : ∀ K : Act → World → Prop, (∀ a' w', Grow w w' → wpAnyH P md ops (NoPanic Q) (Grow w') fuel (listed.setIfInBounds i true) a' w' → K a' w') → oi.wp P a w K (NoPanic Q)) : wpAnyH P md ops (NoPanic Q) (Grow w) (fuel + 1) listed a w := by
  refine wpAnyH_all hr (by simp) fun j hj => ?_
  obtain rfl : j = i := by simpa using hj
  unfold wpOp
  simp only [hi, hw, if_true]
  exact .inl (h _ fun a' w' hg h' => ⟨hg, wpAnyH_weaken (fun x hx => hg.trans hx) _ _ _ _ h'⟩)
theorem held_done {listed : Array Bool} {a : Act} {w : World} (hr : Region.ready md ops listed = []) (h : Q .normal a w) (fuel : Nat) : wpAnyH P md ops (NoPanic Q) (Grow w) fuel listed a w :=
  wpAnyH_done hr (NoPanic.normal h) fuel
end

section
variable {P : Program}
/-- What comes to an end leaves the world as it was, and comes to the same end in every world that has grown from it. -/
def Steady (P : Program) {α : Type} (s : Sem α) : Prop := ∀ (w : World) (x : α) (w1 : World), s.run P w = .ok x w1 → w1 = w ∧ ∀ w', Grow w w' → s.run P w' = .ok x w'
/-- It comes to no end. -/
def Dead (P : Program) {α : Type} (s : Sem α) : Prop := ∀ (w : World) (x : α) (w1 : World), s.run P w ≠ .ok x w1

theorem Steady.pure {α : Type} (x : α) : Steady P (Pure.pure x : Sem α) := fun w y w1 h => by
  have h' : Result.ok x w = Result.ok y w1 := h
  cases h'
  exact ⟨rfl, fun w' _ => rfl⟩
theorem Steady.bind {α β : Type} {s : Sem α} {f : α → Sem β} (hs : Steady P s) (hf : ∀ x, Steady P (f x)) : Steady P (s >>= f) := fun w y w1 h => by
  rw [Sem.run_bind] at h
  cases hr : s.run P w with
  | halt e w2 => rw [hr] at h; cases h
  | ok x w2 =>
    obtain ⟨rfl, hs'⟩ := hs w x w2 hr
    rw [hr] at h
    obtain ⟨rfl, hf'⟩ := hf x w2 y w1 h
    exact ⟨rfl, fun w' hg => by rw [Sem.run_bind, hs' w' hg]; exact hf' w' hg⟩
theorem Dead.steady {α : Type} {s : Sem α} (h : Dead P s) : Steady P s := fun w x w1 e => absurd e (h w x w1)
theorem Dead.halt {α : Type} (h : Halt) : Dead P (Sem.halt h : Sem α) := fun _ _ _ e => by cases e
theorem Dead.bind {α β : Type} {s : Sem α} {f : α → Sem β} (hf : ∀ x, Dead P (f x)) : Dead P (s >>= f) := fun w y w1 h => by
  rw [Sem.run_bind] at h
  cases hr : s.run P w with
  | halt e w2 => rw [hr] at h; cases h
  | ok x w2 => rw [hr] at h; exact hf x w2 y w1 h
theorem Steady.stuck {α : Type} (s : String) : Steady P (stuck s : Sem α) := (Dead.halt _).steady
theorem Steady.unsupported {α : Type} (s : Unsupported) : Steady P (unsupported s : Sem α) := (Dead.halt _).steady
theorem Steady.program : Steady P program := fun w x w1 h => by
  have h' : Result.ok P w = Result.ok x w1 := h
  cases h'
  exact ⟨rfl, fun w' _ => rfl⟩
theorem Dead.bounds {α : Type} (k : IntKind) (x y : Int) (c : BoundsCode) : Dead P (boundsPanic k x y c : Sem α) :=
  by
  unfold boundsPanic
  simp only
  split
  · exact Dead.bind fun _ => Dead.bind fun _ => Dead.halt _
  · exact Dead.bind fun _ => Dead.bind fun _ => Dead.halt _
theorem grow_block {w w' : World} {b : Nat} {o : Obj} (hg : Grow w w') (h : w.heap[b]? = some o) : w'.heap[b]? = some o := (Below.block hg b (lt_of_block h)).trans h

theorem seen_none {w : World} {at_ : Addr} {u : TypeId} {k : Addr} {b : Bool} (h : w.heap[at_.block]? = none) : ∃ e, w.seen P at_ u k b = .error e := by
  unfold World.seen
  by_cases h0 : (k.spot.isSome || at_.spot.isSome) = true
  · rw [if_pos h0]; exact ⟨_, rfl⟩
  · rw [if_neg h0]
    cases h1 : plainCell P P.depth u k.off with
    | none => exact ⟨_, rfl⟩
    | some like =>
      simp only
      cases h2 : like.bytes?.map (·.length) with
      | none => exact ⟨_, rfl⟩
      | some size =>
        simp only
        cases h3 : byteOfCell P P.depth u k.off with
        | none => exact ⟨_, rfl⟩
        | some β => simp only [h]; exact ⟨_, rfl⟩
theorem viewLoad_same {w w' : World} {at_ : Addr} {u : TypeId} {k : Addr} {b : Bool} {r : Value × List Addr} (hg : Grow w w') (h : w.viewLoad P at_ u k b = .ok r) : w'.viewLoad P at_ u k b = .ok r := by
  cases hb : w.heap[at_.block]? with
  | some o =>
    have e := grow_block hg hb
    rw [← h]
    unfold World.viewLoad World.seen
    rw [hb, e]
  | none =>
    obtain ⟨e, he⟩ := seen_none (P := P) (u := u) (k := k) (b := b) hb
    unfold World.viewLoad at h
    rw [he] at h
    cases h
theorem Steady.load (m : Mode) (a : Addr) : Steady P (Sem.load m a Sem.pure) := fun w x w1 h => by
  unfold Sem.run at h
  cases hc : w.cell? a with
  | some v =>
    rw [hc] at h
    have h' : Result.ok v w = Result.ok x w1 := h
    cases h'
    exact ⟨rfl, fun w' hg => by unfold Sem.run; rw [cell_grow hg hc]; rfl⟩
  | none =>
    rw [hc] at h
    simp only at h
    cases hf : w.farLoad P a (m == .atomic) with
    | error e => rw [hf] at h; cases h
    | ok r =>
      rw [hf] at h
      have h' : Result.ok r.1 w = Result.ok x w1 := h
      cases h'
      refine ⟨rfl, fun w' hg => ?_⟩
      unfold World.farLoad at hf
      cases hb : w.heap[a.block]? with
      | none => rw [hb] at hf; cases hf
      | some o =>
        have e := grow_block hg hb
        have ec : w'.cell? a = none := by rw [← hc]; exact World.cell?_of_block (w := w) (e.trans hb.symm)
        unfold Sem.run
        rw [ec]
        simp only
        rw [hb] at hf
        unfold World.farLoad
        rw [e]
        cases o with
        | view at_ u =>
          simp only at hf ⊢
          cases hv : w.viewLoad P at_ u a (m == .atomic) with
          | error s => rw [hv] at hf; cases hf
          | ok r' =>
            rw [hv] at hf
            cases hf
            rw [viewLoad_same hg hv]
            rfl
        | _ => cases hf

theorem Steady.getObj (r : Nat) : Steady P (getObj r) := fun w x w1 h => by
  unfold Go.getObj Sem.run at h
  cases hb : w.heap[r]? with
  | none => rw [hb] at h; cases h
  | some o =>
    rw [hb] at h
    cases o with
    | cells c t f => cases h
    | _ =>
      cases h
      exact ⟨rfl, fun w' hg => by unfold Go.getObj Sem.run; rw [grow_block hg hb]; rfl⟩

theorem Steady.underlying (t : TypeId) : Steady P (underlying t) := by
  refine Steady.bind Steady.program fun p => ?_
  split
  · exact Steady.pure _
  · exact Steady.stuck _
theorem Steady.typeInfo (t : TypeId) : Steady P (typeInfo t) := by
  refine Steady.bind Steady.program fun p => ?_
  split
  · exact Steady.pure _
  · exact Steady.stuck _
theorem Steady.sizeOf (t : TypeId) : Steady P (sizeOf t) := Steady.bind (Steady.typeInfo t) fun _ => Steady.pure _
theorem Steady.isAgg (t : TypeId) : Steady P (isAgg t) := by
  refine Steady.bind (Steady.underlying t) fun d => ?_
  split <;> exact Steady.pure _
theorem Steady.loadCellsFrom (a : Addr) : ∀ (n i : Nat) (acc : Array Value), Steady P (loadCellsFrom a i n acc)
  | 0, _, _ => Steady.pure _
  | n + 1, i, acc => Steady.bind (Steady.load _ _) fun v => Steady.loadCellsFrom a n (i + 1) (acc.push v)
theorem Steady.loadVar (t : TypeId) (a : Addr) : Steady P (loadVar t a) := by
  refine Steady.bind (Steady.isAgg t) fun b => ?_
  split
  · exact Steady.bind (Steady.sizeOf t) fun n => Steady.bind (Steady.loadCellsFrom a n 0 #[]) fun _ => Steady.pure _
  · exact Steady.load _ _
theorem Steady.sureAddr (v : Value) : Steady P (Instr.sureAddr v) := by
  unfold Instr.sureAddr
  split
  · exact Steady.pure _
  · exact Steady.stuck _
theorem Steady.loadAt (t : TypeId) (v : Value) : Steady P (Instr.loadAt t v) := Steady.bind (Steady.sureAddr v) fun a => Steady.loadVar t a
theorem Steady.extract (v : Value) (n : Nat) : Steady P (Instr.extract v n) := by
  unfold Instr.extract
  split
  · split
    · exact Steady.pure _
    · exact Steady.stuck _
  · exact Steady.stuck _
theorem Steady.asBool (v : Value) : Steady P (asBool v) := by
  unfold Go.asBool
  split
  · exact Steady.pure _
  · exact Steady.stuck _
theorem Steady.asIntOf (v : Value) : Steady P (asIntOf v) := by
  unfold Go.asIntOf
  split
  · exact Steady.pure _
  · exact Steady.unsupported _
  · exact Steady.stuck _
theorem Steady.indexAt (t : TypeId) (x i : Value) : Steady P (Instr.indexAt t x i) := by
  unfold Instr.indexAt
  refine Steady.bind (Steady.asIntOf _) fun ki => ?_
  refine Steady.bind (Steady.underlying _) fun d => ?_
  simp only
  split
  all_goals first
    | refine Steady.bind (Steady.sureAddr _) fun _ => Steady.bind (Steady.pure _) fun y => ?_
    | refine Steady.bind (Steady.pure _) fun y => ?_
    | refine Steady.bind (Steady.stuck _) fun y => ?_
  all_goals
    obtain ⟨base, len, elem⟩ := y
    refine Steady.bind (Steady.underlying _) fun d => ?_
    simp only
    repeat' split
    all_goals first
      | exact Steady.bind (Steady.sizeOf _) fun _ => Steady.pure _
      | exact Steady.unsupported _
      | exact (Dead.bounds _ _ _ _).steady
theorem Steady.len (ts : Array TypeId) (t : TypeId) (args : Array Value) : Steady P (Builtin.len_ ts t args) := by
  unfold Builtin.len_
  split
  · refine Steady.bind (Steady.underlying _) fun d => ?_
    split
    · exact Steady.pure _
    · exact Steady.pure _
    · refine Steady.bind (Steady.underlying _) fun d => ?_
      split
      · exact Steady.pure _
      · exact Steady.stuck _
    · exact Steady.pure _
    · exact Steady.pure _
    · exact Steady.pure _
    · refine Steady.bind (Steady.getObj _) fun o => ?_
      split
      · exact Steady.pure _
      · exact Steady.stuck _
    · refine Steady.bind (Steady.getObj _) fun o => ?_
      split
      · exact Steady.pure _
      · exact Steady.stuck _
    · exact Steady.stuck _
  · exact Steady.stuck _

/-- A field that has cells. -/
def fieldOk (P : Program) (s : TypeId) (i : Nat) : Bool :=
  match P.underlying s with
  | some (.struct fs) => match fs[i]? with
    | some f => match P.info? f.type with
      | some t => t.size != 0
      | none => true
    | none => true
  | _ => true
theorem Steady.bind' {α β : Type} {s : Sem α} {f : α → Sem β} (hs : Steady P s) (hf : ∀ w x, s.run P w = .ok x w → Steady P (f x)) : Steady P (s >>= f) := fun w y w1 h => by
  rw [Sem.run_bind] at h
  cases hr : s.run P w with
  | halt e w2 => rw [hr] at h; cases h
  | ok x w2 =>
    obtain ⟨rfl, hs'⟩ := hs w x w2 hr
    rw [hr] at h
    obtain ⟨rfl, hf'⟩ := hf w2 x hr w2 y w1 h
    exact ⟨rfl, fun w' hg => by rw [Sem.run_bind, hs' w' hg]; exact hf' w' hg⟩
theorem underlying_of {w : World} {t : TypeId} {d : TypeDesc} (h : (underlying t).run P w = .ok d w) : P.underlying t = some d := by
  cases hu : P.underlying t with
  | none => simp [Go.underlying, hu] at h
  | some e => simp [Go.underlying, hu] at h; rw [h]
theorem sizeOf_of {w : World} {t : TypeId} {n : Nat} (h : (sizeOf t).run P w = .ok n w) : ∃ i, P.info? t = some i ∧ i.size = n := by
  cases hu : P.info? t with
  | none => simp [Go.sizeOf, Go.typeInfo, hu] at h
  | some e => simp [Go.sizeOf, Go.typeInfo, hu] at h; exact ⟨e, rfl, h⟩
theorem Steady.fieldAt (s : TypeId) (x : Value) (i : Nat) (h : fieldOk P s i = true) : Steady P (Instr.fieldAt s x i) := by
  unfold Instr.fieldAt
  refine Steady.bind' (Steady.underlying s) fun w d hd => ?_
  have hu := underlying_of hd
  unfold fieldOk at h
  rw [hu] at h
  split
  · simp only at h
    split
    · rename_i f hf
      rw [hf] at h
      simp only at h
      refine Steady.bind (Steady.sureAddr _) fun a => Steady.bind ?_ fun _ => Steady.pure _
      refine Steady.bind' (Steady.sizeOf _) fun w n hn => ?_
      obtain ⟨t, ht, rfl⟩ := sizeOf_of hn
      rw [ht] at h
      rw [if_neg (by simpa using h)]
      exact Steady.pure _
    · exact Steady.stuck _
  · exact Steady.stuck _

/-- An operation that only looks. -/
def isReader (P : Program) (o : Oper) : Bool :=
  match o.op with
  | .move _ | .assign _ | .pick .. | .load .. | .indexAddr .. | .extract .. => true
  | .fieldAddr s _ i => fieldOk P s i
  | .unOp .not _ _ => true
  | .call c => match c.callee with
    | .builtin .len => true
    | _ => false
  | _ => false
/-- What it comes to is a value, the same in every world that has grown. -/
def Looks (P : Program) (s : Sem Next) : Prop := ∀ (w : World) (x : Next) (w1 : World), s.run P w = .ok x w1 → ∃ v, x = .value v ∧ w1 = w ∧ ∀ w', Grow w w' → s.run P w' = .ok (.value v) w'
theorem Looks.by {α : Type} {s : Sem α} (h : Steady P s) (g : α → Value) : Looks P (do Pure.pure (Next.value (g (← s)))) := fun w x w1 hr => by
  rw [Sem.run_bind] at hr
  cases hs : s.run P w with
  | halt e w2 => rw [hs] at hr; cases hr
  | ok v w2 =>
    obtain ⟨rfl, hs'⟩ := h w v w2 hs
    rw [hs] at hr
    have e : Result.ok (Next.value (g v)) w2 = Result.ok x w1 := hr
    cases e
    exact ⟨g v, rfl, rfl, fun w' hg => by rw [Sem.run_bind, hs' w' hg]; rfl⟩
theorem Looks.of {s : Sem Value} (h : Steady P s) : Looks P (do Pure.pure (Next.value (← s))) := Looks.by h fun v => v
theorem Looks.pure (v : Value) : Looks P (Pure.pure (Next.value v)) := fun w x w1 hr => by
  have e : Result.ok (Next.value v) w = Result.ok x w1 := hr
  cases e
  exact ⟨v, rfl, rfl, fun w' _ => rfl⟩
theorem isReader_looks {o : Oper} (h : isReader P o = true) (ρ : Operand → Value) : Looks P (execOp ρ o) := by
  obtain ⟨dst, op, type, pos, after, guard⟩ := o
  cases op
  case move x => exact Looks.pure _
  case assign x => exact Looks.pure _
  case pick c a b => exact Looks.by (Steady.asBool (ρ c)) fun t => if t then ρ a else ρ b
  case load t a => exact Looks.of (Steady.loadAt _ _)
  case indexAddr t x i => exact Looks.of (Steady.indexAt _ _ _)
  case extract t i => exact Looks.of (Steady.extract _ _)
  case fieldAddr s x i => exact Looks.of (Steady.fieldAt _ _ _ h)
  case unOp u t x =>
    cases u with
    | not =>
      refine Looks.of ?_
      unfold Op.unary
      split
      all_goals first
        | exact Steady.pure _
        | exact Steady.unsupported _
        | exact Steady.stuck _
        | (rename_i hh; cases hh)
    | _ => cases h
  case call c =>
    obtain ⟨callee, args, argTypes⟩ := c
    cases callee with
    | builtin b =>
      cases b with
      | len => exact Looks.of (Steady.len _ _ _)
      | _ => cases h
    | _ => cases h
  all_goals cases h

variable {ops : Array Oper} {Q : Exit → Act → World → Prop}

/-- In which order a region is walked: which operation, and whether it comes up alone. -/
def planOk (P : Program) (md : Region.Mode) (ops : Array Oper) : List (Nat × Bool) → Array Bool → Bool
  | [], listed => (Region.ready md ops listed).isEmpty
  | (i, true) :: rest, listed => (Region.ready md ops listed == [i]) && planOk P md ops rest (listed.setIfInBounds i true)
  | (i, false) :: rest, listed => ((ops[i]?).map (isReader P)).getD false && Region.free md ops listed i && (Region.ready md ops listed).contains i && planOk P md ops rest (listed.setIfInBounds i true)
/-- The walk by a plan (w0: the world in which its part began). -/
def wpPlan (P : Program) (ops : Array Oper) (Q : Exit → Act → World → Prop) : List (Nat × Bool) → World → Act → World → Prop
  | [], _, a, w => Q .normal a w
  | (i, true) :: rest, w0, a, w => wpOp P ops Q i (fun a' w' => Grow w0 w' ∧ wpPlan P ops Q rest w' a' w') a w
  | (i, false) :: rest, w0, a, w => wpOp P ops Q i (wpPlan P ops Q rest w0) a w
theorem held_plan (hs : Region.noSelect ops = true) (hp : ∀ c a w, ¬ Q (.panic c) a w) (ho : ¬ LetsOut Q) {md : Region.Mode} : ∀ (plan : List (Nat × Bool)) (listed : Array Bool) (a : Act) (w : World),
    planOk P md ops plan listed = true → wpPlan P ops Q plan w a w → wpAnyH P md ops Q (Grow w) plan.length listed a w
  | [], listed, a, w, hk, h => wpAnyH_done (by simpa [planOk] using hk) h _
  | (i, true) :: rest, listed, a, w, hk, h => by
    simp only [planOk, Bool.and_eq_true, beq_iff_eq] at hk
    refine wpAnyH_all hk.1 (by simp) fun j hj => ?_
    obtain rfl : j = i := by simpa using hj
    exact wpOp_mono (fun a' w' h' => ⟨h'.1, wpAnyH_weaken (fun x hx => h'.1.trans hx) _ _ _ _ (held_plan hs hp ho rest _ a' w' hk.2 h'.2)⟩) h
  | (i, false) :: rest, listed, a, w, hk, h => by
    simp only [planOk, Bool.and_eq_true] at hk
    obtain ⟨⟨⟨h1, h2⟩, h3⟩, h4⟩ := hk
    cases hi : ops[i]? with
    | none => rw [hi] at h1; cases h1
    | some o =>
      rw [hi] at h1
      simp only [Option.map_some, Option.getD_some] at h1
      simp only [wpPlan, wpOp, hi] at h
      have hQ : ∀ v c a w, Q (.panic c) (a.put o.dst v) w → Q (.panic c) a w := fun v c a w h => (hp _ _ _ h).elim
      split at h
      · rename_i hw
        rcases h with h | ⟨_, hl⟩
        · unfold Oper.wp at h
          have hlook := isReader_looks h1 a.eval w
          cases hr : (execOp a.eval o).run P w with
          | halt e w1 =>
            rw [hr] at h
            cases e <;> first | exact h.elim | exact (hp _ _ _ h).elim
          | ok x w1 =>
            obtain ⟨v, rfl, rfl, hv⟩ := hlook x w1 hr
            rw [hr] at h
            exact wpAnyH_take hi hs h2 h3 (hQ v) (Or.inl ⟨hw, hv⟩) (Grow.refl _) (held_plan hs hp ho rest _ _ _ h4 h)
        · exact (ho hl).elim
      · rename_i hw
        exact wpAnyH_take hi hs h2 h3 (hQ undef) (Or.inr ⟨by simpa using hw, rfl⟩) (Grow.refl _) (held_plan hs hp ho rest _ _ _ h4 h)

/-- Q, but no way out by a panic, or by want of room. -/
def Sure (Q : Exit → Act → World → Prop) : Exit → Act → World → Prop
  | .panic _, _, _ => False
  | .outgrown, _, _ => False
  | e, a, w => Q e a w
theorem Sure.imp : ∀ (e : Exit) (a : Act) (w : World), Sure Q e a w → Q e a w := fun e a w h => by
  cases e <;> first | exact h | exact (h : False).elim
def consHead (o : Oper) : List (List Oper) → List (List Oper)
  | [] => [[o]]
  | s :: t => (o :: s) :: t
/-- The operations of a plan, cut behind each one that comes up alone. -/
def segs (ops : Array Oper) : List (Nat × Bool) → List (List Oper)
  | [] => [[]]
  | (i, b) :: rest =>
    match ops[i]? with
    | none => if b then [] :: segs ops rest else segs ops rest
    | some o => if b then [o] :: segs ops rest else consHead o (segs ops rest)
/-- The walk, part by part. -/
def wpSegs (P : Program) (ops : Array Oper) (Q : Exit → Act → World → Prop) : List (List Oper) → Act → World → Prop
  | [], a, w => Q .normal a w
  | seg :: rest, a, w => wpList P ops (Exit.then (fun a' w' => Grow w w' ∧ wpSegs P ops Q rest a' w') Q) seg a w
theorem wp_then {o : Oper} {a : Act} {w : World} {X K : Act → World → Prop} (h : o.wp P a w X (Exit.then K Q)) : o.wp P a w X Q := by
  unfold Oper.wp at *
  generalize (execOp a.eval o).run P w = r at *
  cases r with
  | ok n w' =>
    cases n <;> simp only [Oper.upon] at h ⊢ <;>
      first
        | exact h
        | exact Calls.mono h (fun e w'' he => by cases e <;> exact he)
  | halt x w' => cases x <;> exact h
theorem segs_ne : ∀ (plan : List (Nat × Bool)), ∃ s t, segs ops plan = s :: t
  | [] => ⟨[], [], rfl⟩
  | (i, b) :: rest => by
    obtain ⟨s, t, h⟩ := segs_ne rest
    unfold segs
    split
    · split
      · exact ⟨_, _, rfl⟩
      · exact ⟨s, t, h⟩
    · split
      · exact ⟨_, _, rfl⟩
      · rw [h]; exact ⟨_, _, rfl⟩
theorem plan_segs : ∀ (plan : List (Nat × Bool)) (w0 : World) (a : Act) (w : World) (s : List Oper) (t : List (List Oper)), segs ops plan = s :: t →
    wpList P ops (Exit.then (fun a' w' => Grow w0 w' ∧ wpSegs P ops Q t a' w') Q) s a w → wpPlan P ops Q plan w0 a w
  | [], w0, a, w, s, t, hs, h => by
    cases hs
    exact h.2
  | (i, b) :: rest, w0, a, w, s, t, hs, h => by
    obtain ⟨s', t', hr⟩ := segs_ne (ops := ops) rest
    unfold segs at hs
    cases hi : ops[i]? with
    | none =>
      rw [hi] at hs
      cases b with
      | true =>
        simp only [if_true] at hs
        cases hs
        simp only [wpPlan, wpOp, hi]
        refine ⟨h.1, ?_⟩
        have h2 := h.2
        rw [hr] at h2
        exact plan_segs rest w a w s' t' hr h2
      | false =>
        simp only [Bool.false_eq_true, if_false] at hs
        simp only [wpPlan, wpOp, hi]
        exact plan_segs rest w0 a w s t hs h
    | some o =>
      rw [hi] at hs
      cases b with
      | true =>
        simp only [if_true] at hs
        cases hs
        simp only [wpPlan, wpOp, hi]
        simp only [wpList] at h
        split at h
        · rename_i hw
          rw [if_pos hw]
          refine h.imp (fun h => wp_then (Oper.wp_mono (fun a' w' h' => ⟨h'.1, ?_⟩) h)) id
          have h2 := h'.2
          rw [hr] at h2
          exact plan_segs rest w' a' w' s' t' hr h2
        · rename_i hw
          rw [if_neg hw]
          refine ⟨h.1, ?_⟩
          have h2 := h.2
          rw [hr] at h2
          exact plan_segs rest w _ w s' t' hr h2
      | false =>
        simp only [Bool.false_eq_true, if_false] at hs
        rw [hr] at hs
        cases hs
        simp only [wpPlan, wpOp, hi]
        simp only [wpList] at h
        split at h
        · rename_i hw
          rw [if_pos hw]
          exact h.imp (fun h => wp_then (Oper.wp_mono (fun a' w' h' => plan_segs rest w0 a' w' s' _ hr h') h)) id
        · rename_i hw
          rw [if_neg hw]
          exact plan_segs rest w0 _ w s' _ hr h

/-- A region that leaves its order open, walked once, by a plan. -/
theorem wp_region_plan {id : Nat} {a : Act} {w : World} (plan : List (Nat × Bool)) (hm : P.follows .mixedOrders = true) (hs : Region.noSelect ops = true) (hl : plan.length = ops.size)
    (hk : planOk P .any ops plan (Array.replicate ops.size false) = true) (h : wpSegs P ops (Sure Q) (segs ops plan) a w.drew) : (Code.region id ops true).wp P Q a w := by
  refine Code.wp_mono Sure.imp (wp_region_held (S := Grow w.drew) hm ?_)
  rw [← hl]
  obtain ⟨s, t, e⟩ := segs_ne (ops := ops) plan
  rw [e] at h
  refine held_plan hs (fun _ _ _ h => h) (fun ⟨_, _, h⟩ => h) plan _ a w.drew ?_ (plan_segs plan _ a _ s t e h)
  rw [hl]
  exact hk
/-- One part of the walk. -/
theorem segs_step {seg : List Oper} {rest : List (List Oper)} {a : Act} {w : World}
    (h : ∀ K : Act → World → Prop, Hid (∀ a' w', Grow w w' → wpSegs P ops Q rest a' w' → K a' w') → wpList P ops (Exit.then K Q) seg a w) : wpSegs P ops Q (seg :: rest) a w :=
  h _ fun _ _ hg h' => ⟨hg, h'⟩
theorem segs_done {a : Act} {w : World} (h : Q .normal a w) : wpSegs P ops (Sure Q) [] a w := h
end

section
variable {P : Program} {ops : Array Oper} {Q : Exit → Act → World → Prop}

theorem looks_run {s : Sem Next} {v : Value} (h : ∀ w, s.run P w = .ok (.value v) w) : Looks P s := fun w x w1 hr => by
  rw [h w] at hr
  cases hr
  exact ⟨v, rfl, rfl, fun w' _ => h w'⟩

/-- Whatever order is picked, S holds behind every operation, till number c has come up. -/
def wpAnyC (P : Program) (md : Region.Mode) (ops : Array Oper) (Q : Exit → Act → World → Prop) (S : World → Prop) (c : Nat) : Nat → Array Bool → Act → World → Prop
  | 0, listed, a, w => Region.ready md ops listed = [] ∧ Q .normal a w
  | fuel + 1, listed, a, w => (Region.ready md ops listed = [] → Q .normal a w) ∧
      ∀ i ∈ Region.ready md ops listed, wpOp P ops Q i (fun a' w' => (i = c ∧ wpAny P md ops Q fuel (listed.setIfInBounds i true) a' w') ∨ (i ≠ c ∧ S w' ∧ wpAnyC P md ops Q S c fuel (listed.setIfInBounds i true) a' w')) a w
theorem wpAny_of_C {md : Region.Mode} {S : World → Prop} {c : Nat} : ∀ (fuel : Nat) (listed : Array Bool) (a : Act) (w : World), wpAnyC P md ops Q S c fuel listed a w → wpAny P md ops Q fuel listed a w
  | 0, _, _, _, h => h
  | fuel + 1, _, _, _, h => ⟨h.1, fun i hi => wpOp_mono (fun a' w' h' => h'.elim (fun h => h.2) (fun h => wpAny_of_C fuel _ a' w' h.2.2)) (h.2 i hi)⟩
theorem wpAnyC_weaken {md : Region.Mode} {S S' : World → Prop} {c : Nat} (hS : ∀ w, S w → S' w) : ∀ (fuel : Nat) (listed : Array Bool) (a : Act) (w : World), wpAnyC P md ops Q S c fuel listed a w → wpAnyC P md ops Q S' c fuel listed a w
  | 0, _, _, _, h => h
  | fuel + 1, _, _, _, h => ⟨h.1, fun i hi => wpOp_mono (fun a' w' h' => h'.imp id (fun h => ⟨h.1, hS _ h.2.1, wpAnyC_weaken hS fuel _ a' w' h.2.2⟩)) (h.2 i hi)⟩
theorem wpAnyC_done {md : Region.Mode} {S : World → Prop} {c : Nat} {listed : Array Bool} {a : Act} {w : World} (hr : Region.ready md ops listed = []) (h : Q .normal a w) : ∀ fuel, wpAnyC P md ops Q S c fuel listed a w
  | 0 => ⟨hr, h⟩
  | _ + 1 => ⟨fun _ => h, by rw [hr]; simp⟩

/-- All of W wait for number i. -/
def Blocks (md : Region.Mode) (ops : Array Oper) (i : Nat) (W : List Nat) : Prop := ∀ x ∈ W, ∃ o, ops[x]? = some o ∧ ∃ e ∈ o.after, Region.binds md e = true ∧ (e.on = i ∨ e.on ∈ W)
def waiters (md : Region.Mode) (ops : Array Oper) (i : Nat) : List Nat → List Nat
  | [] => []
  | j :: js => if ((ops[j]?).map fun o => o.after.any fun e => Region.binds md e && (e.on == i || (waiters md ops i js).contains e.on)).getD false then j :: waiters md ops i js else waiters md ops i js
theorem waiters_blocks (md : Region.Mode) (ops : Array Oper) (i : Nat) : ∀ js, Blocks md ops i (waiters md ops i js)
  | [] => fun x hx => by cases hx
  | j :: js => by
    have ih := waiters_blocks md ops i js
    unfold waiters
    split
    · rename_i h
      intro x hx
      rcases List.mem_cons.1 hx with rfl | hx
      · cases ho : ops[x]? with
        | none => rw [ho] at h; cases h
        | some o =>
          rw [ho] at h
          simp only [Option.map_some, Option.getD_some, Array.any_eq_true'] at h
          obtain ⟨e, he, h⟩ := h
          simp only [Bool.and_eq_true, Bool.or_eq_true, beq_iff_eq, List.contains_iff_mem] at h
          exact ⟨o, rfl, e, he, h.1, h.2.imp id fun h => List.mem_cons_of_mem _ h⟩
      · obtain ⟨o, ho, e, he, hb, h⟩ := ih x hx
        exact ⟨o, ho, e, he, hb, h.imp id fun h => List.mem_cons_of_mem _ h⟩
    · exact ih
/-- Number c can't come up while i has not. -/
def barred (md : Region.Mode) (ops : Array Oper) (listed : Array Bool) (i c : Nat) : Bool :=
  decide (ops.size ≤ c) || ((waiters md ops i (List.range ops.size).reverse).contains c && (waiters md ops i (List.range ops.size).reverse).all fun x => listed.getD x true == false)
theorem not_ready {md : Region.Mode} {i : Nat} {W : List Nat} {listed : Array Bool} (hb : Blocks md ops i W) (hi : listed.getD i true = false) (hW : ∀ x ∈ W, listed.getD x true = false) {x : Nat} (hx : x ∈ W) : x ∉ Region.ready md ops listed := by
  intro hr
  obtain ⟨_, o, ho, hall⟩ := mem_ready.1 hr
  obtain ⟨o', ho', e, he, hbi, h⟩ := hb x hx
  rw [ho] at ho'
  cases ho'
  have h1 := hall e he hbi
  have h0 : listed.getD e.on true = false := by
    rcases h with h | h
    · rw [h]; exact hi
    · exact hW _ h
  rcases Nat.lt_or_ge e.on listed.size with h' | h'
  · simp [h'] at h0 h1; rw [h0] at h1; cases h1
  · simp [Array.getElem?_eq_none h'] at h1
theorem wpAnyC_first {md : Region.Mode} {S : World → Prop} {c i : Nat} {oi : Oper} {v : Value} {W : List Nat} (hi : ops[i]? = some oi) (hsel : ∀ (j : Nat) (o : Oper) cs b, ops[j]? = some o → o.op ≠ .select cs b)
    (hQ : ∀ c a w, Q (.panic c) (a.put oi.dst v) w → Q (.panic c) a w) (hb : Blocks md ops i W) (hic : i ≠ c) (hc : ops.size ≤ c ∨ c ∈ W) :
    ∀ (fuel : Nat) (listed : Array Bool) (a : Act) (w : World),
      (∀ j oj, ops[j]? = some oj → j ≠ i → listed.getD j true = false → (∀ e ∈ oj.after, Region.binds md e = true → e.on ≠ i) → oi.apart ops oj = true) → (∀ x ∈ W, listed.getD x true = false) →
      i ∈ Region.ready md ops listed → YieldsIf P ops S oi v a → S w →
      wpAnyC P md ops Q S c fuel (listed.setIfInBounds i true) (a.put oi.dst v) w → wpAnyC P md ops Q S c (fuel + 1) listed a w := by
  intro fuel
  induction fuel with
  | zero =>
    intro listed a w _ _ hr hy hS H
    refine ⟨fun h => (by rw [h] at hr; cases hr), fun j hj => ?_⟩
    by_cases hji : j = i
    · subst hji; exact hy.wpOp hi hS (.inr ⟨hic, hS, H⟩)
    · have := ready_mono hj hji
      rw [H.1] at this
      cases this
  | succ fuel ih =>
    intro listed a w hfree hW hr hy hS H
    refine ⟨fun h => (by rw [h] at hr; cases hr), fun j hj => ?_⟩
    by_cases hji : j = i
    · subst hji; exact hy.wpOp hi hS (.inr ⟨hic, hS, H⟩)
    · have h1 := H.2 j (ready_mono hj hji)
      have hiun := (mem_ready.1 hr).1
      have hjW : j ∉ W := fun h => not_ready hb hiun hW h hj
      obtain ⟨hjun, oj, hoj, hall⟩ := mem_ready.1 hj
      have hjc : j ≠ c := by
        rcases hc with hc | hc
        · have : j < ops.size := (Array.getElem?_eq_some_iff.1 hoj).1
          omega
        · intro h; exact hjW (h ▸ hc)
      have hnot : ∀ e ∈ oj.after, Region.binds md e = true → e.on ≠ i := fun e he hb heq => by
        have h1 := hall e he hb
        have h0 := hiun
        rw [heq] at h1
        rcases Nat.lt_or_ge i listed.size with h' | h'
        · simp [h'] at h0 h1; rw [h0] at h1; cases h1
        · simp [Array.getElem?_eq_none h'] at h1
      have h2 := wpOp_putIf hoj (hfree j oj hoj hji hjun hnot) (fun cs b => hsel i oi cs b hi) (fun cs b => hsel j oj cs b hoj) hQ hy h1
      have hfree' : ∀ k ok, ops[k]? = some ok → k ≠ i → (listed.setIfInBounds j true).getD k true = false →
          (∀ e ∈ ok.after, Region.binds md e = true → e.on ≠ i) → oi.apart ops ok = true := fun k ok hk hki hun hno => by
        refine hfree k ok hk hki ?_ hno
        by_cases hjk : j = k
        · subst hjk; exact hjun
        · rw [getD_set_ne true hjk] at hun; exact hun
      have hW' : ∀ x ∈ W, (listed.setIfInBounds j true).getD x true = false := fun x hx => by
        have hjx : j ≠ x := by intro h; subst h; exact hjW hx
        rw [getD_set_ne true hjx]
        exact hW x hx
      refine wpOp_mono (fun a' w' h3 => ?_) h2
      rcases h3.2 with h4 | h4
      · exact absurd h4.1 hjc
      · refine .inr ⟨hjc, h4.2.1, ih (listed.setIfInBounds j true) a' w' hfree' hW' (ready_mono hr (Ne.symm hji)) h3.1 h4.2.1 ?_⟩
        rw [Array.setIfInBounds_comm _ _ hji]
        exact h4.2.2
theorem wpAnyC_take {md : Region.Mode} {S : World → Prop} {c i : Nat} {oi : Oper} {v : Value} {fuel : Nat} {listed : Array Bool} {a : Act} {w : World} (hi : ops[i]? = some oi)
    (hs : Region.noSelect ops = true) (hf : Region.free md ops listed i = true) (hr : (Region.ready md ops listed).contains i = true) (hic : i ≠ c) (hb : barred md ops listed i c = true)
    (hQ : ∀ c a w, Q (.panic c) (a.put oi.dst v) w → Q (.panic c) a w) (hy : YieldsIf P ops S oi v a) (hS : S w)
    (h : wpAnyC P md ops Q S c fuel (listed.setIfInBounds i true) (a.put oi.dst v) w) : wpAnyC P md ops Q S c (fuel + 1) listed a w := by
  unfold barred at hb
  simp only [Bool.or_eq_true, decide_eq_true_eq, Bool.and_eq_true, List.contains_iff_mem, List.all_eq_true, beq_iff_eq] at hb
  have hB := waiters_blocks md ops i (List.range ops.size).reverse
  generalize waiters md ops i (List.range ops.size).reverse = W at *
  rcases hb with hb | hb
  · exact wpAnyC_first (W := []) hi (Region.noSelect_spec hs) hQ (fun x hx => by cases hx) hic (.inl hb) fuel listed a w (Region.free_spec hi hf) (fun x hx => by cases hx) (by simpa using hr) hy hS h
  · exact wpAnyC_first (W := W) hi (Region.noSelect_spec hs) hQ hB hic (.inr hb.1) fuel listed a w (Region.free_spec hi hf) hb.2 (by simpa using hr) hy hS h

/-- The order: 0: it only looks; 1: it comes up alone, and the world grows; 2: it only reckons; 3: it comes up alone, and may change what was there. -/
def nextCut (n : Nat) : List (Nat × Nat) → Nat
  | [] => n
  | (i, 3) :: _ => i
  | _ :: rest => nextCut n rest
def pathOk (P : Program) (md : Region.Mode) (ops : Array Oper) : List (Nat × Nat) → Array Bool → Bool
  | [], listed => (Region.ready md ops listed).isEmpty
  | (i, 0) :: rest, listed => ((ops[i]?).map (isReader P)).getD false && Region.free md ops listed i && (Region.ready md ops listed).contains i && (i != nextCut ops.size rest) && barred md ops listed i (nextCut ops.size rest) && pathOk P md ops rest (listed.setIfInBounds i true)
  | (i, 1) :: rest, listed => (Region.ready md ops listed == [i]) && (i != nextCut ops.size rest) && pathOk P md ops rest (listed.setIfInBounds i true)
  | (i, 3) :: rest, listed => (Region.ready md ops listed == [i]) && pathOk P md ops rest (listed.setIfInBounds i true)
  | (i, _) :: rest, listed => (ops[i]?).isSome && Region.free md ops listed i && (Region.ready md ops listed).contains i && (i != nextCut ops.size rest) && barred md ops listed i (nextCut ops.size rest) && pathOk P md ops rest (listed.setIfInBounds i true)
def wpPath (P : Program) (ops : Array Oper) (Q : Exit → Act → World → Prop) : List (Nat × Nat) → World → Act → World → Prop
  | [], _, a, w => Q .normal a w
  | (i, 0) :: rest, w0, a, w => wpOp P ops Q i (wpPath P ops Q rest w0) a w
  | (i, 1) :: rest, w0, a, w => wpOp P ops Q i (fun a' w' => Grow w0 w' ∧ wpPath P ops Q rest w' a' w') a w
  | (i, 3) :: rest, _, a, w => wpOp P ops Q i (fun a' w' => wpPath P ops Q rest w' a' w') a w
  | (i, _) :: rest, w0, a, w => (∀ o, ops[i]? = some o → Region.wanted o (yielded ops a.tmps) = true → Looks P (execOp a.eval o)) ∧ wpOp P ops Q i (wpPath P ops Q rest w0) a w
theorem path_take {md : Region.Mode} (hs : Region.noSelect ops = true) (hp : ∀ c a w, ¬ Q (.panic c) a w) (ho : ¬ LetsOut Q) {i c n : Nat} {o : Oper} {listed : Array Bool} {a : Act} {w : World} {K : Act → World → Prop} (hi : ops[i]? = some o)
    (hlk : Region.wanted o (yielded ops a.tmps) = true → Looks P (execOp a.eval o)) (h2 : Region.free md ops listed i = true) (h3 : (Region.ready md ops listed).contains i = true) (hic : i ≠ c) (hb : barred md ops listed i c = true)
    (hK : ∀ a', K a' w → wpAnyC P md ops Q (Grow w) c n (listed.setIfInBounds i true) a' w) (h : wpOp P ops Q i K a w) : wpAnyC P md ops Q (Grow w) c (n + 1) listed a w := by
  have hQ : ∀ v c a w, Q (.panic c) (a.put o.dst v) w → Q (.panic c) a w := fun v c a w h => (hp _ _ _ h).elim
  simp only [wpOp, hi] at h
  split at h
  · rename_i hw
    rcases h with h | ⟨_, hl⟩
    · unfold Oper.wp at h
      have hlook := hlk hw w
      cases hr : (execOp a.eval o).run P w with
      | halt e w1 =>
        rw [hr] at h
        cases e <;> first | exact h.elim | exact (hp _ _ _ h).elim
      | ok x w1 =>
        obtain ⟨v, rfl, rfl, hv⟩ := hlook x w1 hr
        rw [hr] at h
        exact wpAnyC_take hi hs h2 h3 hic hb (hQ v) (Or.inl ⟨hw, hv⟩) (Grow.refl _) (hK _ h)
    · exact (ho hl).elim
  · rename_i hw
    exact wpAnyC_take hi hs h2 h3 hic hb (hQ undef) (Or.inr ⟨by simpa using hw, rfl⟩) (Grow.refl _) (hK _ h)
theorem held_path (hs : Region.noSelect ops = true) (hp : ∀ c a w, ¬ Q (.panic c) a w) (ho : ¬ LetsOut Q) {md : Region.Mode} : ∀ (path : List (Nat × Nat)) (listed : Array Bool) (a : Act) (w : World),
    pathOk P md ops path listed = true → wpPath P ops Q path w a w → wpAnyC P md ops Q (Grow w) (nextCut ops.size path) path.length listed a w
  | [], listed, a, w, hk, h => wpAnyC_done (by simpa [pathOk] using hk) h _
  | (i, 0) :: rest, listed, a, w, hk, h => by
    simp only [pathOk, Bool.and_eq_true, bne_iff_ne] at hk
    obtain ⟨⟨⟨⟨⟨h1, h2⟩, h3⟩, hic⟩, hb⟩, h4⟩ := hk
    cases hi : ops[i]? with
    | none => rw [hi] at h1; cases h1
    | some o =>
      rw [hi] at h1
      simp only [Option.map_some, Option.getD_some] at h1
      exact path_take hs hp ho hi (fun _ => isReader_looks h1 a.eval) h2 h3 hic hb (fun a' h' => held_path hs hp ho rest _ a' w h4 h') h
  | (i, 1) :: rest, listed, a, w, hk, h => by
    simp only [pathOk, Bool.and_eq_true, beq_iff_eq, bne_iff_ne] at hk
    refine ⟨fun h0 => (by rw [hk.1.1] at h0; cases h0), fun j hj => ?_⟩
    rw [hk.1.1] at hj
    obtain rfl : j = i := by simpa using hj
    exact wpOp_mono (fun a' w' h' => .inr ⟨hk.1.2, h'.1, wpAnyC_weaken (fun x hx => h'.1.trans hx) _ _ _ _ (held_path hs hp ho rest _ a' w' hk.2 h'.2)⟩) h
  | (i, 2) :: rest, listed, a, w, hk, h => by
    simp only [pathOk, Bool.and_eq_true, bne_iff_ne] at hk
    obtain ⟨⟨⟨⟨⟨h1, h2⟩, h3⟩, hic⟩, hb⟩, h4⟩ := hk
    cases hi : ops[i]? with
    | none => rw [hi] at h1; cases h1
    | some o => exact path_take hs hp ho hi (h.1 o hi) h2 h3 hic hb (fun a' h' => held_path hs hp ho rest _ a' w h4 h') h.2
  | (i, 3) :: rest, listed, a, w, hk, h => by
    simp only [pathOk, Bool.and_eq_true, beq_iff_eq] at hk
    refine ⟨fun h0 => (by rw [hk.1] at h0; cases h0), fun j hj => ?_⟩
    rw [hk.1] at hj
    obtain rfl : j = i := by simpa using hj
    exact wpOp_mono (fun a' w' h' => .inl ⟨rfl, wpAny_of_C _ _ _ _ (held_path hs hp ho rest _ a' w' hk.2 h')⟩) h
  | (i, k + 4) :: rest, listed, a, w, hk, h => by
    simp only [pathOk, Bool.and_eq_true, bne_iff_ne] at hk
    obtain ⟨⟨⟨⟨⟨h1, h2⟩, h3⟩, hic⟩, hb⟩, h4⟩ := hk
    cases hi : ops[i]? with
    | none => rw [hi] at h1; cases h1
    | some o => exact path_take hs hp ho hi (h.1 o hi) h2 h3 hic hb (fun a' h' => held_path hs hp ho rest _ a' w h4 h') h.2
theorem path_from {w0 w1 : World} (hg : Grow w0 w1) : ∀ (path : List (Nat × Nat)) (a : Act) (w : World), wpPath P ops Q path w1 a w → wpPath P ops Q path w0 a w
  | [], _, _, h => h
  | (_, 0) :: rest, _, _, h => wpOp_mono (fun a' w' h' => path_from hg rest a' w' h') h
  | (_, 1) :: _, _, _, h => wpOp_mono (fun _ _ h' => ⟨hg.trans h'.1, h'.2⟩) h
  | (_, 2) :: rest, _, _, h => ⟨h.1, wpOp_mono (fun a' w' h' => path_from hg rest a' w' h') h.2⟩
  | (_, 3) :: _, _, _, h => h
  | (_, _ + 4) :: rest, _, _, h => ⟨h.1, wpOp_mono (fun a' w' h' => path_from hg rest a' w' h') h.2⟩

/-- The parts of a path: each begins with what only reckons, or ends with what comes up alone. -/
abbrev Part := Option Oper × Bool × List Oper
def headed (o : Oper) : List Part → List Part
  | (none, b, s) :: t => (none, b, o :: s) :: t
  | t => (none, false, [o]) :: t
def headed2 (o : Oper) : List Part → List Part
  | (none, b, s) :: t => (some o, b, o :: s) :: t
  | t => (some o, false, [o]) :: t
def parts (ops : Array Oper) : List (Nat × Nat) → List Part
  | [] => [(none, false, [])]
  | (i, k) :: rest =>
    match ops[i]?, k with
    | none, _ => parts ops rest
    | some o, 0 => headed o (parts ops rest)
    | some o, 1 => (none, false, [o]) :: parts ops rest
    | some o, 3 => (none, true, [o]) :: parts ops rest
    | some o, _ => headed2 o (parts ops rest)
/-- The walk, part by part. -/
def wpParts (P : Program) (ops : Array Oper) (Q : Exit → Act → World → Prop) : List Part → Act → World → Prop
  | [], a, w => Q .normal a w
  | (p, b, s) :: t, a, w => (∀ o, p = some o → Region.wanted o (yielded ops a.tmps) = true → Looks P (execOp a.eval o)) ∧ wpList P ops (Exit.then (fun a' w' => (b = false → Grow w w') ∧ wpParts P ops Q t a' w') Q) s a w
/-- One part, in a world that has grown since its beginning. -/
theorem parts_list {o : Oper} {a : Act} {w : World} {X K : Act → World → Prop} {rest : List Oper} (hX : ∀ a' w', wpList P ops (Exit.then K Q) rest a' w' → X a' w') (h : wpList P ops (Exit.then K Q) (o :: rest) a w) {i : Nat} (hi : ops[i]? = some o) : wpOp P ops Q i X a w := by
  simp only [wpList] at h
  unfold wpOp
  simp only [hi]
  split at h
  · rename_i hw
    rw [if_pos hw]
    exact h.imp (fun h => wp_then (Oper.wp_mono hX h)) id
  · rename_i hw
    rw [if_neg hw]
    exact hX _ _ h
theorem parts_ne : ∀ (path : List (Nat × Nat)), ∃ p b s t, parts ops path = (p, b, s) :: t
  | [] => ⟨none, false, [], [], rfl⟩
  | (i, k) :: rest => by
    obtain ⟨p, b, s, t, h⟩ := parts_ne rest
    unfold parts
    split
    · exact ⟨p, b, s, t, h⟩
    · rw [h]; cases p <;> exact ⟨_, _, _, _, rfl⟩
    · exact ⟨_, _, _, _, rfl⟩
    · exact ⟨_, _, _, _, rfl⟩
    · rw [h]; cases p <;> exact ⟨_, _, _, _, rfl⟩
theorem path_parts : ∀ (path : List (Nat × Nat)), (∀ x ∈ path, ∃ o, ops[x.1]? = some o) → ∀ (w0 : World) (a : Act) (w : World) (p : Option Oper) (b : Bool) (s : List Oper) (t : List Part), parts ops path = (p, b, s) :: t →
    (∀ o, p = some o → Region.wanted o (yielded ops a.tmps) = true → Looks P (execOp a.eval o)) → wpList P ops (Exit.then (fun a' w' => (b = false → Grow w0 w') ∧ wpParts P ops Q t a' w') Q) s a w → wpPath P ops Q path w0 a w
  | [], _, w0, a, w, p, b, s, t, hs, _, h => by
    cases hs
    exact h.2
  | (i, k) :: rest, hb, w0, a, w, p, b, s, t, hs, hl, h => by
    have hb' : ∀ x ∈ rest, ∃ o, ops[x.1]? = some o := fun x hx => hb x (List.mem_cons_of_mem _ hx)
    obtain ⟨o, hi⟩ := hb (i, k) (List.mem_cons_self ..)
    simp only at hi
    obtain ⟨p', b', s', t', hr⟩ := parts_ne (ops := ops) rest
    have at' : ∀ a' w', wpParts P ops Q (parts ops rest) a' w' → wpPath P ops Q rest w' a' w' := fun a' w' h2 => by
      rw [hr] at h2
      exact path_parts rest hb' w' a' w' p' b' s' t' hr h2.1 h2.2
    have next : ∀ a' w', ((false = false → Grow w0 w') ∧ wpParts P ops Q (parts ops rest) a' w') → wpPath P ops Q rest w0 a' w' := fun a' w' h' => path_from (h'.1 rfl) rest a' w' (at' a' w' h'.2)
    have reckon : headed2 o (parts ops rest) = (p, b, s) :: t → (∀ o', ops[i]? = some o' → Region.wanted o' (yielded ops a.tmps) = true → Looks P (execOp a.eval o')) ∧ wpOp P ops Q i (wpPath P ops Q rest w0) a w := fun hs => by
      rw [hr] at hs
      cases p' with
      | none =>
        simp only [headed2] at hs
        cases hs
        refine ⟨fun o' ho' hw' => ?_, parts_list (fun a' w' h' => path_parts rest hb' w0 a' w' none _ s' _ hr (fun o e => by cases e) h') h hi⟩
        rw [hi] at ho'
        cases ho'
        exact hl o rfl hw'
      | some q =>
        simp only [headed2] at hs
        rw [← hr] at hs
        cases hs
        refine ⟨fun o' ho' hw' => ?_, parts_list ?_ h hi⟩
        rotate_left
        · intro a' w' h'
          exact next a' w' h'
        rw [hi] at ho'
        cases ho'
        exact hl o rfl hw'
    unfold parts at hs
    rw [hi] at hs
    match k with
    | 0 =>
      simp only at hs
      rw [hr] at hs
      cases p' with
      | none =>
        simp only [headed] at hs
        cases hs
        exact parts_list (fun a' w' h' => path_parts rest hb' w0 a' w' none _ s' _ hr (fun o e => by cases e) h') h hi
      | some q =>
        simp only [headed] at hs
        rw [← hr] at hs
        cases hs
        refine parts_list ?_ h hi
        intro a' w' h'
        exact next a' w' h'
    | 1 =>
      simp only at hs
      cases hs
      exact parts_list (fun a' w' h' => ⟨h'.1 rfl, at' a' w' h'.2⟩) h hi
    | 2 => exact reckon hs
    | 3 =>
      simp only at hs
      cases hs
      refine parts_list ?_ h hi
      intro a' w' h'
      exact at' a' w' (show (true = false → Grow w0 w') ∧ _ from h').2
    | k + 4 => exact reckon hs
theorem path_in {md : Region.Mode} : ∀ (path : List (Nat × Nat)) (listed : Array Bool), pathOk P md ops path listed = true → ∀ x ∈ path, ∃ o, ops[x.1]? = some o
  | [], _, _, x, hx => by cases hx
  | (i, k) :: rest, listed, hk, x, hx => by
    have alone : Region.ready md ops listed = [i] → ∃ o, ops[i]? = some o := fun h => by
      have hm : i ∈ Region.ready md ops listed := by rw [h]; simp
      obtain ⟨_, o, ho, _⟩ := mem_ready.1 hm
      exact ⟨o, ho⟩
    have both : (∃ o, ops[i]? = some o) ∧ pathOk P md ops rest (listed.setIfInBounds i true) = true := by
      match k with
      | 0 =>
        simp only [pathOk, Bool.and_eq_true] at hk
        refine ⟨?_, hk.2⟩
        cases hi : ops[i]? with
        | none => rw [hi] at hk; cases hk.1.1.1.1.1
        | some o => exact ⟨o, rfl⟩
      | 1 =>
        simp only [pathOk, Bool.and_eq_true, beq_iff_eq] at hk
        exact ⟨alone hk.1.1, hk.2⟩
      | 2 =>
        simp only [pathOk, Bool.and_eq_true] at hk
        exact ⟨Option.isSome_iff_exists.1 hk.1.1.1.1.1, hk.2⟩
      | 3 =>
        simp only [pathOk, Bool.and_eq_true, beq_iff_eq] at hk
        exact ⟨alone hk.1, hk.2⟩
      | k + 4 =>
        simp only [pathOk, Bool.and_eq_true] at hk
        exact ⟨Option.isSome_iff_exists.1 hk.1.1.1.1.1, hk.2⟩
    rcases List.mem_cons.1 hx with rfl | hx
    · exact both.1
    · exact path_in rest _ both.2 x hx

/-- A region that leaves its order open, walked once, by a path. -/
theorem wp_region_path {id : Nat} {a : Act} {w : World} (path : List (Nat × Nat)) (hm : P.follows .mixedOrders = true) (hs : Region.noSelect ops = true) (hl : path.length = ops.size)
    (hk : pathOk P .any ops path (Array.replicate ops.size false) = true) (h : wpParts P ops (Sure Q) (parts ops path) a w.drew) : (Code.region id ops true).wp P Q a w := by
  refine Code.wp_mono Sure.imp (wp_region_any hm (wpAny_of_C (S := Grow w.drew) (c := nextCut ops.size path) _ _ _ _ ?_))
  rw [← hl]
  obtain ⟨p, b, s, t, e⟩ := parts_ne (ops := ops) path
  have hin := path_in path _ hk
  rw [e] at h
  have := held_path hs (fun _ _ _ h => h) (fun ⟨_, _, h⟩ => h) path _ a w.drew hk (path_parts path hin _ a _ p b s t e h.1 h.2)
  rw [← hl] at this
  exact this
theorem parts_step {s : List Oper} {t : List Part} {a : Act} {w : World}
    (h : ∀ K : Act → World → Prop, Hid (∀ a' w', Grow w w' → wpParts P ops Q t a' w' → K a' w') → wpList P ops (Exit.then K Q) s a w) : wpParts P ops Q ((none, false, s) :: t) a w :=
  ⟨fun _ e => by (cases e), h _ fun _ _ hg h' => ⟨fun _ => hg, h'⟩⟩
theorem parts_step2 {o : Oper} {s : List Oper} {t : List Part} {a : Act} {w : World} (hl : Region.wanted o (yielded ops a.tmps) = true → Looks P (execOp a.eval o))
    (h : ∀ K : Act → World → Prop, Hid (∀ a' w', Grow w w' → wpParts P ops Q t a' w' → K a' w') → wpList P ops (Exit.then K Q) s a w) : wpParts P ops Q ((some o, false, s) :: t) a w :=
  ⟨fun _ e hw => by (cases e; exact hl hw), h _ fun _ _ hg h' => ⟨fun _ => hg, h'⟩⟩
/-- A part that ends with what may change what was there. -/
theorem parts_cut {s : List Oper} {t : List Part} {a : Act} {w : World}
    (h : ∀ K : Act → World → Prop, Hid (∀ a' w', wpParts P ops Q t a' w' → K a' w') → wpList P ops (Exit.then K Q) s a w) : wpParts P ops Q ((none, true, s) :: t) a w :=
  ⟨fun _ e => by (cases e), h _ fun _ _ h' => ⟨fun e => by (cases e), h'⟩⟩
theorem parts_cut2 {o : Oper} {s : List Oper} {t : List Part} {a : Act} {w : World} (hl : Region.wanted o (yielded ops a.tmps) = true → Looks P (execOp a.eval o))
    (h : ∀ K : Act → World → Prop, Hid (∀ a' w', wpParts P ops Q t a' w' → K a' w') → wpList P ops (Exit.then K Q) s a w) : wpParts P ops Q ((some o, true, s) :: t) a w :=
  ⟨fun _ e hw => by (cases e; exact hl hw), h _ fun _ _ h' => ⟨fun e => by (cases e), h'⟩⟩
theorem parts_done {a : Act} {w : World} (h : Q .normal a w) : wpParts P ops (Sure Q) [] a w := h
end
end Go.Proofs.Ytlioojekjnigiae
/- Rows of structs in memory: as they lie, and rows of one's own. -/
namespace Go.Proofs.Ytlioojekjnigiae
open Go.RowKit

/-- Elements, one value behind another. -/
def flat {α : Type} (enc : α → List Value) (xs : List α) : List Value := xs.flatMap enc
section
variable {α : Type} {enc : α → List Value} {k : Nat}
theorem flat_cons (x : α) (xs : List α) : flat enc (x :: xs) = enc x ++ flat enc xs := rfl
theorem flat_append (xs ys : List α) : flat enc (xs ++ ys) = flat enc xs ++ flat enc ys := by simp [flat]
theorem flat_length (hk : ∀ x, (enc x).length = k) : ∀ xs : List α, (flat enc xs).length = xs.length * k
  | [] => by simp [flat]
  | x :: xs => by rw [flat_cons, List.length_append, hk, flat_length hk xs, List.length_cons, Nat.add_mul, Nat.one_mul, Nat.add_comm]
theorem flat_get (hk : ∀ x, (enc x).length = k) : ∀ (xs : List α) (i r : Nat) (x : α) (v : Value), xs[i]? = some x → (enc x)[r]? = some v → (flat enc xs)[i * k + r]? = some v
  | [], i, r, x, v, h, _ => by cases h
  | y :: ys, 0, r, x, v, h, hv => by
    obtain rfl : y = x := by simpa using h
    rw [flat_cons, Nat.zero_mul, Nat.zero_add, List.getElem?_append_left (List.getElem?_eq_some_iff.1 hv).1, hv]
  | y :: ys, i + 1, r, x, v, h, hv => by
    rw [flat_cons, List.getElem?_append_right (by rw [hk, Nat.add_mul]; omega), hk, show (i + 1) * k + r - k = i * k + r from by rw [Nat.add_mul]; omega]
    exact flat_get hk ys i r x v (by simpa using h) hv
theorem flat_at (hk : ∀ x, (enc x).length = k) : ∀ (xs : List α) (j : Nat) (v : Value), (flat enc xs)[j]? = some v → ∃ i r x, j = i * k + r ∧ xs[i]? = some x ∧ (enc x)[r]? = some v
  | [], j, v, h => by simp [flat] at h
  | y :: ys, j, v, h => by
    rw [flat_cons] at h
    by_cases hj : j < k
    · rw [List.getElem?_append_left (by rw [hk]; exact hj)] at h
      exact ⟨0, j, y, by simp, rfl, h⟩
    · rw [List.getElem?_append_right (by rw [hk]; omega), hk] at h
      obtain ⟨i, r, x, e, hx, hv⟩ := flat_at hk ys (j - k) v h
      exact ⟨i + 1, r, x, by rw [Nat.add_mul]; omega, by simpa using hx, hv⟩
theorem flat_one (h1 : ∀ x, ∀ v ∈ enc x, v.oneCell' = true) (xs : List α) : ∀ v ∈ flat enc xs, v.oneCell' = true := by
  intro v hv
  unfold flat at hv
  rw [List.mem_flatMap] at hv
  obtain ⟨x, _, hv⟩ := hv
  exact h1 x v hv
theorem flat_take (hk : ∀ x, (enc x).length = k) : ∀ (xs : List α) (i : Nat), (flat enc xs).take (i * k) = flat enc (xs.take i)
  | [], i => by simp [flat]
  | x :: xs, 0 => by simp [flat]
  | x :: xs, i + 1 => by
    rw [flat_cons, List.take_succ_cons, flat_cons, Nat.add_mul, Nat.one_mul, Nat.add_comm (i * k) k, ← hk x, List.take_length_add_append, hk x, flat_take hk xs i]
theorem flat_drop (hk : ∀ x, (enc x).length = k) : ∀ (xs : List α) (i : Nat), (flat enc xs).drop (i * k) = flat enc (xs.drop i)
  | [], i => by simp [flat]
  | x :: xs, 0 => by simp
  | x :: xs, i + 1 => by
    rw [flat_cons, List.drop_succ_cons, Nat.add_mul, Nat.one_mul, Nat.add_comm (i * k) k, ← hk x, List.drop_length_add_append, hk x, flat_drop hk xs i]

theorem add_at' {b off : Nat} (i : Nat) : (⟨b, off, none⟩ : Addr).add i = ⟨b, off + i, none⟩ := by unfold Addr.add; split <;> simp_all
/-- A row that lies in memory. -/
def RowAt (enc : α → List Value) (k : Nat) (w : World) (a : Option Addr) (cap : Nat) (xs : List α) : Prop :=
  xs.length ≤ 9223372036854775807 ∧ xs.length ≤ cap ∧ (xs = [] ∨ ∃ b off, a = some ⟨b, off, none⟩ ∧ ∀ i x, xs[i]? = some x → ∀ r v, (enc x)[r]? = some v → w.cell? ⟨b, off + i * k + r, none⟩ = some v)
theorem RowAt.nil (w : World) (a : Option Addr) (cap : Nat) : RowAt enc k w a cap [] := ⟨by simp, by simp, .inl rfl⟩
theorem RowAt.grow {w w' : World} {a : Option Addr} {cap : Nat} {xs : List α} (h : RowAt enc k w a cap xs) (hg : Grow w w') : RowAt enc k w' a cap xs := by
  refine ⟨h.1, h.2.1, h.2.2.imp id ?_⟩
  rintro ⟨b, off, ha, hc⟩
  exact ⟨b, off, ha, fun i x hi r v hv => cell_grow hg (hc i x hi r v hv)⟩
theorem RowAt.at {w : World} {a : Option Addr} {cap : Nat} {xs : List α} (h : RowAt enc k w a cap xs) {i : Nat} {x : α} (hi : xs[i]? = some x) :
    ∃ b off, a = some ⟨b, off, none⟩ ∧ ∀ r v, (enc x)[r]? = some v → w.cell? ⟨b, off + i * k + r, none⟩ = some v := by
  rcases h.2.2 with rfl | ⟨b, off, ha, hc⟩
  · cases hi
  · exact ⟨b, off, ha, hc i x hi⟩
theorem RowAt.news (hk : ∀ x, (enc x).length = k) {w : World} {b off cap : Nat} {xs : List α} (h : RowAt enc k w (some ⟨b, off, none⟩) cap xs) : ∀ j v, (flat enc xs)[j]? = some v → w.cell? ((⟨b, off, none⟩ : Addr).add j) = some v := by
  intro j v hv
  obtain ⟨i, r, x, rfl, hx, hv⟩ := flat_at hk xs j v hv
  obtain ⟨b', off', e, hc⟩ := h.at hx
  cases e
  rw [add_at', ← Nat.add_assoc]
  exact hc r v hv
/-- A row of one's own, as a row that lies in memory. -/
theorem RowAt.of_own (hk : ∀ x, (enc x).length = k) {w : World} {base : Nat} {e : TypeId} {a : Option Addr} {cap : Nat} {xs : List α} (hl : xs.length ≤ 9223372036854775807)
    (h : w.ownsRow base e k (.slice a xs.length cap) xs.length (flat enc xs)) : RowAt enc k w a cap xs := by
  rcases h.2 with ⟨h0, h1⟩ | ⟨g, cap', cur, hv, hb, hg, hle, _⟩
  · rw [List.length_eq_zero_iff.1 h1]
    exact RowAt.nil _ _ _
  · cases hv
    refine ⟨hl, hle, .inr ⟨g, 0, rfl, fun i x hi r v hv => ?_⟩⟩
    have := h.cells (g := g) rfl (i * k + r) v (flat_get hk xs i r x v hi hv)
    rwa [add_at', ← Nat.add_assoc] at this
theorem RowAt.take {w : World} {a : Option Addr} {cap : Nat} {xs : List α} (h : RowAt enc k w a cap xs) (n : Nat) : RowAt enc k w a cap (xs.take n) := by
  refine ⟨by have := h.1; rw [List.length_take]; omega, by have := h.2.1; rw [List.length_take]; omega, h.2.2.imp (fun e => by rw [e]; simp) ?_⟩
  rintro ⟨b, off, ha, hc⟩
  refine ⟨b, off, ha, fun i x hi => hc i x ?_⟩
  rw [List.getElem?_take] at hi
  split at hi
  · exact hi
  · cases hi
theorem grow_of_grown' {w w3 : World} (hg : w.grownBy w3 none) : Grow w w3 :=
  ⟨hg.os, hg.tape, hg.output, hg.size, fun k hk => hg.block k hk (by simp)⟩
/-- What is appended to a row of one's own leaves what lay ahead of it. -/
theorem below_grown {base : Nat} {w w' : World} {row : Option Nat} (hg : w.grownBy w' row) (hr : ∀ g, row = some g → base ≤ g) (hb : base ≤ w.heap.size) : Below base w w' :=
  ⟨hg.os, hg.tape, hg.output, hg.size, fun j hj => hg.block j (by omega) (fun e => by have := hr j e.symm; omega)⟩

/-- Nothing is appended to nothing. -/
theorem wpList_append_none {P : Program} {w : World} {ops : Array Oper} {rest : List Oper} {o : Oper} {a : Act} {Q : Exit → Act → World → Prop} (hgd : o.guard = none) (s x : Operand) (t : TypeId)
    (ho : o.op = .call { callee := .builtin .append, args := #[s, x], argTypes := #[t, t] }) (e : TypeId) (i : TypeInfo) (ht : P.underlying t = some (.slice e)) (hi : P.info? e = some i)
    (hs : a.eval s = .slice none 0 0) (a0 : Option Addr) (cap : Nat) (hx : a.eval x = .slice a0 0 cap) (h : wpList P ops Q rest (a.put o.dst (.slice none 0 0)) w) : wpList P ops Q (o :: rest) a w := by
  refine wpList_plain hgd fun K hK => ?_
  have hrun : (Builtin.append_ #[t, t] o.type #[.slice none 0 0, .slice a0 0 cap]).run P w = .ok (.slice none 0 0) w := by
    cases a0 <;> simp [Builtin.append_, run_underlying ht, sizeOf, typeInfo, hi, loadCells, loadCellsFrom, Builtin.lenOf, Builtin.firstCells]
  unfold Oper.wp
  simp [execOp, ho, resolve, invoke, builtin, hs, hx, hrun, Result.andThen]
  exact hK _ _ h
end
end Go.Proofs.Ytlioojekjnigiae
/- Laws of rows of structs: copy, clear, and what slices.Insert and slices.Delete make of a row. -/
namespace Go.Proofs.Ytlioojekjnigiae
open Go.RowKit

section
variable {P : Program}
/-- copy into a row that is known whole. -/
theorem run_copy_row (w : World) (dT sT ty elem : TypeId) (size g o dLen dCap : Nat) (a : Addr) (sLen sCap : Nat) (cs : List Value) (cur : Array Value) (t : TypeId)
    (hu : P.underlying dT = some (.slice elem)) (i : TypeInfo) (hi : P.info? elem = some i) (hs : i.size = size) (hn : cs.length = Nat.min sLen dLen * size)
    (hsrc : ∀ j v, cs[j]? = some v → w.cell? (a.add j) = some v) (hg : w.heap[g]? = some (.cells cur t (0, 0))) (hfit : o + cs.length ≤ cur.size) (h1 : ∀ v ∈ cs, v.oneCell' = true) :
    (Builtin.copy_ #[dT, sT] ty #[.slice (some ⟨g, o, none⟩) dLen dCap, .slice (some a) sLen sCap]).run P w = .ok (goInt (Nat.min sLen dLen)) (w.setRow g (cur.toList.take o ++ cs ++ cur.toList.drop (o + cs.length)).toArray) := by
  have hl := run_loadCells_list (P := P) w a cs hsrc
  have hst := run_storeCells_at P g o t cs 0 cur w hg (by simpa using hfit) h1
  simp only [Nat.add_zero] at hst
  rw [hn] at hl
  simp [Builtin.copy_, run_underlying hu, Builtin.lenOf, Builtin.firstCells, sizeOf, typeInfo, hi, hs, hl, hst]
/-- clear, of a row that is known whole. -/
theorem run_clear_row (w : World) (t e ty : TypeId) (z : Value) (ht : P.underlying t = some (.slice e)) (hv : ∀ w, (zeroValue e).run P w = .ok z w) (h1 : ∀ v ∈ z.cells.toList, v.oneCell' = true) (g o n c : Nat) (cur : Array Value) (et : TypeId)
    (hg : w.heap[g]? = some (.cells cur et (0, 0))) (hfit : o + (n + 1) * z.cells.size ≤ cur.size) :
    (Builtin.clear_ #[t] ty #[.slice (some ⟨g, o, none⟩) (n + 1) c]).run P w = .ok (.tuple #[]) (w.setRow g (cur.toList.take o ++ (Builtin.zeroCells z.cells (n + 1)).toList ++ cur.toList.drop (o + (n + 1) * z.cells.size)).toArray) := by
  have hl : (Builtin.zeroCells z.cells (n + 1)).toList.length = (n + 1) * z.cells.size := by simp [size_zeroCells]
  have hst := run_storeCells_at P g o et (Builtin.zeroCells z.cells (n + 1)).toList 0 cur w hg (by rw [hl]; simpa using hfit) (by
    intro v hv'
    simp only [Builtin.zeroCells, Array.toList_map, List.mem_map, Array.toList_range, List.mem_range] at hv'
    obtain ⟨j, hj, rfl⟩ := hv'
    have hz : 0 < z.cells.size := by
      rcases Nat.eq_zero_or_pos z.cells.size with h | h
      · rw [h] at hj; simp at hj
      · exact h
    have hlt : j % z.cells.size < z.cells.size := Nat.mod_lt _ hz
    rw [getElem!_pos z.cells (j % z.cells.size) hlt]
    exact h1 _ (by simp))
  simp only [Nat.add_zero] at hst
  rw [hl] at hst
  simp [Builtin.clear_, run_underlying ht, hv, hst]
theorem wpList_copy_run (w : World) {ops : Array Oper} {rest : List Oper} {o : Oper} {a : Act} {Q : Exit → Act → World → Prop} (hgd : o.guard = none) (d s : Operand) (t t' : TypeId)
    (ho : o.op = .call { callee := .builtin .copy, args := #[d, s], argTypes := #[t, t'] }) (v u : Value) (hd : a.eval d = v) (hs : a.eval s = u) {v' : Value} {w' : World}
    (hr : (Builtin.copy_ #[t, t'] o.type #[v, u]).run P w = .ok v' w') (h : wpList P ops Q rest (a.put o.dst v') w') : wpList P ops Q (o :: rest) a w :=
  wpList_plain hgd fun _ hK => by
    unfold Oper.wp execOp
    simp only [ho, resolve, invoke, builtin, Sem.run_bind, Sem.run_pure, Result.andThen_ok, List.map_toArray, List.map_cons, List.map_nil, hd, hs, hr]
    exact hK _ _ h
theorem wpList_clear_run (w : World) {ops : Array Oper} {rest : List Oper} {o : Oper} {a : Act} {Q : Exit → Act → World → Prop} (hgd : o.guard = none) (s : Operand) (t : TypeId)
    (ho : o.op = .call { callee := .builtin .clear, args := #[s], argTypes := #[t] }) (u : Value) (hs : a.eval s = u) {v' : Value} {w' : World}
    (hr : (Builtin.clear_ #[t] o.type #[u]).run P w = .ok v' w') (h : wpList P ops Q rest (a.put o.dst v') w') : wpList P ops Q (o :: rest) a w :=
  wpList_plain hgd fun _ hK => by
    unfold Oper.wp execOp
    simp only [ho, resolve, invoke, builtin, Sem.run_bind, Sem.run_pure, Result.andThen_ok, List.map_toArray, List.map_cons, List.map_nil, hs, hr]
    exact hK _ _ h
theorem wpList_append_ran (w : World) {ops : Array Oper} {rest : List Oper} {o : Oper} {a : Act} {Q : Exit → Act → World → Prop} (hgd : o.guard = none) (s x : Operand) (t tn : TypeId)
    (ho : o.op = .call { callee := .builtin .append, args := #[s, x], argTypes := #[t, tn] }) (vs vx : Value) (hs : a.eval s = vs) (hx : a.eval x = vx)
    {v' : Value} {w' : World} (hr : (Builtin.append_ #[t, tn] o.type #[vs, vx]).run P w = .ok v' w') (h : wpList P ops Q rest (a.put o.dst v') w') : wpList P ops Q (o :: rest) a w :=
  Lib.wpList_append_run w hgd s x t tn ho vs vx hs hx v' w' hr h
end

theorem grownBy_setRow {w : World} {g : Nat} {cur cur' : Array Value} {t : TypeId} (_h : w.heap[g]? = some (.cells cur t (0, 0))) : w.grownBy (w.setRow g cur') (some g) :=
  ⟨rfl, rfl, rfl, by simp [World.setRow], fun k hk hn => setRow_other _ _ _ _ (fun e => hn (by rw [e]))⟩
theorem grownBy_trans {a b c : World} {row : Option Nat} (h : a.grownBy b row) (k : b.grownBy c row) : a.grownBy c row :=
  ⟨k.os.trans h.os, k.tape.trans h.tape, k.output.trans h.output, Nat.le_trans h.size k.size, fun j hj hn => (k.block j (Nat.lt_of_lt_of_le hj h.size) hn).trans (h.block j hj hn)⟩
theorem grownBy_drew (w : World) (row : Option Nat) : w.grownBy w.drew row := ⟨rfl, rfl, rfl, Nat.le_refl _, fun _ _ _ => rfl⟩
theorem grownBy_refl (w : World) (row : Option Nat) : w.grownBy w row := ⟨rfl, rfl, rfl, Nat.le_refl _, fun _ _ _ => rfl⟩
theorem grownBy_of_grow {w w' : World} (h : Grow w w') (row : Option Nat) : w.grownBy w' row := ⟨Below.os h, Below.tape h, Below.output h, Below.size h, fun k hk _ => Below.block h k hk⟩

/-- What a row is behind a shift. -/
theorem row_shift {cur cs xs : List Value} {I N k : Nat} (hI : I ≤ N) (hx : xs.length = k) (hc : N + k ≤ cur.length) (ht : cur.take N = cs) :
    ((cur.take (I + k) ++ cs.drop I ++ cur.drop (I + k + (N - I))).take I ++ xs ++ (cur.take (I + k) ++ cs.drop I ++ cur.drop (I + k + (N - I))).drop (I + k)).take (N + k) = cs.take I ++ xs ++ cs.drop I := by
  have hl : cs.length = N := by rw [← ht, List.length_take]; omega
  have e1 : (cur.take (I + k) ++ cs.drop I ++ cur.drop (I + k + (N - I))).take I = cs.take I := by
    rw [List.append_assoc, List.take_append_of_le_length (by rw [List.length_take]; omega), List.take_take, Nat.min_eq_left (by omega), ← ht, List.take_take, Nat.min_eq_left hI]
  have e2 : (cur.take (I + k) ++ cs.drop I ++ cur.drop (I + k + (N - I))).drop (I + k) = cs.drop I ++ cur.drop (I + k + (N - I)) := by
    rw [List.append_assoc]
    exact List.drop_left' (by rw [List.length_take]; omega)
  rw [e1, e2, ← List.append_assoc]
  exact List.take_left' (by simp; omega)
theorem row_shift_size {cur cs xs : List Value} {I N k : Nat} (hI : I ≤ N) (hx : xs.length = k) (hc : N + k ≤ cur.length) (hl : cs.length = N) :
    ((cur.take (I + k) ++ cs.drop I ++ cur.drop (I + k + (N - I))).take I ++ xs ++ (cur.take (I + k) ++ cs.drop I ++ cur.drop (I + k + (N - I))).drop (I + k)).length = cur.length := by
  simp
  omega
/-- What a new row is. -/
theorem row_new {cur cs xs : List Value} {I N k : Nat} (hI : I ≤ N) (hx : xs.length = k) (ht : cur.take I = cs.take I) (hl : cs.length = N) :
    ((cur.take I ++ xs ++ cur.drop (I + k)).take (I + k) ++ cs.drop I ++ (cur.take I ++ xs ++ cur.drop (I + k)).drop (I + k + (N - I))).take (N + k) = cs.take I ++ xs ++ cs.drop I := by
  have e1 : (cur.take I ++ xs ++ cur.drop (I + k)).take (I + k) = cs.take I ++ xs := by
    rw [ht]
    exact List.take_left' (by simp; omega)
  rw [e1]
  exact List.take_left' (by simp; omega)
theorem row_new_size {cur cs xs : List Value} {I N k : Nat} (hI : I ≤ N) (hx : xs.length = k) (hc : N + k ≤ cur.length) (hl : cs.length = N) :
    ((cur.take I ++ xs ++ cur.drop (I + k)).take (I + k) ++ cs.drop I ++ (cur.take I ++ xs ++ cur.drop (I + k)).drop (I + k + (N - I))).length = cur.length := by
  simp
  omega
/-- What a row is where one is taken out, and its end cleared. -/
theorem row_cut {cur cs zs : List Value} {I N k : Nat} (hI : I + k ≤ N) (hz : zs.length = k) (hc : N ≤ cur.length) (ht : cur.take N = cs) :
    ((cur.take I ++ cs.drop (I + k) ++ cur.drop (I + (N - (I + k)))).take (N - k) ++ zs ++ (cur.take I ++ cs.drop (I + k) ++ cur.drop (I + (N - (I + k)))).drop (N - k + k)).take (N - k) = cs.take I ++ cs.drop (I + k) := by
  have hl : cs.length = N := by rw [← ht, List.length_take]; omega
  have e0 : cur.take I = cs.take I := by rw [← ht, List.take_take, Nat.min_eq_left (by omega)]
  have e1 : (cur.take I ++ cs.drop (I + k) ++ cur.drop (I + (N - (I + k)))).take (N - k) = cs.take I ++ cs.drop (I + k) := by
    rw [e0]
    exact List.take_left' (by simp; omega)
  rw [e1, List.append_assoc]
  exact List.take_left' (by simp; omega)
theorem row_cut_size {cur cs zs : List Value} {I N k : Nat} (hI : I + k ≤ N) (hz : zs.length = k) (hc : N ≤ cur.length) (hl : cs.length = N) :
    ((cur.take I ++ cs.drop (I + k) ++ cur.drop (I + (N - (I + k)))).take (N - k) ++ zs ++ (cur.take I ++ cs.drop (I + k) ++ cur.drop (I + (N - (I + k)))).drop (N - k + k)).length = cur.length := by
  simp
  omega
theorem ownsRow_grow {w w' : World} {base : Nat} {e : TypeId} {size : Nat} {v : Value} {n : Nat} {xs : List Value} (h : w.ownsRow base e size v n xs) (hg : Grow w w') : w'.ownsRow base e size v n xs :=
  h.kept (grownBy_of_grow hg none) (by cases hv : v.ownBlock <;> simp)
theorem ownsRow_set {w : World} {base : Nat} {e : TypeId} {size : Nat} {v : Value} {n : Nat} {xs : List Value} (h : w.ownsRow base e size v n xs) {p : Addr} (hp : v.ownBlock ≠ some p.block) (u : Value) : (w.setCell p u).ownsRow base e size v n xs := by
  obtain ⟨h1, h2⟩ := h
  refine ⟨h1, ?_⟩
  rcases h2 with h2 | ⟨g, cap, cur, hv, hg, hh, r⟩
  · exact .inl h2
  · subst hv
    exact .inr ⟨g, cap, cur, rfl, hg, block_far (fun e => hp (by rw [← e]; rfl)) hh, r⟩
section
variable {P : Program} {α : Type} {enc : α → List Value}
/-- A row is appended to nothing: a row of one's own. -/
theorem wpList_append_copy {w : World} {ops : Array Oper} {rest : List Oper} {o : Oper} {a : Act} {Q : Exit → Act → World → Prop} (hgd : o.guard = none) (s x : Operand) (t : TypeId)
    (ho : o.op = .call { callee := .builtin .append, args := #[s, x], argTypes := #[t, t] }) (base : Nat) (e : TypeId) (i : TypeInfo) (z : Value) (size bytes : Nat) (ht : P.underlying t = some (.slice e)) (hi : P.info? e = some i) (hz : i.zero = some z)
    (hsize : i.size = size) (hby : i.bytes = bytes) (hzs : z.cells.size = size) (hsz : 0 < size) (hs : a.eval s = .slice none 0 0) (a0 : Option Addr) (cap : Nat) (xs : List α) (hx : a.eval x = .slice a0 xs.length cap)
    (hrow : RowAt enc size w a0 cap xs) (hk : ∀ x, (enc x).length = size) (h1 : ∀ x, ∀ v ∈ enc x, v.oneCell' = true) (hn : xs.length * bytes ≤ 140737488355328) (h63 : xs.length ≤ maxLen) (hb : base ≤ w.heap.size) (H : Nat) (hH : w.heap.size = H)
    (h : ∀ a' cap' w', w'.ownsRow base e size (.slice a' xs.length cap') xs.length (flat enc xs) → Grow w w' → (∀ y, a' = some y → y.block = H) → wpList P ops Q rest (a.put o.dst (.slice a' xs.length cap')) w') : wpList P ops Q (o :: rest) a w := by
  by_cases hn0 : xs = []
  · subst hn0
    exact wpList_append_none hgd s x t ho e i ht hi hs a0 cap hx (h none 0 w ⟨by simp [flat], .inl ⟨rfl, rfl⟩⟩ (Grow.refl _) (fun y hy => by cases hy))
  · have hpos := List.length_pos_iff.2 hn0
    obtain ⟨b, off, rfl, _⟩ := hrow.at (List.getElem?_eq_getElem hpos)
    refine wpList_append_lies w hgd s x t ho base e i z size bytes ht hi hz hsize hby hzs hsz (.slice none 0 0) 0 [] hs (World.ownsRow_nil _ _ _ _) ⟨b, off, none⟩ xs.length cap (flat enc xs) hx (flat_length hk xs) (hrow.news hk) (flat_one h1 xs) hpos (by omega) (by rw [Nat.zero_add]; exact hn) hb H hH ?_
    intro g cap' w' hown hgrow hat _
    simp only [List.nil_append, Nat.zero_add] at hown
    rw [Nat.zero_add]
    exact h (some ⟨g, 0, none⟩) cap' w' hown (grow_of_grown' hgrow) (fun y hy => by
      cases hy
      rcases hat with h | h
      · cases h
      · exact h)
end
end Go.Proofs.Ytlioojekjnigiae
/- slices.Insert and slices.Delete, of a row of waits of one's own. -/
namespace Go.Proofs.Ytlioojekjnigiae.IT
open Go.RowKit
set_option linter.unusedVariables false

theorem infoT : (Try.prog.info? 106).map (fun i => (i.zero, i.size, i.bytes)) = some (some (.agg #[.int .i64 0, .int .i64 0, .slice none 0 0]), 3, 40) := by kernel_rfl
theorem news_block {w : World} {b : Nat} {xv : Array Value} {xs : List Value} {t : TypeId} {k : Nat} (h : w.heap[b]? = some (.cells xv t (0, 0))) (ht : xv.toList.take k = xs) : ∀ j u, xs[j]? = some u → w.cell? ((⟨b, 0, none⟩ : Addr).add j) = some u := fun j u hu => by
  rw [add_at', Nat.zero_add]
  rw [← ht, List.getElem?_take] at hu
  split at hu
  · exact cell_of_block h (by simpa using hu)
  · cases hu

set_option maxHeartbeats 2000000 in
set_option maxRecDepth 100000 in
theorem insert_end (base : Nat) (v : Value) (n : Nat) (cs xs : List Value) (vb vc : Nat) (xv : Array Value) (w : World) (hown : w.ownsRow base 106 3 v n cs) (hx : w.heap[vb]? = some (.cells xv 106 (0, 0))) (hxl : xs.length = 3) (hxt : xv.toList.take 3 = xs) (hxs : xv.size = vc * 3) (hvc : 1 ≤ vc) (h1 : ∀ u ∈ xs, u.oneCell' = true) (hn : n ≤ 1000) (hb : base ≤ w.heap.size) :
    Calls Try.prog 88 #[v, .int .i64 n, .slice (some ⟨vb, 0, none⟩) 1 vc] w fun e w' => ∃ g cap, e = .returned (.slice (some ⟨g, 0, none⟩) (n + 1) cap) ∧ w'.ownsRow base 106 3 (.slice (some ⟨g, 0, none⟩) (n + 1) cap) (n + 1) (cs ++ xs) ∧ w.grownBy w' v.ownBlock ∧ (v.ownBlock = some g ∨ g = w.heap.size) := by
  obtain ⟨i0, hinf, hz0, hz1, hz2⟩ := info_parts infoT
  have HX : Hid (∀ j u, xs[j]? = some u → w.cell? ((⟨vb, 0, none⟩ : Addr).add j) = some u) := news_block hx hxt
  have HO : Hid (w.ownsRow base 106 3 v n cs) := hown
  have H3 : Hid (xs.length = 1 * 3) := by show xs.length = _; omega
  clear hx hxt hxs hxl
  rcases hown.2 with ⟨rfl, rfl⟩ | ⟨g, cap, cur, rfl, hbg, hg, hle, hcm, hcs, ht⟩
  · clear hown
    go_enter Try.func88, Try.ntmps88
    go_wp2_with (at_builtin; go_must (refine wpList_append_lies _ (by rfl) _ _ 88 (by rfl) base 106 i0 (.agg #[.int .i64 0, .int .i64 0, .slice none 0 0]) 3 40 Try.underlying88 hinf hz0 hz1 hz2 (by rfl) (by decide) (.slice none 0 0) 0 cs (by rfl) HO.out ⟨vb, 0, none⟩ 1 vc xs (by rfl) H3.out HX.out h1 (by decide) (by unfold maxLen; omega) (by omega) hb w.heap.size rfl ?_; intro g cap' w3 hown3 hgrow hat hltg))
    go_ret
    exact ⟨g, cap', rfl, hown3, hgrow, hat⟩
  · clear hown hg hcs ht hbg
    have hcm' : cap ≤ 9223372036854775807 := by unfold maxLen at hcm; omega
    clear hcm
    go_enter Try.func88, Try.ntmps88
    go_wp2_with (at_builtin; go_must (refine wpList_append_lies _ (by rfl) _ _ 88 (by rfl) base 106 i0 (.agg #[.int .i64 0, .int .i64 0, .slice none 0 0]) 3 40 Try.underlying88 hinf hz0 hz1 hz2 (by rfl) (by decide) (.slice (some ⟨g, 0, none⟩) n cap) n cs (by rfl) HO.out ⟨vb, 0, none⟩ 1 vc xs (by rfl) H3.out HX.out h1 (by decide) (by unfold maxLen; omega) (by omega) hb w.heap.size rfl ?_; intro g' cap' w3 hown3 hgrow hat hltg))
    all_goals
      go_ret
      exact ⟨g', cap', rfl, hown3, hgrow, hat⟩

set_option maxHeartbeats 4000000 in
set_option maxRecDepth 100000 in
theorem insert_room (base g n cap i : Nat) (cur : Array Value) (cs xs : List Value) (vb vc : Nat) (xv : Array Value) (w : World) (hg : w.heap[g]? = some (.cells cur 106 (0, 0))) (hbg : base ≤ g) (hcm : cap ≤ maxLen) (hcs : cur.size = cap * 3) (ht : cur.toList.take (n * 3) = cs) (hroom : n + 1 ≤ cap) (hi : i < n)
    (hx : w.heap[vb]? = some (.cells xv 106 (0, 0))) (hne : vb ≠ g) (hxl : xs.length = 3) (hxt : xv.toList.take 3 = xs) (hxs : xv.size = vc * 3) (hvc : 1 ≤ vc) (h1 : ∀ u ∈ xs, u.oneCell' = true) (h1c : ∀ u ∈ cs, u.oneCell' = true) (hn : n ≤ 1000) :
    Calls Try.prog 88 #[.slice (some ⟨g, 0, none⟩) n cap, .int .i64 i, .slice (some ⟨vb, 0, none⟩) 1 vc] w fun e w' => e = .returned (.slice (some ⟨g, 0, none⟩) (n + 1) cap) ∧ w'.ownsRow base 106 3 (.slice (some ⟨g, 0, none⟩) (n + 1) cap) (n + 1) (cs.take (i * 3) ++ xs ++ cs.drop (i * 3)) ∧ w.grownBy w' (some g) := by
  obtain ⟨i0, hinf, hz0, hz1, hz2⟩ := info_parts infoT
  have hlt := lt_of_block hg
  have hcm' : cap ≤ 9223372036854775807 := by unfold maxLen at hcm; omega
  have hcsl : cs.length = n * 3 := by rw [← ht, List.length_take]; simp; omega
  have hov : ∀ lb cb, (callFunc 93 #[.slice (some ⟨vb, 0, none⟩) 1 vc, .slice (some ⟨g, (i + 1) * 3, none⟩) lb cb]).run Try.prog w = .ok (.value (.bool false)) w := fun lb cb => by
    rw [run_callFunc_extern Try.func93 (by kernel_rfl) (by kernel_rfl) (by kernel_rfl) (e := Extern.SlicesOverlaps.overlaps #[88, 88] #[4]) (by kernel_rfl),
      Lib.run_overlaps_apart w 88 4 106 Try.underlying88 3 Try.sizeOf106 ⟨vb, 0, none⟩ ⟨g, (i + 1) * 3, none⟩ 1 vc lb cb hne 106 106 (vc * 3) (cap * 3) (by simp [World.shape?, hx, hxs]) (by simp [World.shape?, hg, hcs]) (by omega) (by simp [World.frozen?, hx]) (by simp [World.frozen?, hx])]
    rfl
  have hnq : ¬ ((i : Int) = (n : Int)) := by omega
  have hnq' : decide ((i : Int) = (n : Int)) = false := by simpa using hnq
  have hroom' : decide ((cap : Int) < (n : Int) + 1) = false := by simp; omega
  obtain ⟨R1, hR1⟩ : ∃ R1 : List Value, R1 = cur.toList.take (i * 3 + 3) ++ cs.drop (i * 3) ++ cur.toList.drop (i * 3 + 3 + (n * 3 - i * 3)) := ⟨_, rfl⟩
  obtain ⟨R2, hR2⟩ : ∃ R2 : List Value, R2 = R1.take (i * 3) ++ xs ++ R1.drop (i * 3 + 3) := ⟨_, rfl⟩
  have hcl : cur.toList.length = cap * 3 := by simpa using hcs
  have t2 : R2.take ((n + 1) * 3) = cs.take (i * 3) ++ xs ++ cs.drop (i * 3) := by
    rw [hR2, hR1, show (n + 1) * 3 = n * 3 + 3 from by omega]
    exact row_shift (by omega) hxl (by omega) ht
  have s2 : R2.toArray.size = cap * 3 := by
    have := row_shift_size (cur := cur.toList) (cs := cs) (xs := xs) (I := i * 3) (N := n * 3) (k := 3) (by omega) hxl (by omega) hcsl
    rw [hR2, hR1]
    simpa [hcl] using this
  have l1 : R1.length = cap * 3 := by rw [hR1]; simp [hcsl, hcs]; omega
  have hdl : (cs.drop (i * 3)).length = (n - i) * 3 := by rw [List.length_drop]; omega
  have hcp1 : ∀ ty dc sc, (Builtin.copy_ #[88, 88] ty #[.slice (some ⟨g, (i + 1) * 3, none⟩) (n - i) dc, .slice (some ⟨g, i * 3, none⟩) (n + 1 - i) sc]).run Try.prog w.drew = .ok (goInt ((n - i : Nat) : Int)) (w.drew.setRow g R1.toArray) := fun ty dc sc => by
    have hm : Nat.min (n + 1 - i) (n - i) = n - i := by simp only [Nat.min_def]; split <;> omega
    have := run_copy_row (P := Try.prog) w.drew 88 88 ty 106 3 g ((i + 1) * 3) (n - i) dc ⟨g, i * 3, none⟩ (n + 1 - i) sc (cs.drop (i * 3)) cur 106 Try.underlying88 i0 hinf hz1 (by rw [hm, hdl])
      (fun j v hj => by
        rw [add_at']
        rw [List.getElem?_drop, ← ht, List.getElem?_take] at hj
        split at hj
        · exact cell_of_block (w := w.drew) hg (by simpa using hj)
        · cases hj) hg (by rw [hdl]; omega) (fun v hv => h1c v (List.mem_of_mem_drop hv))
    rw [hm, hdl, show (i + 1) * 3 = i * 3 + 3 from by omega, show i * 3 + 3 + (n - i) * 3 = i * 3 + 3 + (n * 3 - i * 3) from by omega, ← hR1] at this
    rw [show (i + 1) * 3 = i * 3 + 3 from by omega]
    exact this
  have g1 : (w.drew.setRow g R1.toArray).heap[g]? = some (.cells R1.toArray 106 (0, 0)) := setRow_heap w.drew g _ R1.toArray 106 (0, 0) hg
  have x1 : (w.drew.setRow g R1.toArray).heap[vb]? = some (.cells xv 106 (0, 0)) := (setRow_other w.drew g _ _ hne).trans hx
  have gr1 : w.grownBy (w.drew.setRow g R1.toArray) (some g) := grownBy_trans (grownBy_drew w _) (grownBy_setRow (w := w.drew) hg)
  generalize w.drew.setRow g R1.toArray = W1 at *
  have hcp2 : ∀ ty dc, (Builtin.copy_ #[88, 88] ty #[.slice (some ⟨g, i * 3, none⟩) (n + 1 - i) dc, .slice (some ⟨vb, 0, none⟩) 1 vc]).run Try.prog W1 = .ok (goInt 1) (W1.setRow g R2.toArray) := fun ty dc => by
    have hm : Nat.min 1 (n + 1 - i) = 1 := by simp only [Nat.min_def]; split <;> omega
    have := run_copy_row (P := Try.prog) W1 88 88 ty 106 3 g (i * 3) (n + 1 - i) dc ⟨vb, 0, none⟩ 1 vc xs R1.toArray 106 Try.underlying88 i0 hinf hz1 (by rw [hm, hxl]) (news_block x1 hxt) g1 (by rw [hxl]; simp; omega) h1
    rw [hm, hxl] at this
    simp only at this
    rw [← hR2] at this
    exact this
  have HG2 : Hid ((W1.setRow g R2.toArray).ownsRow base 106 3 (.slice (some ⟨g, 0, none⟩) (n + 1) cap) (n + 1) (cs.take (i * 3) ++ xs ++ cs.drop (i * 3))) :=
    ⟨by simp [hxl, hcsl]; omega, .inr ⟨g, cap, R2.toArray, rfl, hbg, setRow_heap W1 g _ R2.toArray 106 (0, 0) g1, hroom, hcm, s2, t2⟩⟩
  have HGR : Hid (w.grownBy (W1.setRow g R2.toArray) (some g)) := grownBy_trans gr1 (grownBy_setRow g1)
  clear hR1 hR2 t2 s2 l1 g1 x1 gr1 hcl hdl hcsl ht h1c h1 hx hxt hxs hxl hg hcs
  have hcn : ¬ (cap = i + 1) := by omega
  have hcn' : ¬ (cap = i) := by omega
  go_enter Try.func88, Try.ntmps88
  go_wp2_with (simp only [hov])
  refine wp_region_path [(0, 0), (1, 0), (2, 0), (3, 2), (4, 2), (5, 0), (6, 0), (7, 2), (8, 3)] (by kernel_rfl) (by kernel_rfl) (by kernel_rfl) (by kernel_rfl) ?_
  simp only [parts, headed, headed2, List.getElem?_toArray, List.getElem?_cons_zero, List.getElem?_cons_succ]
  refine parts_step fun K HK => ?_
  go_wp2_with fail
  refine HK.out _ _ (Grow.refl _) ?_
  clear HK K
  refine parts_step2 (fun hw => by first | (cases hw; done) | (apply looks_run; intro w'; go_simp; try first | rfl | rw [if_neg (by omega)] | rw [if_pos (by omega)])) fun K HK => ?_
  go_wp2_with fail
  refine HK.out _ _ (Grow.refl _) ?_
  clear HK K
  refine parts_step2 (fun hw => by first | (cases hw; done) | (apply looks_run; intro w'; go_simp; try first | rfl | rw [if_neg (by omega)] | rw [if_pos (by omega)])) fun K HK => ?_
  go_wp2_with fail
  refine HK.out _ _ (Grow.refl _) ?_
  clear HK K
  refine parts_cut2 (fun hw => by first | (cases hw; done) | (apply looks_run; intro w'; go_simp; try first | rfl | rw [if_neg (by omega)] | rw [if_pos (by omega)])) fun K HK => ?_
  go_wp2_with (at_builtin; go_must (refine wpList_copy_run _ (by rfl) _ _ 88 88 (by rfl) _ _ (by rfl) (by rfl) (hcp1 _ _ _) ?_))
  refine HK.out _ _ ?_
  clear HK K
  refine parts_step fun K HK => ?_
  go_wp2_with fail
  refine HK.out _ _ (Grow.refl _) ?_
  clear HK K
  refine parts_done ?_
  go_wp2_with (at_builtin; refine wpList_copy_run _ (by rfl) _ _ 88 88 (by rfl) _ _ (by rfl) (by rfl) (hcp2 _ _) ?_)
  go_ret
  exact ⟨rfl, HG2.out, HGR.out⟩

set_option maxHeartbeats 4000000 in
set_option maxRecDepth 100000 in
theorem insert_grow (base g n cap i : Nat) (cur : Array Value) (cs xs : List Value) (vb vc : Nat) (xv : Array Value) (w : World) (hg : w.heap[g]? = some (.cells cur 106 (0, 0))) (hb : base ≤ w.heap.size) (hcm : cap ≤ maxLen) (hcs : cur.size = cap * 3) (ht : cur.toList.take (n * 3) = cs) (hnc : n ≤ cap) (hroom : cap < n + 1) (hi : i < n)
    (hx : w.heap[vb]? = some (.cells xv 106 (0, 0))) (hxl : xs.length = 3) (hxt : xv.toList.take 3 = xs) (hxs : xv.size = vc * 3) (hvc : 1 ≤ vc) (h1 : ∀ u ∈ xs, u.oneCell' = true) (h1c : ∀ u ∈ cs, u.oneCell' = true) (hn : n ≤ 1000) :
    Calls Try.prog 88 #[.slice (some ⟨g, 0, none⟩) n cap, .int .i64 i, .slice (some ⟨vb, 0, none⟩) 1 vc] w fun e w' => ∃ cap', e = .returned (.slice (some ⟨w.heap.size, 0, none⟩) (n + 1) cap') ∧ w'.ownsRow base 106 3 (.slice (some ⟨w.heap.size, 0, none⟩) (n + 1) cap') (n + 1) (cs.take (i * 3) ++ xs ++ cs.drop (i * 3)) ∧ Grow w w' := by
  obtain ⟨i0, hinf, hz0, hz1, hz2⟩ := info_parts infoT
  have hlt := lt_of_block hg
  have hltv := lt_of_block hx
  have hcm' : cap ≤ 9223372036854775807 := by unfold maxLen at hcm; omega
  have hcsl : cs.length = n * 3 := by rw [← ht, List.length_take]; simp; omega
  have hnq : ¬ ((i : Int) = (n : Int)) := by omega
  have hnq' : decide ((i : Int) = (n : Int)) = false := by simpa using hnq
  have hroom' : decide ((cap : Int) < (n : Int) + 1) = true := by simp; omega
  have hsrc : ∀ j v, cs[j]? = some v → w.cell? ⟨g, j, none⟩ = some v := fun j v hj => by
    rw [← ht, List.getElem?_take] at hj
    split at hj
    · exact cell_of_block hg (by simpa using hj)
    · cases hj
  obtain ⟨G, hG⟩ : ∃ G, G = grownCap w (n + 1) cap 106 := ⟨_, rfl⟩
  have hGn : n + 1 ≤ G := by rw [hG]; exact grownCap_ge w _ _ _
  have hGm : G ≤ maxLen := by rw [hG]; exact grownCap_le_maxLen w (n + 1) cap _ (by unfold maxLen; omega)
  have hG63 : G ≤ 9223372036854775807 := by unfold maxLen at hGm; omega
  obtain ⟨R0, hR0⟩ : ∃ R0 : Array Value, R0 = (cs.take (i * 3)).toArray ++ Builtin.zeroCells (Value.agg #[.int .i64 0, .int .i64 0, .slice none 0 0]).cells (n + 1 - i) ++ Builtin.zeroCells (Value.agg #[.int .i64 0, .int .i64 0, .slice none 0 0]).cells (G - (n + 1)) := ⟨_, rfl⟩
  have hrz : ∀ ty, (Builtin.append_ #[88, 3] ty #[.slice (some ⟨g, 0, none⟩) i cap, .int .i64 ((n : Int) + 1 - (i : Int))]).run Try.prog w = .ok (.slice (some ⟨w.heap.size, 0, none⟩) (n + 1) G) (w.drew.alloc (.cells R0 106)) := fun ty => by
    have hold : (Builtin.firstCells i0.size i (.slice (some ⟨g, 0, none⟩) i cap)).run Try.prog w.drew = .ok (cs.take (i * 3)).toArray w.drew := by
      rw [hz1]
      exact run_firstCells_some w.drew 3 i ⟨g, 0, none⟩ i cap (cs.take (i * 3)) (by rw [List.length_take]; omega) (fun j v hj => by
        rw [add_at', Nat.zero_add]
        rw [List.getElem?_take] at hj
        split at hj
        · exact hsrc j v hj
        · cases hj)
    have h := Lib.run_append_grow_zeros w 88 3 ty 106 i0 _ .i64 .i64 Try.underlying88 Try.underlying3 hinf hz0 (some ⟨g, 0, none⟩) i cap (cs.take (i * 3)) hold (n + 1 - i) (by omega) (by omega) (by omega) (by omega) (by rw [hz2]; omega) (growslice_fits_wide (by omega) (by rw [hz2]; omega))
    rw [show i + (n + 1 - i) = n + 1 from by omega, ← hG, ← hR0] at h
    rw [show (n : Int) + 1 - (i : Int) = ((n + 1 - i : Nat) : Int) from by omega]
    exact h
  have hzc : (Value.agg #[.int .i64 0, .int .i64 0, .slice none 0 0]).cells.size = 3 := rfl
  have s0 : R0.toList.length = G * 3 := by
    rw [hR0]
    simp [size_zeroCells, hzc, hcsl]
    omega
  have t0 : R0.toList.take (i * 3) = cs.take (i * 3) := by
    rw [hR0]
    simp only [Array.toList_append, List.append_assoc]
    exact List.take_left' (by simp [hcsl]; omega)
  have g0 : (w.drew.alloc (.cells R0 106)).heap[w.heap.size]? = some (.cells R0 106 (0, 0)) := heap_alloc_new w.drew _
  have gr0 : Grow w (w.drew.alloc (.cells R0 106)) := (Grow.refl w).drew.alloc _
  generalize w.drew.alloc (.cells R0 106) = W0 at *
  have x0 := grow_block gr0 hx
  obtain ⟨R1, hR1⟩ : ∃ R1 : List Value, R1 = R0.toList.take (i * 3) ++ xs ++ R0.toList.drop (i * 3 + 3) := ⟨_, rfl⟩
  obtain ⟨R2, hR2⟩ : ∃ R2 : List Value, R2 = R1.take (i * 3 + 3) ++ cs.drop (i * 3) ++ R1.drop (i * 3 + 3 + (n * 3 - i * 3)) := ⟨_, rfl⟩
  have t2 : R2.take ((n + 1) * 3) = cs.take (i * 3) ++ xs ++ cs.drop (i * 3) := by
    rw [hR2, hR1, show (n + 1) * 3 = n * 3 + 3 from by omega]
    exact row_new (by omega) hxl t0 hcsl
  have l1 : R1.length = G * 3 := by rw [hR1]; simp [hxl]; simp at s0; omega
  have l2 : R2.length = G * 3 := by rw [hR2]; simp [hcsl, l1]; omega
  have hdl : (cs.drop (i * 3)).length = (n - i) * 3 := by rw [List.length_drop]; omega
  have hcp1 : ∀ ty dc, (Builtin.copy_ #[88, 88] ty #[.slice (some ⟨w.heap.size, i * 3, none⟩) (n + 1 - i) dc, .slice (some ⟨vb, 0, none⟩) 1 vc]).run Try.prog W0 = .ok (goInt 1) (W0.setRow w.heap.size R1.toArray) := fun ty dc => by
    have hm : Nat.min 1 (n + 1 - i) = 1 := by simp only [Nat.min_def]; split <;> omega
    have := run_copy_row (P := Try.prog) W0 88 88 ty 106 3 w.heap.size (i * 3) (n + 1 - i) dc ⟨vb, 0, none⟩ 1 vc xs R0 106 Try.underlying88 i0 hinf hz1 (by rw [hm, hxl]) (news_block x0 hxt) g0 (by rw [hxl]; simp at s0; omega) h1
    rw [hm, hxl, ← hR1] at this
    exact this
  have g1 : (W0.setRow w.heap.size R1.toArray).heap[w.heap.size]? = some (.cells R1.toArray 106 (0, 0)) := setRow_heap W0 w.heap.size _ R1.toArray 106 (0, 0) g0
  have gr1 : Grow w (W0.setRow w.heap.size R1.toArray) := Below.trans gr0 ⟨rfl, rfl, rfl, by simp [World.setRow], fun k hk => setRow_other _ _ _ _ (by omega)⟩
  generalize W0.setRow w.heap.size R1.toArray = W1 at *
  have hcp2 : ∀ ty dc sc, (Builtin.copy_ #[88, 88] ty #[.slice (some ⟨w.heap.size, (i + 1) * 3, none⟩) (n - i) dc, .slice (some ⟨g, i * 3, none⟩) (n - i) sc]).run Try.prog W1.drew = .ok (goInt ((n - i : Nat) : Int)) (W1.drew.setRow w.heap.size R2.toArray) := fun ty dc sc => by
    have hm : Nat.min (n - i) (n - i) = n - i := Nat.min_self _
    have := run_copy_row (P := Try.prog) W1.drew 88 88 ty 106 3 w.heap.size ((i + 1) * 3) (n - i) dc ⟨g, i * 3, none⟩ (n - i) sc (cs.drop (i * 3)) R1.toArray 106 Try.underlying88 i0 hinf hz1 (by rw [hm, hdl])
      (fun j v hj => by
        rw [add_at']
        rw [List.getElem?_drop] at hj
        exact cell_grow gr1.drew (hsrc _ v hj)) g1 (by rw [hdl]; simp; omega) (fun v hv => h1c v (List.mem_of_mem_drop hv))
    rw [hm, hdl, show (i + 1) * 3 = i * 3 + 3 from by omega, show i * 3 + 3 + (n - i) * 3 = i * 3 + 3 + (n * 3 - i * 3) from by omega] at this
    simp only at this
    rw [← hR2] at this
    rw [show (i + 1) * 3 = i * 3 + 3 from by omega]
    exact this
  have HG2 : Hid ((W1.drew.setRow w.heap.size R2.toArray).ownsRow base 106 3 (.slice (some ⟨w.heap.size, 0, none⟩) (n + 1) G) (n + 1) (cs.take (i * 3) ++ xs ++ cs.drop (i * 3))) :=
    ⟨by simp [hxl, hcsl]; omega, .inr ⟨w.heap.size, G, R2.toArray, rfl, hb, setRow_heap W1.drew w.heap.size _ R2.toArray 106 (0, 0) g1, hGn, hGm, by simpa using l2, t2⟩⟩
  have HGR : Hid (Grow w (W1.drew.setRow w.heap.size R2.toArray)) := Below.trans gr1.drew ⟨rfl, rfl, rfl, by simp [World.setRow], fun k hk => setRow_other _ _ _ _ (by omega)⟩
  generalize W1.drew.setRow w.heap.size R2.toArray = W2 at *
  clear hR0 hR1 hR2 t0 t2 s0 l1 l2 g0 x0 gr0 g1 gr1 hdl hcsl ht h1c h1 hx hxt hxs hxl hg hcs hsrc hG hb hGm
  have hcn : ¬ (G = i + 1) := by omega
  have hcn' : ¬ (G = i) := by omega
  have hcn2 : ¬ (cap = i) := by omega
  go_enter Try.func88, Try.ntmps88
  go_wp2_with (first
    | (at_builtin; go_must (refine wpList_append_ran _ (by rfl) _ _ 88 3 (by rfl) _ _ (by rfl) (by rfl) (hrz _) ?_))
    | (at_builtin; go_must (refine wpList_copy_run _ (by rfl) _ _ 88 88 (by rfl) _ _ (by rfl) (by rfl) (hcp1 _ _) ?_)))
  refine wp_region_path [(0, 0), (1, 0), (2, 0), (3, 2), (4, 2), (5, 0), (6, 0), (7, 2), (8, 3)] (by kernel_rfl) (by kernel_rfl) (by kernel_rfl) (by kernel_rfl) ?_
  simp only [parts, headed, headed2, List.getElem?_toArray, List.getElem?_cons_zero, List.getElem?_cons_succ]
  refine parts_step fun K HK => ?_
  go_wp2_with fail
  refine HK.out _ _ (Grow.refl _) ?_
  clear HK K
  refine parts_step2 (fun hw => by first | (cases hw; done) | (apply looks_run; intro w'; go_simp; try first | rfl | rw [if_neg (by omega)] | rw [if_pos (by omega)])) fun K HK => ?_
  go_wp2_with fail
  refine HK.out _ _ (Grow.refl _) ?_
  clear HK K
  refine parts_step2 (fun hw => by first | (cases hw; done) | (apply looks_run; intro w'; go_simp; try first | rfl | rw [if_neg (by omega)] | rw [if_pos (by omega)])) fun K HK => ?_
  go_wp2_with fail
  refine HK.out _ _ (Grow.refl _) ?_
  clear HK K
  refine parts_cut2 (fun hw => by first | (cases hw; done) | (apply looks_run; intro w'; go_simp; try first | rfl | rw [if_neg (by omega)] | rw [if_pos (by omega)])) fun K HK => ?_
  go_wp2_with (at_builtin; go_must (refine wpList_copy_run _ (by rfl) _ _ 88 88 (by rfl) _ _ (by rfl) (by rfl) (hcp2 _ _ _) ?_))
  refine HK.out _ _ ?_
  clear HK K
  refine parts_step fun K HK => ?_
  go_wp2_with fail
  refine HK.out _ _ (Grow.refl _) ?_
  clear HK K
  refine parts_done ?_
  go_wp2
  go_ret
  exact ⟨G, rfl, HG2.out, HGR.out⟩

/-- slices.Insert of one wait into a row of one's own. -/
theorem insert_any (base : Nat) (v : Value) (n i : Nat) (cs xs : List Value) (vb vc : Nat) (xv : Array Value) (w : World) (hown : w.ownsRow base 106 3 v n cs) (hx : w.heap[vb]? = some (.cells xv 106 (0, 0))) (hne : v.ownBlock ≠ some vb) (hxl : xs.length = 3) (hxt : xv.toList.take 3 = xs) (hxs : xv.size = vc * 3) (hvc : 1 ≤ vc) (h1 : ∀ u ∈ xs, u.oneCell' = true) (h1c : ∀ u ∈ cs, u.oneCell' = true) (hn : n ≤ 1000) (hi : i ≤ n) (hb : base ≤ w.heap.size) :
    Calls Try.prog 88 #[v, .int .i64 i, .slice (some ⟨vb, 0, none⟩) 1 vc] w fun e w' => ∃ g cap, e = .returned (.slice (some ⟨g, 0, none⟩) (n + 1) cap) ∧ w'.ownsRow base 106 3 (.slice (some ⟨g, 0, none⟩) (n + 1) cap) (n + 1) (cs.take (i * 3) ++ xs ++ cs.drop (i * 3)) ∧ w.grownBy w' v.ownBlock ∧ (v.ownBlock = some g ∨ w.heap.size ≤ g) := by
  by_cases e : i = n
  · subst e
    refine (insert_end base v i cs xs vb vc xv w hown hx hxl hxt hxs hvc h1 hn hb).mono ?_
    rintro e w' ⟨g, cap, he, ho, hgr, hat⟩
    refine ⟨g, cap, he, ?_, hgr, hat.imp id fun h => by omega⟩
    have hl := hown.1
    rw [List.take_of_length_le (by omega), List.drop_of_length_le (by omega), List.append_nil]
    exact ho
  · rcases hown.2 with ⟨rfl, rfl⟩ | ⟨g, cap, cur, rfl, hbg, hg, hle, hcm, hcs, ht⟩
    · omega
    · by_cases hroom : n + 1 ≤ cap
      · refine (insert_room base g n cap i cur cs xs vb vc xv w hg hbg hcm hcs ht hroom (by omega) hx (fun e => hne (by rw [e]; rfl)) hxl hxt hxs hvc h1 h1c hn).mono ?_
        rintro e w' ⟨he, ho, hgr⟩
        exact ⟨g, cap, he, ho, hgr, .inl rfl⟩
      · refine (insert_grow base g n cap i cur cs xs vb vc xv w hg hb hcm hcs ht hle (by omega) (by omega) hx hxl hxt hxs hvc h1 h1c hn).mono ?_
        rintro e w' ⟨cap', he, ho, hgr⟩
        exact ⟨w.heap.size, cap', he, ho, grownBy_of_grow hgr _, .inr (Nat.le_refl _)⟩
end Go.Proofs.Ytlioojekjnigiae.IT
/- A player's turns. -/
namespace Go.Proofs.Ytlioojekjnigiae.AM
set_option linter.unusedVariables false
set_option linter.unusedSimpArgs false

structure Turn where
  id : Id
  needs : List Id
def Turn.enc (t : Turn) : List D := [.int .i64 t.id.r, .int .i64 t.id.n, .list (t.needs.map Id.enc)]
def Turn.arg (t : Turn) : AVal := .agg [.dat (.int .i64 t.id.r), .dat (.int .i64 t.id.n), .dat (.list (t.needs.map Id.enc))]
def putAt {α : Type} (l : List α) (i : Nat) (x : α) : List α := l.take i ++ x :: l.drop i
set_option maxHeartbeats 0 in
theorem insertTurn_end (es : List (List D)) (x : List D) (hs : es.length ≤ 1000) (hx : x.length = 3) : ECall Try.prog 88 [.row 0, dInt es.length, .row 1] [(0, .rows 106 3 es true), (1, .rows 106 3 [x] true)] 2 (.row 2) [(0, .dead), (1, .dead), (2, .rows 106 3 (es ++ [x]) true)] 1 := by
  refine acall_intro tab_all tab_mixed Try.func88 (by kernel_rfl) Try.ntmps88 rfl ?_
  conv => whnf
  refine .mk es.length es.length rfl rfl (Nat.le_refl _) (Nat.le_refl _) ?_
  conv => whnf
  repeat (first | (refine Conf.mk (by kernel_rfl) ?_; conv => whnf) | (refine SeqOk.go ?_; conv => whnf))
  refine BoolCase.no rfl ?_
  conv => whnf
  repeat (first | (refine Conf.mk (by kernel_rfl) ?_; conv => whnf) | (refine SeqOk.go ?_; conv => whnf))
  refine BoolCase.yes (beq_self_eq_true _) ?_
  conv => whnf
  repeat (first | (refine Conf.mk (by kernel_rfl) ?_; conv => whnf) | (refine SeqOk.go ?_; conv => whnf))
  refine ⟨by simpa using hx, by simp; omega, ?_⟩
  conv => whnf
  repeat (first | (refine Conf.mk (by kernel_rfl) ?_; conv => whnf) | (refine SeqOk.go ?_; conv => whnf))
  exact .mk [] [0, 1, 2] (.row 2) [(0, .dead), (1, .dead), (2, .rows 106 3 (es ++ [x]) true)] rfl (.same rfl) ⟨trivial, trivial, ⟨rfl, rfl, rfl, rfl⟩, trivial⟩ rfl rfl ⟨rfl, rfl, rfl⟩
theorem insertTurn_ok (l : List Turn) (t : Turn) (i : Nat) (hi : i ≤ l.length) (hs : l.length ≤ 1000) : ECall Try.prog 88 [.row 0, dInt i, .row 1] [(0, .rows 106 3 (l.map Turn.enc) true), (1, .rows 106 3 [t.enc] true)] 2 (.row 2) [(0, .dead), (1, .dead), (2, .rows 106 3 ((putAt l i t).map Turn.enc) true)] 1 := by
  have e : (putAt l i t).map Turn.enc = (l.map Turn.enc).take i ++ t.enc :: (l.map Turn.enc).drop i := by
    unfold putAt
    rw [List.map_append, List.map_cons, map_take', map_drop']
  rw [e]
  by_cases h : i = l.length
  · have := insertTurn_end (l.map Turn.enc) t.enc (by simpa using hs) rfl
    rw [h, List.take_of_length_le (by simp), List.drop_of_length_le (by simp)]
    rw [List.length_map] at this
    exact this
  · exact acall_insert (T := 106) (k := 3) (by decide) (by kernel_rfl) (l.map Turn.enc) t.enc i (by simp; omega) (by simpa using hs) fun n i v cs xs vb vc xv w h1 h2 h3 h4 h5 h6 h7 h8 h9 h10 h11 => IT.insert_any 0 v n i cs xs vb vc xv w h1 h2 h3 h4 h5 h6 h7 h8 h9 h10 h11 (Nat.zero_le _)
/-- Where a turn goes. -/
def placeOf' (ts : List Turn) (x : Id) : Nat := match ts with
  | [] => 0
  | t :: u => if t.id.less x = true then placeOf' u x + 1 else 0
theorem placeOf_cons (t : Turn) (u : List Turn) (x : Id) : placeOf' (t :: u) x = if t.id.less x = true then placeOf' u x + 1 else 0 := rfl
theorem placeOf_le (x : Id) : ∀ ts : List Turn, placeOf' ts x ≤ ts.length
  | [] => Nat.le_refl _
  | t :: u => by
    unfold placeOf'
    have := placeOf_le x u
    split <;> simp <;> omega
theorem placeOf_lt {x : Id} : ∀ {ts : List Turn} {i : Nat} (hi : i < ts.length), i < placeOf' ts x → ts[i].id.less x = true
  | [], i, hi, _ => by simp at hi
  | t :: u, i, hi, h => by
    unfold placeOf' at h
    split at h
    · rename_i hl
      match i with
      | 0 => exact hl
      | i + 1 => exact placeOf_lt (ts := u) (by simpa using hi) (by omega)
    · omega
theorem placeOf_at {x : Id} : ∀ {ts : List Turn} (hi : placeOf' ts x < ts.length), (ts[placeOf' ts x]).id.less x = false
  | [], hi => by simp at hi
  | t :: u, hi => by
    by_cases hl : t.id.less x = true
    · have e : placeOf' (t :: u) x = placeOf' u x + 1 := by rw [placeOf_cons, if_pos hl]
      have hi' : placeOf' u x < u.length := by rw [e] at hi; simpa using hi
      have := placeOf_at (ts := u) hi'
      simp only [e, List.getElem_cons_succ]
      exact this
    · have e : placeOf' (t :: u) x = 0 := by rw [placeOf_cons, if_neg hl]
      simp only [e, List.getElem_cons_zero]
      simpa using hl
def insT (ts : List Turn) (t : Turn) : List Turn := putAt ts (placeOf' ts t.id) t
set_option maxHeartbeats 0 in
theorem add_ok (c : Int) (ts : List Turn) (t : Turn) (hs : ts.length ≤ 1000) : ECall Try.prog 78 [.ptr 0 0, t.arg] [(0, .vars 90 3 [dInt c, .nil, .row 1] true), (1, .rows 106 3 (ts.map Turn.enc) true)] 2 (.tup []) [(0, .vars 90 3 [dInt c, .nil, .row 2] true), (1, .dead), (2, .rows 106 3 ((insT ts t).map Turn.enc) true)] 1 := by
  have hple := placeOf_le t.id ts
  refine acall_cut tab_all tab_mixed Try.func78 (by kernel_rfl) Try.ntmps78 rfl ?_
  conv => whnf
  conv => whnf
  refine SeqOk.cut' ⟨[(0, .ptr 0 0), (4, dInt (placeOf' ts t.id)), (3, .ptr 2 0)], 3, [(0, .vars 90 3 [dInt c, .nil, .row 1] true), (1, .rows 106 3 (ts.map Turn.enc) true), (2, .vars 106 3 [.dat (.int .i64 t.id.r), .dat (.int .i64 t.id.n), .dat (.list (t.needs.map Id.enc))] true)]⟩ ?_ ?_
  · conv => whnf
    refine LoopOk.mk (fun m s => ∃ i, i + m = placeOf' ts t.id ∧ s = ⟨[(0, .ptr 0 0), (4, dInt i), (3, .ptr 2 0)], 3, [(0, .vars 90 3 [dInt c, .nil, .row 1] true), (1, .rows 106 3 (ts.map Turn.enc) true), (2, .vars 106 3 [.dat (.int .i64 t.id.r), .dat (.int .i64 t.id.n), .dat (.list (t.needs.map Id.enc))] true)]⟩) (placeOf' ts t.id) (Into.mono (Into.to [0, 1, 2] [(0, .ptr 0 0), (4, dInt (0 : Nat)), (3, .ptr 2 0)] [(0, .vars 90 3 [dInt c, .nil, .row 1] true), (1, .rows 106 3 (ts.map Turn.enc) true), (2, .vars 106 3 [.dat (.int .i64 t.id.r), .dat (.int .i64 t.id.n), .dat (.list (t.needs.map Id.enc))] true)] (by repeat (first | exact trivial | refine ⟨.same (congrArg dInt (wrap_up (by omega))), ?_⟩ | refine ⟨.same rfl, ?_⟩ | refine ⟨.any _, ?_⟩)) ⟨⟨rfl, rfl, rfl, .same rfl, rfl, .same rfl, rfl, .same rfl, rfl, trivial⟩, ⟨rfl, rfl, rfl, rfl⟩, ⟨rfl, rfl, rfl, .same rfl, rfl, .same rfl, rfl, .same rfl, rfl, trivial⟩, trivial⟩ rfl rfl) fun s' h => ⟨0, by omega, h⟩) ?_
    rintro m s ⟨i, hi, rfl⟩
    conv => whnf
    repeat (first | (refine Conf.mk (by kernel_rfl) ?_; conv => whnf) | (refine SeqOk.go ?_; conv => whnf))
    refine ⟨fun h => ?_, fun h => ?_⟩
    · have hi' := lt_of_len h
      conv => whnf
      repeat (first | (refine Conf.mk (by kernel_rfl) ?_; conv => whnf) | (refine SeqOk.go ?_; conv => whnf))
      refine AtIdx.ofMap hi' rfl ?_
      conv => whnf
      repeat (first | (refine Conf.mk (by kernel_rfl) ?_; conv => whnf) | (refine SeqOk.go ?_; conv => whnf))
      refine .mk _ (by rw [List.getElem?_map, List.getElem?_eq_getElem hi']; rfl) ?_
      conv => whnf
      repeat (first | (refine Conf.mk (by kernel_rfl) ?_; conv => whnf) | (refine SeqOk.go ?_; conv => whnf))
      refine .look _ _ (less_ok ts[i].id t.id) rfl rfl ?_
      conv => whnf
      repeat (first | (refine Conf.mk (by kernel_rfl) ?_; conv => whnf) | (refine SeqOk.go ?_; conv => whnf))
      by_cases hlt : i < placeOf' ts t.id
      · refine BoolCase.yes (placeOf_lt hi' hlt) ?_
        conv => whnf
        repeat (first | (refine Conf.mk (by kernel_rfl) ?_; conv => whnf) | (refine SeqOk.go ?_; conv => whnf))
        exact Into.mono (Into.to [0, 1, 2] [(0, .ptr 0 0), (4, dInt (i + 1 : Nat)), (3, .ptr 2 0)] [(0, .vars 90 3 [dInt c, .nil, .row 1] true), (1, .rows 106 3 (ts.map Turn.enc) true), (2, .vars 106 3 [.dat (.int .i64 t.id.r), .dat (.int .i64 t.id.n), .dat (.list (t.needs.map Id.enc))] true)] (by repeat (first | exact trivial | refine ⟨.same (congrArg dInt (wrap_up (by omega))), ?_⟩ | refine ⟨.same rfl, ?_⟩ | refine ⟨.any _, ?_⟩)) ⟨⟨rfl, rfl, rfl, .same rfl, rfl, .same rfl, rfl, .same rfl, rfl, trivial⟩, ⟨rfl, rfl, rfl, rfl⟩, ⟨rfl, rfl, rfl, .same rfl, rfl, .same rfl, rfl, .same rfl, rfl, trivial⟩, trivial⟩ rfl rfl) fun s' h => ⟨m - 1, by omega, i + 1, by omega, h⟩
      · have hie : i = placeOf' ts t.id := by omega
        subst hie
        refine BoolCase.no (placeOf_at hi') ?_
        conv => whnf
        repeat (first | (refine Conf.mk (by kernel_rfl) ?_; conv => whnf) | (refine SeqOk.go ?_; conv => whnf))
        exact Into.to [0, 1, 2] [(0, .ptr 0 0), (4, dInt (placeOf' ts t.id)), (3, .ptr 2 0)] [(0, .vars 90 3 [dInt c, .nil, .row 1] true), (1, .rows 106 3 (ts.map Turn.enc) true), (2, .vars 106 3 [.dat (.int .i64 t.id.r), .dat (.int .i64 t.id.n), .dat (.list (t.needs.map Id.enc))] true)] (by repeat (first | exact trivial | refine ⟨.same (congrArg dInt (wrap_up (by omega))), ?_⟩ | refine ⟨.same rfl, ?_⟩ | refine ⟨.any _, ?_⟩)) ⟨⟨rfl, rfl, rfl, .same rfl, rfl, .same rfl, rfl, .same rfl, rfl, trivial⟩, ⟨rfl, rfl, rfl, rfl⟩, ⟨rfl, rfl, rfl, .same rfl, rfl, .same rfl, rfl, .same rfl, rfl, trivial⟩, trivial⟩ rfl rfl
    · have hie : i = placeOf' ts t.id := by have := ge_of_len h; omega
      subst hie
      conv => whnf
      repeat (first | (refine Conf.mk (by kernel_rfl) ?_; conv => whnf) | (refine SeqOk.go ?_; conv => whnf))
      exact Into.to [0, 1, 2] [(0, .ptr 0 0), (4, dInt (placeOf' ts t.id)), (3, .ptr 2 0)] [(0, .vars 90 3 [dInt c, .nil, .row 1] true), (1, .rows 106 3 (ts.map Turn.enc) true), (2, .vars 106 3 [.dat (.int .i64 t.id.r), .dat (.int .i64 t.id.n), .dat (.list (t.needs.map Id.enc))] true)] (by repeat (first | exact trivial | refine ⟨.same (congrArg dInt (wrap_up (by omega))), ?_⟩ | refine ⟨.same rfl, ?_⟩ | refine ⟨.any _, ?_⟩)) ⟨⟨rfl, rfl, rfl, .same rfl, rfl, .same rfl, rfl, .same rfl, rfl, trivial⟩, ⟨rfl, rfl, rfl, rfl⟩, ⟨rfl, rfl, rfl, .same rfl, rfl, .same rfl, rfl, .same rfl, rfl, trivial⟩, trivial⟩ rfl rfl
  · conv => whnf
    repeat (first | (refine Conf.mk (by kernel_rfl) ?_; conv => whnf) | (refine SeqOk.go ?_; conv => whnf))
    refine .eff [1, 3] _ _ _ _ 1 (insertTurn_ok ts t (placeOf' ts t.id) hple hs) rfl rfl rfl rfl rfl ?_
    conv => whnf
    repeat (first | (refine Conf.mk (by kernel_rfl) ?_; conv => whnf) | (refine SeqOk.go ?_; conv => whnf))
    exact .mk [] [0, 1, 4] (.tup []) [(0, .vars 90 3 [dInt c, .nil, .row 2] true), (1, .dead), (2, .rows 106 3 ((insT ts t).map Turn.enc) true)] rfl (.same rfl) ⟨⟨rfl, rfl, rfl, .same rfl, rfl, .same rfl, rfl, .same rfl, rfl, trivial⟩, trivial, ⟨rfl, rfl, rfl, rfl⟩, trivial⟩ rfl rfl ⟨rfl, rfl, rfl⟩
end Go.Proofs.Ytlioojekjnigiae.AM
/- A player: what it needs, who may be next, and its beginning. -/
namespace Go.Proofs.Ytlioojekjnigiae.AM
set_option linter.unusedVariables false
set_option linter.unusedSimpArgs false
/-- What is in the past of one and has one of some colors, as they stand. -/
def needsL (l : List Entry') (c : Int) (x : Id) : List Id := (l.filter fun e => bothOf e.colors c && (pastOfId l x).any (isId2 e.id)).map (·.id)
theorem needsL_all {l : List Entry'} (hr : Right l) {c : Int} (hc : 1 ≤ c ∧ c ≤ 7) (x : Id) (out : List Id) : (needsL l c x).all (hasId out) = (needs l c x).all (hasId out) := by
  have : ∀ y, y ∈ needsL l c x ↔ y ∈ needs l c x := fun y => by
    rw [mem_needs hr]
    unfold needsL
    simp only [List.mem_map, List.mem_filter, Bool.and_eq_true]
    constructor
    · rintro ⟨e, ⟨h1, h2, h3⟩, rfl⟩
      exact ⟨(mem_pastOfId hr).1 (any_isId2.1 h3), colored_iff.2 ⟨e, h1, rfl, by rw [← meets_bothOf (hr.colors h1) hc]; exact h2⟩⟩
    · rintro ⟨h1, h2⟩
      obtain ⟨e, he, rfl, hm⟩ := colored_iff.1 h2
      exact ⟨e, ⟨he, by rw [meets_bothOf (hr.colors he) hc]; exact hm, any_isId2.2 ((mem_pastOfId hr).2 h1)⟩, rfl⟩
  rw [Bool.eq_iff_iff, List.all_eq_true, List.all_eq_true]
  exact ⟨fun h y hy => h y ((this y).2 hy), fun h y hy => h y ((this y).1 hy)⟩
theorem needsL_len (l : List Entry') (c : Int) (x : Id) : (needsL l c x).length ≤ l.length := by
  unfold needsL
  rw [List.length_map]
  exact List.length_filter_le _ _
set_option maxHeartbeats 0 in
theorem needsOf_ok {l : List Entry'} (hr : Right l) (c : Int) (ts : List Turn) (x : Id) (hx : ∃ e ∈ l, e.id = x) : ECall Try.prog 79 [.ptr 0 0, .dat (.list (l.map Entry'.enc)), x.arg] [(0, .vars 90 3 [dInt c, .nil, .row 1] true), (1, .rows 106 3 (ts.map Turn.enc) true)] 2 (.dat (.list ((needsL l c x).map Id.enc))) [(0, .vars 90 3 [dInt c, .nil, .row 1] true), (1, .rows 106 3 (ts.map Turn.enc) true)] 0 := by
  have hlen := hr.len
  have hpl := pastOfId_len hr x
  refine acall_cut tab_all tab_mixed Try.func79 (by kernel_rfl) Try.ntmps79 rfl ?_
  conv => whnf
  conv => whnf
  repeat (first | (refine Conf.mk (by kernel_rfl) ?_; conv => whnf) | (refine SeqOk.go ?_; conv => whnf))
  refine .data _ _ (orderPast_in hr hx) rfl ?_
  conv => whnf
  repeat (first | (refine Conf.mk (by kernel_rfl) ?_; conv => whnf) | (refine SeqOk.go ?_; conv => whnf))
  refine LoopOk.hide fun Q1 hQ1 => ?_
  refine LoopOk.mk (fun m s => ∃ k, k + m = l.length ∧ s = ⟨[(16, dInt k), (15, dInt (l.map Entry'.enc).length), (14, .dat (.list (l.map Entry'.enc))), (0, .ptr 0 0), (1, .dat (.list (l.map Entry'.enc))), (7, .dat (.list ((pastOfId l x).map Id.enc))), (8, .row 2)], 3, [(0, .vars 90 3 [dInt c, .nil, .row 1] true), (1, .rows 106 3 (ts.map Turn.enc) true), (2, .rows 36 2 ((((l.take k).filter fun e => bothOf e.colors c && (pastOfId l x).any (isId2 e.id)).map (·.id)).map Id.enc) true)]⟩) l.length ((Into.row 8 36 2 rfl).trans fun s' hs' => by
    subst hs'
    exact Into.mono (Into.to [0, 1, 3] [(16, dInt (0 : Nat)), (15, dInt (l.map Entry'.enc).length), (14, .dat (.list (l.map Entry'.enc))), (0, .ptr 0 0), (1, .dat (.list (l.map Entry'.enc))), (7, .dat (.list ((pastOfId l x).map Id.enc))), (8, .row 2)] [(0, .vars 90 3 [dInt c, .nil, .row 1] true), (1, .rows 106 3 (ts.map Turn.enc) true), (2, .rows 36 2 ((((l.take 0).filter fun e => bothOf e.colors c && (pastOfId l x).any (isId2 e.id)).map (·.id)).map Id.enc) true)] (by repeat (first | exact trivial | refine ⟨.same (congrArg dInt (wrap_up (by omega))), ?_⟩ | refine ⟨.same rfl, ?_⟩ | refine ⟨.any _, ?_⟩)) ⟨⟨rfl, rfl, rfl, .same rfl, rfl, .same rfl, rfl, .same rfl, rfl, trivial⟩, ⟨rfl, rfl, rfl, rfl⟩, ⟨rfl, rfl, rfl, rfl⟩, trivial⟩ rfl rfl) fun s' h => ⟨0, by omega, h⟩) ?_
  rintro m s ⟨k, hk, rfl⟩
  conv => whnf
  repeat (first | (refine Conf.mk (by kernel_rfl) ?_; conv => whnf) | (refine SeqOk.go ?_; conv => whnf))
  refine ⟨fun h => ?_, fun h => ?_⟩
  · have hk' := lt_of_len h
    have hst := filter_snoc (fun e : Entry' => bothOf e.colors c && (pastOfId l x).any (isId2 e.id)) (List.getElem?_eq_getElem hk')
    have hfl := List.length_filter_le (fun e : Entry' => bothOf e.colors c && (pastOfId l x).any (isId2 e.id)) (l.take k)
    rw [List.length_take] at hfl
    conv => whnf
    repeat (first | (refine Conf.mk (by kernel_rfl) ?_; conv => whnf) | (refine SeqOk.go ?_; conv => whnf))
    refine AtIdx.ofMap hk' rfl ?_
    conv => whnf
    repeat (first | (refine Conf.mk (by kernel_rfl) ?_; conv => whnf) | (refine SeqOk.go ?_; conv => whnf))
    refine ⟨fun h2 => ?_, fun h2 => ?_⟩
    · have h2 : bothOf l[k].colors c = true := h2
      conv => whnf
      repeat (first | (refine Conf.mk (by kernel_rfl) ?_; conv => whnf) | (refine SeqOk.go ?_; conv => whnf))
      refine .look _ _ (containsId_ok l[k].id (pastOfId l x) (by omega)) rfl rfl ?_
      conv => whnf
      repeat (first | (refine Conf.mk (by kernel_rfl) ?_; conv => whnf) | (refine SeqOk.go ?_; conv => whnf))
      refine ⟨fun h3 => ?_, fun h3 => ?_⟩
      · conv => whnf
        repeat (first | (refine Conf.mk (by kernel_rfl) ?_; conv => whnf) | (refine SeqOk.go ?_; conv => whnf))
        refine ⟨by simp [Id.enc], by simp; omega, ?_⟩
        conv => whnf
        repeat (first | (refine Conf.mk (by kernel_rfl) ?_; conv => whnf) | (refine SeqOk.go ?_; conv => whnf))
        refine Into.mono (Into.to [0, 1, 5] [(16, dInt (k + 1 : Nat)), (15, dInt (l.map Entry'.enc).length), (14, .dat (.list (l.map Entry'.enc))), (0, .ptr 0 0), (1, .dat (.list (l.map Entry'.enc))), (7, .dat (.list ((pastOfId l x).map Id.enc))), (8, .row 2)] [(0, .vars 90 3 [dInt c, .nil, .row 1] true), (1, .rows 106 3 (ts.map Turn.enc) true), (2, .rows 36 2 ((((l.take (k + 1)).filter fun e => bothOf e.colors c && (pastOfId l x).any (isId2 e.id)).map (·.id)).map Id.enc) true)] (by repeat (first | exact trivial | refine ⟨.same (congrArg dInt (wrap_up (by omega))), ?_⟩ | refine ⟨.same rfl, ?_⟩ | refine ⟨.any _, ?_⟩)) ⟨⟨rfl, rfl, rfl, .same rfl, rfl, .same rfl, rfl, .same rfl, rfl, trivial⟩, ⟨rfl, rfl, rfl, rfl⟩, ⟨rfl, rfl, rfl, ?_⟩, trivial⟩ rfl rfl) fun s' h => ⟨m - 1, by omega, k + 1, by omega, h⟩
        rw [hst, if_pos (by rw [h2, h3]; rfl), List.map_append, List.map_append]
        rfl
      · have hno : (bothOf l[k].colors c && (pastOfId l x).any (isId2 l[k].id)) = false := by rw [h3, Bool.and_false]
        have hrow : ((((l.take (k + 1)).filter fun e => bothOf e.colors c && (pastOfId l x).any (isId2 e.id)).map (·.id)).map Id.enc) = ((((l.take k).filter fun e => bothOf e.colors c && (pastOfId l x).any (isId2 e.id)).map (·.id)).map Id.enc) := by rw [hst, if_neg (by simp [hno])]; simp
        conv => whnf
        repeat (first | (refine Conf.mk (by kernel_rfl) ?_; conv => whnf) | (refine SeqOk.go ?_; conv => whnf))
        exact Into.mono (Into.to [0, 1, 2] [(16, dInt (k + 1 : Nat)), (15, dInt (l.map Entry'.enc).length), (14, .dat (.list (l.map Entry'.enc))), (0, .ptr 0 0), (1, .dat (.list (l.map Entry'.enc))), (7, .dat (.list ((pastOfId l x).map Id.enc))), (8, .row 2)] [(0, .vars 90 3 [dInt c, .nil, .row 1] true), (1, .rows 106 3 (ts.map Turn.enc) true), (2, .rows 36 2 ((((l.take (k + 1)).filter fun e => bothOf e.colors c && (pastOfId l x).any (isId2 e.id)).map (·.id)).map Id.enc) true)] (by repeat (first | exact trivial | refine ⟨.same (congrArg dInt (wrap_up (by omega))), ?_⟩ | refine ⟨.same rfl, ?_⟩ | refine ⟨.any _, ?_⟩)) ⟨⟨rfl, rfl, rfl, .same rfl, rfl, .same rfl, rfl, .same rfl, rfl, trivial⟩, ⟨rfl, rfl, rfl, rfl⟩, ⟨rfl, rfl, rfl, hrow⟩, trivial⟩ rfl rfl) fun s' h => ⟨m - 1, by omega, k + 1, by omega, h⟩
    · have h2 : bothOf l[k].colors c = false := h2
      have hno : (bothOf l[k].colors c && (pastOfId l x).any (isId2 l[k].id)) = false := by rw [h2, Bool.false_and]
      have hrow : ((((l.take (k + 1)).filter fun e => bothOf e.colors c && (pastOfId l x).any (isId2 e.id)).map (·.id)).map Id.enc) = ((((l.take k).filter fun e => bothOf e.colors c && (pastOfId l x).any (isId2 e.id)).map (·.id)).map Id.enc) := by rw [hst, if_neg (by simp [hno])]; simp
      conv => whnf
      repeat (first | (refine Conf.mk (by kernel_rfl) ?_; conv => whnf) | (refine SeqOk.go ?_; conv => whnf))
      exact Into.mono (Into.to [0, 1, 2] [(16, dInt (k + 1 : Nat)), (15, dInt (l.map Entry'.enc).length), (14, .dat (.list (l.map Entry'.enc))), (0, .ptr 0 0), (1, .dat (.list (l.map Entry'.enc))), (7, .dat (.list ((pastOfId l x).map Id.enc))), (8, .row 2)] [(0, .vars 90 3 [dInt c, .nil, .row 1] true), (1, .rows 106 3 (ts.map Turn.enc) true), (2, .rows 36 2 ((((l.take (k + 1)).filter fun e => bothOf e.colors c && (pastOfId l x).any (isId2 e.id)).map (·.id)).map Id.enc) true)] (by repeat (first | exact trivial | refine ⟨.same (congrArg dInt (wrap_up (by omega))), ?_⟩ | refine ⟨.same rfl, ?_⟩ | refine ⟨.any _, ?_⟩)) ⟨⟨rfl, rfl, rfl, .same rfl, rfl, .same rfl, rfl, .same rfl, rfl, trivial⟩, ⟨rfl, rfl, rfl, rfl⟩, ⟨rfl, rfl, rfl, hrow⟩, trivial⟩ rfl rfl) fun s' h => ⟨m - 1, by omega, k + 1, by omega, h⟩
  · have hk' := ge_of_len h
    conv => whnf
    repeat (first | (refine Conf.mk (by kernel_rfl) ?_; conv => whnf) | (refine SeqOk.go ?_; conv => whnf))
    subst hQ1
    conv => whnf
    exact .mk [2] [0, 1] (.dat (.list ((needsL l c x).map Id.enc))) [(0, .vars 90 3 [dInt c, .nil, .row 1] true), (1, .rows 106 3 (ts.map Turn.enc) true)] rfl (.data (by rw [List.take_of_length_le hk']; rfl)) ⟨⟨rfl, rfl, rfl, .same rfl, rfl, .same rfl, rfl, .same rfl, rfl, trivial⟩, ⟨rfl, rfl, rfl, rfl⟩, trivial⟩ rfl rfl ⟨rfl, rfl, rfl⟩
def mayT (played : List Id) (t : Turn) : Bool := !hasId played t.id && t.needs.all (hasId played)
theorem any_hasId (l : List Id) (x : Id) : l.any (isId2 x) = hasId l x := by rw [Bool.eq_iff_iff, any_isId2, hasId_iff]
set_option maxHeartbeats 0 in
theorem mayBeNext_ok (c : Int) (played : List Id) (ds : List (List D)) (t : Turn) (h1 : played.length ≤ 1000) (h2 : t.needs.length ≤ 1000) : PCall Try.prog 80 [.dat (.ptr [.int .i64 c, .list (played.map Id.enc), .list ds]), t.arg] (dBool (mayT played t)) := by
  refine pcall_cut tab_all tab_mixed Try.func80 (by kernel_rfl) Try.ntmps80 rfl ?_
  conv => whnf
  conv => whnf
  repeat (first | (refine Conf.mk (by kernel_rfl) ?_; conv => whnf) | (refine SeqOk.go ?_; conv => whnf))
  refine .look _ _ (containsId_ok t.id played (by omega)) rfl rfl ?_
  conv => whnf
  repeat (first | (refine Conf.mk (by kernel_rfl) ?_; conv => whnf) | (refine SeqOk.go ?_; conv => whnf))
  refine ⟨fun h => ?_, fun h => ?_⟩
  · conv => whnf
    repeat (first | (refine Conf.mk (by kernel_rfl) ?_; conv => whnf) | (refine SeqOk.go ?_; conv => whnf))
    exact Ret.bool (by unfold mayT; rw [← any_hasId, h]; rfl)
  · have hm : mayT played t = (t.needs.drop 0).all (hasId played) := by unfold mayT; rw [← any_hasId, h]; rfl
    conv => whnf
    repeat (first | (refine Conf.mk (by kernel_rfl) ?_; conv => whnf) | (refine SeqOk.go ?_; conv => whnf))
    refine LoopOk.hide fun Q1 hQ1 => ?_
    refine LoopOk.mk (fun m s => ∃ k, k + m = t.needs.length ∧ mayT played t = (t.needs.drop k).all (hasId played) ∧ s = ⟨[(18, dInt k), (17, dInt (t.needs.map Id.enc).length), (16, .dat (.list (t.needs.map Id.enc))), (0, .dat (.ptr [.int .i64 c, .list (played.map Id.enc), .list ds]))], 0, []⟩) t.needs.length (Into.mono (Into.to [] [(18, dInt (0 : Nat)), (17, dInt (t.needs.map Id.enc).length), (16, .dat (.list (t.needs.map Id.enc))), (0, .dat (.ptr [.int .i64 c, .list (played.map Id.enc), .list ds]))] [] (by repeat (first | exact trivial | refine ⟨.same (congrArg dInt (wrap_up (by omega))), ?_⟩ | refine ⟨.same rfl, ?_⟩ | refine ⟨.any _, ?_⟩)) trivial rfl rfl) fun s' h => ⟨0, by omega, hm, h⟩) ?_
    rintro m s ⟨k, hk, hq, rfl⟩
    conv => whnf
    repeat (first | (refine Conf.mk (by kernel_rfl) ?_; conv => whnf) | (refine SeqOk.go ?_; conv => whnf))
    refine ⟨fun h3 => ?_, fun h3 => ?_⟩
    · have hk' := lt_of_len h3
      rw [List.drop_eq_getElem_cons hk', List.all_cons] at hq
      conv => whnf
      repeat (first | (refine Conf.mk (by kernel_rfl) ?_; conv => whnf) | (refine SeqOk.go ?_; conv => whnf))
      refine AtIdx.ofMap hk' rfl ?_
      conv => whnf
      repeat (first | (refine Conf.mk (by kernel_rfl) ?_; conv => whnf) | (refine SeqOk.go ?_; conv => whnf))
      refine .look _ _ (containsId_ok t.needs[k] played (by omega)) rfl rfl ?_
      conv => whnf
      repeat (first | (refine Conf.mk (by kernel_rfl) ?_; conv => whnf) | (refine SeqOk.go ?_; conv => whnf))
      refine ⟨fun h4 => ?_, fun h4 => ?_⟩
      · have h4 : hasId played t.needs[k] = false := by rw [← any_hasId]; exact (Bool.not_eq_true' _).mp h4
        conv => whnf
        repeat (first | (refine Conf.mk (by kernel_rfl) ?_; conv => whnf) | (refine SeqOk.go ?_; conv => whnf))
        subst hQ1
        conv => whnf
        exact Ret.bool (by rw [hq, h4]; rfl)
      · have h4 : hasId played t.needs[k] = true := by rw [← any_hasId]; exact (Bool.not_eq_false' (b := played.any (isId2 t.needs[k]))).mp h4
        conv => whnf
        repeat (first | (refine Conf.mk (by kernel_rfl) ?_; conv => whnf) | (refine SeqOk.go ?_; conv => whnf))
        exact Into.mono (Into.to [] [(18, dInt (k + 1 : Nat)), (17, dInt (t.needs.map Id.enc).length), (16, .dat (.list (t.needs.map Id.enc))), (0, .dat (.ptr [.int .i64 c, .list (played.map Id.enc), .list ds]))] [] (by repeat (first | exact trivial | refine ⟨.same (congrArg dInt (wrap_up (by omega))), ?_⟩ | refine ⟨.same rfl, ?_⟩ | refine ⟨.any _, ?_⟩)) trivial rfl rfl) fun s' h => ⟨m - 1, by omega, k + 1, by omega, by rw [hq, h4, Bool.true_and], h⟩
    · conv => whnf
      repeat (first | (refine Conf.mk (by kernel_rfl) ?_; conv => whnf) | (refine SeqOk.go ?_; conv => whnf))
      subst hQ1
      conv => whnf
      exact Ret.bool (by rw [hq, List.drop_eq_nil_of_le (ge_of_len h3)]; rfl)
end Go.Proofs.Ytlioojekjnigiae.AM
/- A player's beginning, and its plays. -/
namespace Go.Proofs.Ytlioojekjnigiae.AM
set_option linter.unusedVariables false
set_option linter.unusedSimpArgs false
def turnStep (l : List Entry') (c : Int) (ts : List Turn) (e : Entry') : List Turn := if bothOf e.colors c = true then insT ts ⟨e.id, needsL l c e.id⟩ else ts
def turnsTo (l : List Entry') (c : Int) (k : Nat) : List Turn := (l.take k).foldl (turnStep l c) []
def turnsOf (l : List Entry') (c : Int) : List Turn := turnsTo l c l.length
theorem turnsTo_snoc {l : List Entry'} {c : Int} {k : Nat} (hk : k < l.length) : turnsTo l c (k + 1) = turnStep l c (turnsTo l c k) l[k] := by
  unfold turnsTo
  rw [take_snoc hk, List.foldl_append]
  rfl
theorem putAt_len {α : Type} {l : List α} {i : Nat} (h : i ≤ l.length) (x : α) : (putAt l i x).length = l.length + 1 := by simp [putAt]; omega
theorem mem_putAt {α : Type} {l : List α} {i : Nat} {x y : α} : y ∈ putAt l i x ↔ y = x ∨ y ∈ l := by
  unfold putAt
  rw [List.mem_append, List.mem_cons]
  constructor
  · rintro (h | h | h)
    · exact .inr (List.mem_of_mem_take h)
    · exact .inl h
    · exact .inr (List.mem_of_mem_drop h)
  · rintro (h | h)
    · exact .inr (.inl h)
    · rw [← List.take_append_drop i l, List.mem_append] at h
      exact h.elim .inl fun h => .inr (.inr h)
theorem turnsTo_len {l : List Entry'} {c : Int} : ∀ {k : Nat}, k ≤ l.length → (turnsTo l c k).length ≤ k
  | 0, _ => by simp [turnsTo]
  | k + 1, h => by
    rw [turnsTo_snoc h]
    have := turnsTo_len (l := l) (c := c) (k := k) (by omega)
    unfold turnStep
    split
    · unfold insT
      rw [putAt_len (placeOf_le _ _)]
      omega
    · omega
set_option maxHeartbeats 0 in
theorem newPlayer_ok {l : List Entry'} (hr : Right l) (c : Int) : ECall Try.prog 58 [.dat (.list (l.map Entry'.enc)), dInt c] [] 0 (.agg [dInt c, .nil, .dat (.list ((turnsOf l c).map Turn.enc))]) [] 0 := by
  have hlen := hr.len
  refine acall_cut tab_all tab_mixed Try.func58 (by kernel_rfl) Try.ntmps58 rfl ?_
  conv => whnf
  conv => whnf
  repeat (first | (refine Conf.mk (by kernel_rfl) ?_; conv => whnf) | (refine SeqOk.go ?_; conv => whnf))
  refine LoopOk.hide fun Q1 hQ1 => ?_
  refine LoopOk.mk (fun m s => ∃ k, k + m = l.length ∧ s = ⟨[(13, dInt k), (12, dInt (l.map Entry'.enc).length), (11, .dat (.list (l.map Entry'.enc))), (0, .dat (.list (l.map Entry'.enc))), (4, .ptr 0 0), (5, .ptr 1 0)], 3, [(0, .vars 90 3 [dInt 0, .nil, .nil] true), (1, .vars 90 3 [dInt c, .nil, .row 2] true), (2, .rows 106 3 ((turnsTo l c k).map Turn.enc) true)]⟩) l.length ((Into.rowAt 1 90 3 [dInt c, .nil, .nil] 2 106 3 rfl (Nat.lt_succ_self 1) rfl).trans fun s' hs' => by
    subst hs'
    exact Into.mono (Into.to [0, 1, 2] [(13, dInt (0 : Nat)), (12, dInt (l.map Entry'.enc).length), (11, .dat (.list (l.map Entry'.enc))), (0, .dat (.list (l.map Entry'.enc))), (4, .ptr 0 0), (5, .ptr 1 0)] [(0, .vars 90 3 [dInt 0, .nil, .nil] true), (1, .vars 90 3 [dInt c, .nil, .row 2] true), (2, .rows 106 3 ((turnsTo l c 0).map Turn.enc) true)] (by repeat (first | exact trivial | refine ⟨.same (congrArg dInt (wrap_up (by omega))), ?_⟩ | refine ⟨.same rfl, ?_⟩ | refine ⟨.any _, ?_⟩)) ⟨⟨rfl, rfl, rfl, .same rfl, rfl, .same rfl, rfl, .same rfl, rfl, trivial⟩, ⟨rfl, rfl, rfl, .same rfl, rfl, .same rfl, rfl, .same rfl, rfl, trivial⟩, ⟨rfl, rfl, rfl, rfl⟩, trivial⟩ rfl rfl) fun s' h => ⟨0, by omega, h⟩) ?_
  rintro m s ⟨k, hk, rfl⟩
  conv => whnf
  repeat (first | (refine Conf.mk (by kernel_rfl) ?_; conv => whnf) | (refine SeqOk.go ?_; conv => whnf))
  refine ⟨fun h => ?_, fun h => ?_⟩
  · have hk' := lt_of_len h
    have hst := turnsTo_snoc (c := c) hk'
    have htl := turnsTo_len (l := l) (c := c) (k := k) (by omega)
    conv => whnf
    repeat (first | (refine Conf.mk (by kernel_rfl) ?_; conv => whnf) | (refine SeqOk.go ?_; conv => whnf))
    refine AtIdx.ofMap hk' rfl ?_
    conv => whnf
    repeat (first | (refine Conf.mk (by kernel_rfl) ?_; conv => whnf) | (refine SeqOk.go ?_; conv => whnf))
    refine ⟨fun h2 => ?_, fun h2 => ?_⟩
    · have h2 : bothOf l[k].colors c = true := h2
      conv => whnf
      repeat (first | (refine Conf.mk (by kernel_rfl) ?_; conv => whnf) | (refine SeqOk.go ?_; conv => whnf))
      refine .eff [1, 2] _ _ _ _ 0 (needsOf_ok hr c (turnsTo l c k) l[k].id ⟨_, List.getElem_mem hk', rfl⟩) rfl rfl rfl rfl rfl ?_
      conv => whnf
      repeat (first | (refine Conf.mk (by kernel_rfl) ?_; conv => whnf) | (refine SeqOk.go ?_; conv => whnf))
      refine .eff [1, 2] _ _ _ _ 1 (add_ok c (turnsTo l c k) ⟨l[k].id, needsL l c l[k].id⟩ (by omega)) rfl rfl rfl rfl rfl ?_
      conv => whnf
      repeat (first | (refine Conf.mk (by kernel_rfl) ?_; conv => whnf) | (refine SeqOk.go ?_; conv => whnf))
      refine Into.mono (Into.to [0, 1, 4] [(13, dInt (k + 1 : Nat)), (12, dInt (l.map Entry'.enc).length), (11, .dat (.list (l.map Entry'.enc))), (0, .dat (.list (l.map Entry'.enc))), (4, .ptr 0 0), (5, .ptr 1 0)] [(0, .vars 90 3 [dInt 0, .nil, .nil] true), (1, .vars 90 3 [dInt c, .nil, .row 2] true), (2, .rows 106 3 ((turnsTo l c (k + 1)).map Turn.enc) true)] (by repeat (first | exact trivial | refine ⟨.same (congrArg dInt (wrap_up (by omega))), ?_⟩ | refine ⟨.same rfl, ?_⟩ | refine ⟨.any _, ?_⟩)) ⟨⟨rfl, rfl, rfl, .same rfl, rfl, .same rfl, rfl, .same rfl, rfl, trivial⟩, ⟨rfl, rfl, rfl, .same rfl, rfl, .same rfl, rfl, .same rfl, rfl, trivial⟩, ⟨rfl, rfl, rfl, ?_⟩, trivial⟩ rfl rfl) fun s' h => ⟨m - 1, by omega, k + 1, by omega, h⟩
      rw [hst, turnStep, if_pos h2]
    · have h2 : bothOf l[k].colors c = false := h2
      conv => whnf
      repeat (first | (refine Conf.mk (by kernel_rfl) ?_; conv => whnf) | (refine SeqOk.go ?_; conv => whnf))
      refine Into.mono (Into.to [0, 1, 2] [(13, dInt (k + 1 : Nat)), (12, dInt (l.map Entry'.enc).length), (11, .dat (.list (l.map Entry'.enc))), (0, .dat (.list (l.map Entry'.enc))), (4, .ptr 0 0), (5, .ptr 1 0)] [(0, .vars 90 3 [dInt 0, .nil, .nil] true), (1, .vars 90 3 [dInt c, .nil, .row 2] true), (2, .rows 106 3 ((turnsTo l c (k + 1)).map Turn.enc) true)] (by repeat (first | exact trivial | refine ⟨.same (congrArg dInt (wrap_up (by omega))), ?_⟩ | refine ⟨.same rfl, ?_⟩ | refine ⟨.any _, ?_⟩)) ⟨⟨rfl, rfl, rfl, .same rfl, rfl, .same rfl, rfl, .same rfl, rfl, trivial⟩, ⟨rfl, rfl, rfl, .same rfl, rfl, .same rfl, rfl, .same rfl, rfl, trivial⟩, ⟨rfl, rfl, rfl, ?_⟩, trivial⟩ rfl rfl) fun s' h => ⟨m - 1, by omega, k + 1, by omega, h⟩
      rw [hst, turnStep, if_neg (by simp [h2])]
  · have hk' : k = l.length := by have := ge_of_len h; omega
    subst hk'
    conv => whnf
    repeat (first | (refine Conf.mk (by kernel_rfl) ?_; conv => whnf) | (refine SeqOk.go ?_; conv => whnf))
    subst hQ1
    conv => whnf
    exact .mk [2] [] (.agg [dInt c, .nil, .dat (.list ((turnsOf l c).map Turn.enc))]) [] rfl (.aggs ⟨.same rfl, .same rfl, .data rfl, trivial⟩) trivial rfl rfl ⟨rfl, rfl, rfl⟩
end Go.Proofs.Ytlioojekjnigiae.AM
