/- What is leaned on: part 5. -/
import Derived.Test.YtlioojekjnigiafGreatQ4
import Derived.Test.YtlioojekjnigiafGreatRows
import Derived.WalkKit
import Derived.WalkSpells
import Derived.StillTactics
import Derived.Laws.Pointers
import Derived.Deep.RegionHeld3
import Derived.Deep.RegionLaw
import Derived.Deep.AppendLies
import Derived.Deep.QuietTactic
import Derived.Deep.DrawnRows
import Derived.BigQuiet
import Derived.RowKit3
import Derived.Laws.CopyRow
import Derived.Laws.OwnMore
import Derived.Lib.SliceRun
import Derived.Lib.AppendZerosOnto
import Derived.Lib.Overlaps
import Derived.Laws.Externs
import Derived.Deep.DeepAppendWide
/- Orders: what is begun, and how it goes on, as the document says. -/
namespace Go.Proofs.YtlioojekjnigiafGreat.AM
set_option linter.unusedVariables false
set_option linter.unusedSimpArgs false
def begunErr (l : List Entry') (c : Int) (ids : List Id) : Int := if idsErr l ids = 0 then (if c < 1 ∨ 7 < c then 3 else if begunOk l c ids = true then 0 else 4) else idsErr l ids
theorem begunErr_ok {l : List Entry'} {c : Int} {ids : List Id} (h : begunErr l c ids = 0) : idsErr l ids = 0 ∧ (1 ≤ c ∧ c ≤ 7) ∧ begunOk l c ids = true := by
  unfold begunErr at h
  split at h
  · rename_i h1
    split at h
    · simp at h
    · split at h
      · rename_i h2 h3; exact ⟨h1, by omega, h3⟩
      · simp at h
  · rename_i h1; exact absurd h h1
theorem between_ok' (n a b : Int) : PCall Tryz.prog 85 [dInt n, dInt a, dInt b] (dBool (decide (a ≤ n) && decide (n ≤ b))) := between_ok n a b
set_option maxHeartbeats 0 in
theorem checkBegun_ok (l : List Entry') (hl : LogOk l) (c : Int) (ids : List Id) (hi : ids.length ≤ 140737488355326) : PCall Tryz.prog 21 [.dat (.list (l.map Entry'.enc)), dInt c, .dat (.list (ids.map Id.enc))] (dInt (begunErr l c ids)) := by
  refine pcall_cut tab_all tab_mixed Tryz.func21 (by kernel_rfl) Tryz.ntmps21 rfl ?_
  conv => whnf
  conv => whnf
  repeat (first | (refine Conf.mk (by kernel_rfl) ?_; conv => whnf) | (refine SeqOk.go ?_; conv => whnf))
  refine .data _ _ (checkLog_ok l hl) rfl ?_
  conv => whnf
  refine SeqOk.cut' ⟨[(7, dInt (idsErr l ids)), (0, .dat (.list (l.map Entry'.enc))), (1, dInt c), (2, .dat (.list (ids.map Id.enc)))], 0, []⟩ ?_ ?_
  · conv => whnf
    refine ⟨fun h => ?_, fun h => ?_⟩
    · have h : logErr l = 0 := by simpa using h
      have he : idsErr l ids = idsLoop l [] ids := by unfold idsErr; rw [if_pos h]
      conv => whnf
      repeat (first | (refine Conf.mk (by kernel_rfl) ?_; conv => whnf) | (refine SeqOk.go ?_; conv => whnf))
      refine .data _ _ (checkIds_ok l hl ids (by omega)) rfl ?_
      conv => whnf
      repeat (first | (refine Conf.mk (by kernel_rfl) ?_; conv => whnf) | (refine SeqOk.go ?_; conv => whnf))
      exact Into.to [] [(7, dInt (idsErr l ids)), (0, .dat (.list (l.map Entry'.enc))), (1, dInt c), (2, .dat (.list (ids.map Id.enc)))] [] ⟨.same (congrArg dInt he), .same rfl, .same rfl, .same rfl, trivial⟩ trivial rfl rfl
    · have h : logErr l ≠ 0 := by simpa using h
      have he : idsErr l ids = logErr l := by unfold idsErr; rw [if_neg h]
      conv => whnf
      repeat (first | (refine Conf.mk (by kernel_rfl) ?_; conv => whnf) | (refine SeqOk.go ?_; conv => whnf))
      exact Into.to [] [(7, dInt (idsErr l ids)), (0, .dat (.list (l.map Entry'.enc))), (1, dInt c), (2, .dat (.list (ids.map Id.enc)))] [] ⟨.same (congrArg dInt he), .same rfl, .same rfl, .same rfl, trivial⟩ trivial rfl rfl
  · by_cases h0 : idsErr l ids = 0
    · obtain ⟨hr, hin, hnd⟩ := idsErr_ok h0
      have hlen := hr.len
      have hbt := between_ok' c 1 7
      by_cases hc : 1 ≤ c ∧ c ≤ 7
      · have he : begunErr l c ids = if begunOk l c ids = true then 0 else 4 := by unfold begunErr; rw [if_pos h0, if_neg (by omega)]
        rw [show (decide (1 ≤ c) && decide (c ≤ 7)) = true by simp; omega] at hbt
        conv => whnf
        repeat (first | (refine Conf.mk (by kernel_rfl) ?_; conv => whnf) | (refine SeqOk.go ?_; conv => whnf))
        refine BoolCase.yes (by rw [h0]; rfl) ?_
        conv => whnf
        repeat (first | (refine Conf.mk (by kernel_rfl) ?_; conv => whnf) | (refine SeqOk.go ?_; conv => whnf))
        refine .look _ _ hbt.kb rfl rfl ?_
        conv => whnf
        repeat (first | (refine Conf.mk (by kernel_rfl) ?_; conv => whnf) | (refine SeqOk.go ?_; conv => whnf))
        refine BoolCase.no (by rw [h0]; rfl) ?_
        conv => whnf
        repeat (first | (refine Conf.mk (by kernel_rfl) ?_; conv => whnf) | (refine SeqOk.go ?_; conv => whnf))
        refine LoopOk.hide fun Q1 hQ1 => ?_
        refine LoopOk.mk (fun m s => ∃ i, i + m = ids.length ∧ (∀ j (hj : j < ids.length), j < i → (colored l c ids[j] && (needs l c ids[j]).all (hasId ids)) = true) ∧ s = ⟨[(8, dInt i), (0, .dat (.list (l.map Entry'.enc))), (1, dInt c), (2, .dat (.list (ids.map Id.enc)))], 0, []⟩) ids.length (Into.mono (Into.to [] [(8, dInt (0 : Nat)), (0, .dat (.list (l.map Entry'.enc))), (1, dInt c), (2, .dat (.list (ids.map Id.enc)))] [] (by repeat (first | exact trivial | refine ⟨.same (congrArg dInt (wrap_up (by omega))), ?_⟩ | refine ⟨.same rfl, ?_⟩ | refine ⟨.any _, ?_⟩)) trivial rfl rfl) fun s' h => ⟨0, by omega, fun j _ hj => by omega, h⟩) ?_
        rintro m s ⟨i, him, hq, rfl⟩
        conv => whnf
        repeat (first | (refine Conf.mk (by kernel_rfl) ?_; conv => whnf) | (refine SeqOk.go ?_; conv => whnf))
        refine ⟨fun h => ?_, fun h => ?_⟩
        · have hi' := lt_of_len h
          have hii := List.getElem_mem hi'
          obtain ⟨p, hp, hpe⟩ := Right.idx_mem.1 (hin _ hii)
          have hat : entryAt l ids[i] = (p : Int) := by rw [entryAt_eq, ← hpe, idx_of hr hp]; rfl
          have hea := entryAt_ok ids[i] l (by omega)
          rw [hat] at hea
          have hco : colored l c ids[i] = meets l[p].colors c := by
            rw [Bool.eq_iff_iff, colored_iff]
            refine ⟨fun ⟨e, he, h1, h2⟩ => ?_, fun h => ⟨l[p], List.getElem_mem hp, hpe, h⟩⟩
            rw [hr.ent (List.getElem_mem hp) he (hpe.trans h1.symm)]; exact h2
          conv => whnf
          repeat (first | (refine Conf.mk (by kernel_rfl) ?_; conv => whnf) | (refine SeqOk.go ?_; conv => whnf))
          refine AtIdx.ofMap hi' rfl ?_
          conv => whnf
          repeat (first | (refine Conf.mk (by kernel_rfl) ?_; conv => whnf) | (refine SeqOk.go ?_; conv => whnf))
          refine .look _ _ hea rfl rfl ?_
          conv => whnf
          repeat (first | (refine Conf.mk (by kernel_rfl) ?_; conv => whnf) | (refine SeqOk.go ?_; conv => whnf))
          refine AtIdx.ofMap hp rfl ?_
          conv => whnf
          repeat (first | (refine Conf.mk (by kernel_rfl) ?_; conv => whnf) | (refine SeqOk.go ?_; conv => whnf))
          refine .look _ _ (meets_ok l[p].colors c) rfl rfl ?_
          conv => whnf
          repeat (first | (refine Conf.mk (by kernel_rfl) ?_; conv => whnf) | (refine SeqOk.go ?_; conv => whnf))
          refine ⟨fun h2 => ?_, fun h2 => ?_⟩
          · have h2 : meets l[p].colors c = false := (Bool.not_eq_true' _).mp h2
            have hbad : (colored l c ids[i] && (needs l c ids[i]).all (hasId ids)) = false := by rw [hco, h2]; rfl
            have hnb : begunOk l c ids = false := by
              rw [Bool.eq_false_iff]
              intro hh
              unfold begunOk at hh
              rw [Bool.and_eq_true, List.all_eq_true] at hh
              have := hh.1 _ (List.getElem_mem hi')
              rw [hbad] at this
              cases this
            conv => whnf
            repeat (first | (refine Conf.mk (by kernel_rfl) ?_; conv => whnf) | (refine SeqOk.go ?_; conv => whnf))
            subst hQ1
            conv => whnf
            exact Ret.int (by rw [he, hnb]; rfl)
          · have h2 : meets l[p].colors c = true := (Bool.not_eq_false' (b := meets l[p].colors c)).mp h2
            have hmc := mayCome_ok hr c p hp ids hi
            rw [hpe] at hmc
            conv => whnf
            repeat (first | (refine Conf.mk (by kernel_rfl) ?_; conv => whnf) | (refine SeqOk.go ?_; conv => whnf))
            refine .look _ _ hmc rfl rfl ?_
            conv => whnf
            repeat (first | (refine Conf.mk (by kernel_rfl) ?_; conv => whnf) | (refine SeqOk.go ?_; conv => whnf))
            refine ⟨fun h3 => ?_, fun h3 => ?_⟩
            · have h3 : (needs l c ids[i]).all (hasId ids) = false := (Bool.not_eq_true' _).mp h3
              have hbad : (colored l c ids[i] && (needs l c ids[i]).all (hasId ids)) = false := by rw [h3, Bool.and_false]
              have hnb : begunOk l c ids = false := by
                rw [Bool.eq_false_iff]
                intro hh
                unfold begunOk at hh
                rw [Bool.and_eq_true, List.all_eq_true] at hh
                have := hh.1 _ (List.getElem_mem hi')
                rw [hbad] at this
                cases this
              conv => whnf
              repeat (first | (refine Conf.mk (by kernel_rfl) ?_; conv => whnf) | (refine SeqOk.go ?_; conv => whnf))
              subst hQ1
              conv => whnf
              exact Ret.int (by rw [he, hnb]; rfl)
            · have h3 : (needs l c ids[i]).all (hasId ids) = true := (Bool.not_eq_false' (b := (needs l c ids[i]).all (hasId ids))).mp h3
              conv => whnf
              repeat (first | (refine Conf.mk (by kernel_rfl) ?_; conv => whnf) | (refine SeqOk.go ?_; conv => whnf))
              exact Into.mono (Into.to [] [(8, dInt (i + 1 : Nat)), (0, .dat (.list (l.map Entry'.enc))), (1, dInt c), (2, .dat (.list (ids.map Id.enc)))] [] (by repeat (first | exact trivial | refine ⟨.same (congrArg dInt (wrap_up (by omega))), ?_⟩ | refine ⟨.same rfl, ?_⟩ | refine ⟨.any _, ?_⟩)) trivial rfl rfl) fun s' h => ⟨m - 1, by omega, i + 1, by omega, fun j hj hji => (by
                by_cases e : j = i
                · subst e; rw [hco, h2, h3]; rfl
                · exact hq j hj (by omega)), h⟩
        · have hall : ids.all (fun x => colored l c x && (needs l c x).all (hasId ids)) = true := by
            rw [List.all_eq_true]
            intro x hx
            obtain ⟨j, hj, rfl⟩ := List.getElem_of_mem hx
            exact hq j hj (by have := ge_of_len h; omega)
          conv => whnf
          repeat (first | (refine Conf.mk (by kernel_rfl) ?_; conv => whnf) | (refine SeqOk.go ?_; conv => whnf))
          subst hQ1
          conv => whnf
          repeat (first | (refine Conf.mk (by kernel_rfl) ?_; conv => whnf) | (refine SeqOk.go ?_; conv => whnf))
          refine .look _ _ (isOrderRef_ok hr ids hin hi) rfl rfl ?_
          conv => whnf
          repeat (first | (refine Conf.mk (by kernel_rfl) ?_; conv => whnf) | (refine SeqOk.go ?_; conv => whnf))
          refine ⟨fun h3 => ?_, fun h3 => ?_⟩
          · have h3 : isOrder l ids = false := (Bool.not_eq_true' _).mp h3
            conv => whnf
            repeat (first | (refine Conf.mk (by kernel_rfl) ?_; conv => whnf) | (refine SeqOk.go ?_; conv => whnf))
            exact Ret.int (by rw [he, begunOk, hall, h3]; rfl)
          · have h3 : isOrder l ids = true := (Bool.not_eq_false' (b := isOrder l ids)).mp h3
            conv => whnf
            repeat (first | (refine Conf.mk (by kernel_rfl) ?_; conv => whnf) | (refine SeqOk.go ?_; conv => whnf))
            exact Ret.int (by rw [he, begunOk, hall, h3]; rfl)
      · have he : begunErr l c ids = 3 := by unfold begunErr; rw [if_pos h0, if_pos (by omega)]
        rw [show (decide (1 ≤ c) && decide (c ≤ 7)) = false by simp; omega] at hbt
        conv => whnf
        repeat (first | (refine Conf.mk (by kernel_rfl) ?_; conv => whnf) | (refine SeqOk.go ?_; conv => whnf))
        refine BoolCase.yes (by rw [h0]; rfl) ?_
        conv => whnf
        repeat (first | (refine Conf.mk (by kernel_rfl) ?_; conv => whnf) | (refine SeqOk.go ?_; conv => whnf))
        refine .look _ _ hbt.kb rfl rfl ?_
        conv => whnf
        repeat (first | (refine Conf.mk (by kernel_rfl) ?_; conv => whnf) | (refine SeqOk.go ?_; conv => whnf))
        refine BoolCase.yes rfl ?_
        conv => whnf
        repeat (first | (refine Conf.mk (by kernel_rfl) ?_; conv => whnf) | (refine SeqOk.go ?_; conv => whnf))
        exact Ret.int (by rw [he])
    · have he : begunErr l c ids = idsErr l ids := by unfold begunErr; rw [if_neg h0]
      conv => whnf
      repeat (first | (refine Conf.mk (by kernel_rfl) ?_; conv => whnf) | (refine SeqOk.go ?_; conv => whnf))
      refine BoolCase.no (by simpa using h0) ?_
      conv => whnf
      repeat (first | (refine Conf.mk (by kernel_rfl) ?_; conv => whnf) | (refine SeqOk.go ?_; conv => whnf))
      refine BoolCase.yes (by simpa using h0) ?_
      conv => whnf
      repeat (first | (refine Conf.mk (by kernel_rfl) ?_; conv => whnf) | (refine SeqOk.go ?_; conv => whnf))
      exact Ret.int (by rw [he])
/-- What may be next. -/
def cand (l : List Entry') (c : Int) (out : List Id) (x : Id) : Bool := colored l c x && mayP l c out x
theorem nextOf_eq (l : List Entry') (c : Int) (out : List Id) : nextOf l c out = allIds.find? (cand l c out) := by
  unfold nextOf colIds
  rw [List.find?_filter]
  congr 1
  funext x
  unfold cand
  rw [Bool.eq_iff_iff]
  simp
theorem find_at {p : Id → Bool} {k : Nat} {x : Id} (hn : ∀ y ∈ allIds.take k, p y = false) (hx : allIds[k]? = some x) (hp : p x = true) : allIds.find? p = some x := by
  obtain ⟨hk, hxe⟩ := List.getElem?_eq_some_iff.1 hx
  have : allIds = allIds.take k ++ x :: allIds.drop (k + 1) := by rw [← hxe, ← List.drop_eq_getElem_cons hk, List.take_append_drop]
  rw [this, List.find?_append, List.find?_eq_none.2 fun y hy => by rw [hn y hy]; simp, List.find?_cons, hp]
  rfl
theorem take_more {p : Id → Bool} {k : Nat} {x : Id} (hn : ∀ y ∈ allIds.take k, p y = false) (hx : allIds[k]? = some x) (hp : p x = false) : ∀ y ∈ allIds.take (k + 1), p y = false := fun y hy => by
  rw [List.take_add_one, hx] at hy
  rcases List.mem_append.1 hy with hy | hy
  · exact hn y hy
  · have : y = x := by simpa using hy
    rw [this]; exact hp
/-- How far one has looked for who is next. -/
def Seek (l : List Entry') (c : Int) (out : List Id) (k : Nat) (mo : Bool) (out' : List Id) : Prop :=
  (mo = false ∧ out = out' ∧ ∀ x ∈ allIds.take k, cand l c out x = false) ∨ (mo = true ∧ ∃ x, nextOf l c out = some x ∧ out' = out ++ [x])
set_option maxHeartbeats 0 in
theorem moreOf_ok {l : List Entry'} (hr : Right l) (c : Int) (ids : List Id) (hin : ∀ x ∈ ids, ∃ e ∈ l, e.id = x) (hnd : ids.Nodup) : PCall Tryz.prog 22 [.dat (.list (l.map Entry'.enc)), dInt c, .dat (.list (ids.map Id.enc))] (.dat (.list ((moreOf l c ids).map Id.enc))) := by
  have hlen := hr.len
  have hil := ids_len hin hnd
  refine pcall_cut tab_all tab_mixed Tryz.func22 (by kernel_rfl) Tryz.ntmps22 rfl ?_
  conv => whnf
  conv => whnf
  repeat (first | (refine Conf.mk (by kernel_rfl) ?_; conv => whnf) | (refine SeqOk.go ?_; conv => whnf))
  refine ⟨by simp [Id.enc], by simp; omega, ?_⟩
  conv => whnf
  repeat (first | (refine Conf.mk (by kernel_rfl) ?_; conv => whnf) | (refine SeqOk.go ?_; conv => whnf))
  refine LoopOk.hide fun Q1 hQ1 => ?_
  refine LoopOk.mk (fun m s => ∃ out mo, moreOf l c ids = moreOf l c out ∧ (∀ x ∈ out, ∃ e ∈ l, e.id = x) ∧ out.Nodup ∧ (mo = false → nextOf l c out = none) ∧ m = (if mo = true then left l c out + 1 else 0) ∧ s = ⟨[(8, dBool mo), (0, .dat (.list (l.map Entry'.enc))), (1, dInt c), (7, .row 0)], 1, [(0, .rows 25 2 (out.map Id.enc) true)]⟩) (left l c ids + 1) (Into.mono (Into.to [0] [(8, dBool true), (0, .dat (.list (l.map Entry'.enc))), (1, dInt c), (7, .row 0)] [(0, .rows 25 2 (ids.map Id.enc) true)] ⟨.kb true, .same rfl, .same rfl, .same rfl, trivial⟩ ⟨⟨rfl, rfl, rfl, rfl⟩, trivial⟩ rfl rfl) fun s' h => ⟨ids, true, rfl, hin, hnd, by simp, by simp, h⟩) ?_
  rintro m s ⟨out, mo, hmo, hon, hod, hno, hm, rfl⟩
  have hol := ids_len hon hod
  conv => whnf
  repeat (first | (refine Conf.mk (by kernel_rfl) ?_; conv => whnf) | (refine SeqOk.go ?_; conv => whnf))
  cases mo with
  | false =>
    refine BoolCase.no rfl ?_
    conv => whnf
    repeat (first | (refine Conf.mk (by kernel_rfl) ?_; conv => whnf) | (refine SeqOk.go ?_; conv => whnf))
    subst hQ1
    conv => whnf
    exact Ret.to (by rw [hmo, moreOf_none (hno rfl)])
  | true =>
    refine BoolCase.yes rfl ?_
    simp only [if_true] at hm
    conv => whnf
    repeat (first | (refine Conf.mk (by kernel_rfl) ?_; conv => whnf) | (refine SeqOk.go ?_; conv => whnf))
    refine LoopOk.hide fun Q2 hQ2 => ?_
    refine LoopOk.mk (fun m2 s => ∃ r mo out', r + m2 = 2 ∧ Seek l c out (20 * r) mo out' ∧ s = ⟨[(9, dInt r), (8, dBool mo), (0, .dat (.list (l.map Entry'.enc))), (1, dInt c), (7, .row 0)], 1, [(0, .rows 25 2 (out'.map Id.enc) true)]⟩) 2 (Into.mono (Into.to [0] [(9, dInt (0 : Nat)), (8, dBool false), (0, .dat (.list (l.map Entry'.enc))), (1, dInt c), (7, .row 0)] [(0, .rows 25 2 (out.map Id.enc) true)] ⟨.same rfl, .kb false, .same rfl, .same rfl, .same rfl, trivial⟩ ⟨⟨rfl, rfl, rfl, rfl⟩, trivial⟩ rfl rfl) fun s' h => ⟨0, false, out, by omega, .inl ⟨rfl, rfl, by simp⟩, h⟩) ?_
    rintro m2 s ⟨r, mo, out', hrm, hsk, rfl⟩
    conv => whnf
    repeat (first | (refine Conf.mk (by kernel_rfl) ?_; conv => whnf) | (refine SeqOk.go ?_; conv => whnf))
    refine ⟨fun h => ?_, fun h => ?_⟩
    · have hr2 : r < 2 := by simp at h; omega
      conv => whnf
      repeat (first | (refine Conf.mk (by kernel_rfl) ?_; conv => whnf) | (refine SeqOk.go ?_; conv => whnf))
      rcases hsk with ⟨rfl, rfl, hsk⟩ | ⟨rfl, x, hx, rfl⟩
      · refine BoolCase.yes rfl ?_
        conv => whnf
        repeat (first | (refine Conf.mk (by kernel_rfl) ?_; conv => whnf) | (refine SeqOk.go ?_; conv => whnf))
        refine LoopOk.hide fun Q3 hQ3 => ?_
        refine LoopOk.mk (fun m3 s => ∃ k mo out', k + m3 = 20 ∧ Seek l c out (20 * r + k) mo out' ∧ s = ⟨[(10, dInt (k + 1 : Nat)), (9, dInt r), (8, dBool mo), (0, .dat (.list (l.map Entry'.enc))), (1, dInt c), (7, .row 0)], 1, [(0, .rows 25 2 (out'.map Id.enc) true)]⟩) 20 (Into.mono (Into.to [0] [(10, dInt (0 + 1 : Nat)), (9, dInt r), (8, dBool false), (0, .dat (.list (l.map Entry'.enc))), (1, dInt c), (7, .row 0)] [(0, .rows 25 2 (out.map Id.enc) true)] ⟨.same rfl, .same rfl, .same rfl, .same rfl, .same rfl, .same rfl, trivial⟩ ⟨⟨rfl, rfl, rfl, rfl⟩, trivial⟩ rfl rfl) fun s' h => ⟨0, false, out, by omega, .inl ⟨rfl, rfl, hsk⟩, h⟩) ?_
        rintro m3 s ⟨k, mo, out', hk, hsk, rfl⟩
        conv => whnf
        repeat (first | (refine Conf.mk (by kernel_rfl) ?_; conv => whnf) | (refine SeqOk.go ?_; conv => whnf))
        refine ⟨fun h2 => ?_, fun h2 => ?_⟩
        · have hk2 : k < 20 := by simp at h2; omega
          have hget := allIds_get hr2 hk2
          conv => whnf
          repeat (first | (refine Conf.mk (by kernel_rfl) ?_; conv => whnf) | (refine SeqOk.go ?_; conv => whnf))
          rcases hsk with ⟨rfl, rfl, hsk⟩ | ⟨rfl, x, hx, rfl⟩
          · refine BoolCase.yes rfl ?_
            conv => whnf
            repeat (first | (refine Conf.mk (by kernel_rfl) ?_; conv => whnf) | (refine SeqOk.go ?_; conv => whnf))
            refine .look _ _ (entryAt_ok ⟨r, ((k + 1 : Nat) : Int)⟩ l (by omega)) rfl rfl ?_
            conv => whnf
            repeat (first | (refine Conf.mk (by kernel_rfl) ?_; conv => whnf) | (refine SeqOk.go ?_; conv => whnf))
            refine ⟨fun h3 => ?_, fun h3 => ?_⟩
            · have h3 : l.any (isThe ⟨r, ((k + 1 : Nat) : Int)⟩) = true := entryAt_iff.1 (by simpa using h3)
              obtain ⟨p, hp⟩ : ∃ p, idx l ⟨r, ((k + 1 : Nat) : Int)⟩ = some p := Option.isSome_iff_exists.1 (idxOf_nonneg.1 (entryAt_iff.2 h3))
              obtain ⟨hpl, hpe⟩ := idx_some hp
              have hat : entryAt l ⟨r, ((k + 1 : Nat) : Int)⟩ = (p : Int) := by rw [entryAt_eq, hp]; rfl
              have hco : colored l c ⟨r, ((k + 1 : Nat) : Int)⟩ = meets l[p].colors c := by
                rw [Bool.eq_iff_iff, colored_iff]
                refine ⟨fun ⟨e, he, h1, h2⟩ => ?_, fun h => ⟨l[p], List.getElem_mem hpl, hpe, h⟩⟩
                rw [hr.ent (List.getElem_mem hpl) he (hpe.trans h1.symm)]; exact h2
              conv => whnf
              repeat (first | (refine Conf.mk (by kernel_rfl) ?_; conv => whnf) | (refine SeqOk.go ?_; conv => whnf))
              refine AtIdx.ofMap' p hat hpl rfl ?_
              conv => whnf
              repeat (first | (refine Conf.mk (by kernel_rfl) ?_; conv => whnf) | (refine SeqOk.go ?_; conv => whnf))
              refine .look _ _ (meets_ok l[p].colors c) rfl rfl ?_
              conv => whnf
              repeat (first | (refine Conf.mk (by kernel_rfl) ?_; conv => whnf) | (refine SeqOk.go ?_; conv => whnf))
              refine ⟨fun h4 => ?_, fun h4 => ?_⟩
              · conv => whnf
                repeat (first | (refine Conf.mk (by kernel_rfl) ?_; conv => whnf) | (refine SeqOk.go ?_; conv => whnf))
                refine .look _ _ (hasId_ok ⟨r, ((k + 1 : Nat) : Int)⟩ out (by omega)) rfl rfl ?_
                conv => whnf
                repeat (first | (refine Conf.mk (by kernel_rfl) ?_; conv => whnf) | (refine SeqOk.go ?_; conv => whnf))
                refine ⟨fun h5 => ?_, fun h5 => ?_⟩
                · have h5 : hasId out ⟨r, ((k + 1 : Nat) : Int)⟩ = false := (Bool.not_eq_true' _).mp h5
                  have hmc := mayCome_ok hr c p hpl out (by omega)
                  rw [hpe, ← hat] at hmc
                  conv => whnf
                  repeat (first | (refine Conf.mk (by kernel_rfl) ?_; conv => whnf) | (refine SeqOk.go ?_; conv => whnf))
                  refine .look _ _ hmc rfl rfl ?_
                  conv => whnf
                  repeat (first | (refine Conf.mk (by kernel_rfl) ?_; conv => whnf) | (refine SeqOk.go ?_; conv => whnf))
                  refine ⟨fun h6 => ?_, fun h6 => ?_⟩
                  · have hcand : cand l c out ⟨r, ((k + 1 : Nat) : Int)⟩ = true := by unfold cand mayP; rw [hco, h4, h5, h6]; rfl
                    have hx : nextOf l c out = some ⟨r, ((k + 1 : Nat) : Int)⟩ := by rw [nextOf_eq]; exact find_at hsk hget hcand
                    conv => whnf
                    repeat (first | (refine Conf.mk (by kernel_rfl) ?_; conv => whnf) | (refine SeqOk.go ?_; conv => whnf))
                    refine ⟨by simp [Id.enc], by simp; omega, ?_⟩
                    conv => whnf
                    repeat (first | (refine Conf.mk (by kernel_rfl) ?_; conv => whnf) | (refine SeqOk.go ?_; conv => whnf))
                    exact Into.mono (Into.to [3] [(10, dInt ((k + 1) + 1 : Nat)), (9, dInt r), (8, dBool true), (0, .dat (.list (l.map Entry'.enc))), (1, dInt c), (7, .row 0)] [(0, .rows 25 2 ((out ++ [Id.mk r ((k + 1 : Nat) : Int)]).map Id.enc) true)] ⟨.same (congrArg dInt (wrap_up (by omega))), .same rfl, .kb true, .same rfl, .same rfl, .same rfl, trivial⟩ ⟨⟨rfl, rfl, rfl, by rw [List.map_append]; rfl⟩, trivial⟩ rfl rfl) fun s' h => ⟨m3 - 1, by omega, k + 1, true, out ++ [Id.mk r ((k + 1 : Nat) : Int)], by omega, .inr ⟨rfl, _, hx, rfl⟩, h⟩
                  · have hcand : cand l c out ⟨r, ((k + 1 : Nat) : Int)⟩ = false := by unfold cand mayP; rw [h6, Bool.and_false, Bool.and_false]
                    conv => whnf
                    repeat (first | (refine Conf.mk (by kernel_rfl) ?_; conv => whnf) | (refine SeqOk.go ?_; conv => whnf))
                    exact Into.mono (Into.to [0] [(10, dInt ((k + 1) + 1 : Nat)), (9, dInt r), (8, dBool false), (0, .dat (.list (l.map Entry'.enc))), (1, dInt c), (7, .row 0)] [(0, .rows 25 2 (out.map Id.enc) true)] ⟨.same (congrArg dInt (wrap_up (by omega))), .same rfl, .same rfl, .same rfl, .same rfl, .same rfl, trivial⟩ ⟨⟨rfl, rfl, rfl, rfl⟩, trivial⟩ rfl rfl) fun s' h => ⟨m3 - 1, by omega, k + 1, false, out, by omega, .inl ⟨rfl, rfl, take_more hsk hget hcand⟩, h⟩
                · have h5 : hasId out ⟨r, ((k + 1 : Nat) : Int)⟩ = true := (Bool.not_eq_false' (b := hasId out ⟨r, ((k + 1 : Nat) : Int)⟩)).mp h5
                  have hcand : cand l c out ⟨r, ((k + 1 : Nat) : Int)⟩ = false := by unfold cand mayP; rw [h5, Bool.not_true, Bool.false_and, Bool.and_false]
                  conv => whnf
                  repeat (first | (refine Conf.mk (by kernel_rfl) ?_; conv => whnf) | (refine SeqOk.go ?_; conv => whnf))
                  exact Into.mono (Into.to [0] [(10, dInt ((k + 1) + 1 : Nat)), (9, dInt r), (8, dBool false), (0, .dat (.list (l.map Entry'.enc))), (1, dInt c), (7, .row 0)] [(0, .rows 25 2 (out.map Id.enc) true)] ⟨.same (congrArg dInt (wrap_up (by omega))), .same rfl, .same rfl, .same rfl, .same rfl, .same rfl, trivial⟩ ⟨⟨rfl, rfl, rfl, rfl⟩, trivial⟩ rfl rfl) fun s' h => ⟨m3 - 1, by omega, k + 1, false, out, by omega, .inl ⟨rfl, rfl, take_more hsk hget hcand⟩, h⟩
              · have hcand : cand l c out ⟨r, ((k + 1 : Nat) : Int)⟩ = false := by unfold cand; rw [hco, h4, Bool.false_and]
                conv => whnf
                repeat (first | (refine Conf.mk (by kernel_rfl) ?_; conv => whnf) | (refine SeqOk.go ?_; conv => whnf))
                exact Into.mono (Into.to [0] [(10, dInt ((k + 1) + 1 : Nat)), (9, dInt r), (8, dBool false), (0, .dat (.list (l.map Entry'.enc))), (1, dInt c), (7, .row 0)] [(0, .rows 25 2 (out.map Id.enc) true)] ⟨.same (congrArg dInt (wrap_up (by omega))), .same rfl, .same rfl, .same rfl, .same rfl, .same rfl, trivial⟩ ⟨⟨rfl, rfl, rfl, rfl⟩, trivial⟩ rfl rfl) fun s' h => ⟨m3 - 1, by omega, k + 1, false, out, by omega, .inl ⟨rfl, rfl, take_more hsk hget hcand⟩, h⟩
            · have h3 : l.any (isThe ⟨r, ((k + 1 : Nat) : Int)⟩) = false := by
                rw [Bool.eq_false_iff]
                intro hh
                exact of_decide_eq_false h3 (entryAt_iff.2 hh)
              have hcand : cand l c out ⟨r, ((k + 1 : Nat) : Int)⟩ = false := by
                unfold cand
                rw [Bool.and_eq_false_iff]
                refine .inl ?_
                rw [Bool.eq_false_iff]
                intro hh
                obtain ⟨e, he, h1, _⟩ := colored_iff.1 hh
                rw [any_isThe.2 ⟨e, he, h1⟩] at h3
                cases h3
              conv => whnf
              repeat (first | (refine Conf.mk (by kernel_rfl) ?_; conv => whnf) | (refine SeqOk.go ?_; conv => whnf))
              exact Into.mono (Into.to [0] [(10, dInt ((k + 1) + 1 : Nat)), (9, dInt r), (8, dBool false), (0, .dat (.list (l.map Entry'.enc))), (1, dInt c), (7, .row 0)] [(0, .rows 25 2 (out.map Id.enc) true)] ⟨.same (congrArg dInt (wrap_up (by omega))), .same rfl, .same rfl, .same rfl, .same rfl, .same rfl, trivial⟩ ⟨⟨rfl, rfl, rfl, rfl⟩, trivial⟩ rfl rfl) fun s' h => ⟨m3 - 1, by omega, k + 1, false, out, by omega, .inl ⟨rfl, rfl, take_more hsk hget hcand⟩, h⟩
          · refine BoolCase.no rfl ?_
            conv => whnf
            repeat (first | (refine Conf.mk (by kernel_rfl) ?_; conv => whnf) | (refine SeqOk.go ?_; conv => whnf))
            subst hQ3
            conv => whnf
            exact Into.mono (Into.to [0] [(9, dInt (r + 1 : Nat)), (8, dBool true), (0, .dat (.list (l.map Entry'.enc))), (1, dInt c), (7, .row 0)] [(0, .rows 25 2 ((out ++ [x]).map Id.enc) true)] ⟨.same (congrArg dInt (wrap_up (by omega))), .same rfl, .same rfl, .same rfl, .same rfl, trivial⟩ ⟨⟨rfl, rfl, rfl, rfl⟩, trivial⟩ rfl rfl) fun s' h => ⟨m2 - 1, by omega, r + 1, true, out ++ [x], by omega, .inr ⟨rfl, x, hx, rfl⟩, h⟩
        · have hk2 : k = 20 := by simp at h2; omega
          subst hk2
          conv => whnf
          repeat (first | (refine Conf.mk (by kernel_rfl) ?_; conv => whnf) | (refine SeqOk.go ?_; conv => whnf))
          rcases hsk with ⟨rfl, rfl, hsk⟩ | ⟨rfl, x, hx, rfl⟩
          · subst hQ3
            conv => whnf
            exact Into.mono (Into.to [0] [(9, dInt (r + 1 : Nat)), (8, dBool false), (0, .dat (.list (l.map Entry'.enc))), (1, dInt c), (7, .row 0)] [(0, .rows 25 2 (out.map Id.enc) true)] ⟨.same (congrArg dInt (wrap_up (by omega))), .same rfl, .same rfl, .same rfl, .same rfl, trivial⟩ ⟨⟨rfl, rfl, rfl, rfl⟩, trivial⟩ rfl rfl) fun s' h => ⟨m2 - 1, by omega, r + 1, false, out, by omega, .inl ⟨rfl, rfl, by rw [show 20 * (r + 1) = 20 * r + 20 by omega]; exact hsk⟩, h⟩
          · subst hQ3
            conv => whnf
            exact Into.mono (Into.to [0] [(9, dInt (r + 1 : Nat)), (8, dBool true), (0, .dat (.list (l.map Entry'.enc))), (1, dInt c), (7, .row 0)] [(0, .rows 25 2 ((out ++ [x]).map Id.enc) true)] ⟨.same (congrArg dInt (wrap_up (by omega))), .same rfl, .same rfl, .same rfl, .same rfl, trivial⟩ ⟨⟨rfl, rfl, rfl, rfl⟩, trivial⟩ rfl rfl) fun s' h => ⟨m2 - 1, by omega, r + 1, true, out ++ [x], by omega, .inr ⟨rfl, x, hx, rfl⟩, h⟩
      · refine BoolCase.no rfl ?_
        conv => whnf
        repeat (first | (refine Conf.mk (by kernel_rfl) ?_; conv => whnf) | (refine SeqOk.go ?_; conv => whnf))
        subst hQ2
        conv => whnf
        exact Into.mono (Into.to [0] [(8, dBool true), (0, .dat (.list (l.map Entry'.enc))), (1, dInt c), (7, .row 0)] [(0, .rows 25 2 ((out ++ [x]).map Id.enc) true)] ⟨.same rfl, .same rfl, .same rfl, .same rfl, trivial⟩ ⟨⟨rfl, rfl, rfl, rfl⟩, trivial⟩ rfl rfl) fun s' h => ⟨m - 1, by omega, out ++ [x], true, by rw [hmo, moreOf_some hx], fun y hy => (by
          rcases List.mem_append.1 hy with hy | hy
          · exact hon y hy
          · have : y = x := by simpa using hy
            rw [this]
            obtain ⟨e, he, h1, _⟩ := colored_iff.1 ((mem_colIds hr).1 (nextOf_some hx).1)
            exact ⟨e, he, h1⟩), (by
          rw [List.nodup_append]
          refine ⟨hod, by simp, fun y hy z hz e => ?_⟩
          have : z = x := by simpa using hz
          subst this
          exact ((mayP_iff hr).1 (nextOf_some hx).2).1 (by rw [← e]; exact hy)), by simp, by simp only [if_true]; have := nextOf_left hx; omega, h⟩
    · have hr2 : r = 2 := by simp at h; omega
      subst hr2
      conv => whnf
      repeat (first | (refine Conf.mk (by kernel_rfl) ?_; conv => whnf) | (refine SeqOk.go ?_; conv => whnf))
      rcases hsk with ⟨rfl, rfl, hsk⟩ | ⟨rfl, x, hx, rfl⟩
      · subst hQ2
        conv => whnf
        have hnone : nextOf l c out = none := by
          rw [nextOf_eq, List.find?_eq_none]
          intro y hy
          rw [List.take_of_length_le (by rw [allIds_length]; exact Nat.le_refl _)] at hsk
          rw [hsk y hy]; simp
        exact Into.mono (Into.to [0] [(8, dBool false), (0, .dat (.list (l.map Entry'.enc))), (1, dInt c), (7, .row 0)] [(0, .rows 25 2 (out.map Id.enc) true)] ⟨.same rfl, .same rfl, .same rfl, .same rfl, trivial⟩ ⟨⟨rfl, rfl, rfl, rfl⟩, trivial⟩ rfl rfl) fun s' h => ⟨0, by omega, out, false, hmo, hon, hod, fun _ => hnone, by simp, h⟩
      · subst hQ2
        conv => whnf
        exact Into.mono (Into.to [0] [(8, dBool true), (0, .dat (.list (l.map Entry'.enc))), (1, dInt c), (7, .row 0)] [(0, .rows 25 2 ((out ++ [x]).map Id.enc) true)] ⟨.same rfl, .same rfl, .same rfl, .same rfl, trivial⟩ ⟨⟨rfl, rfl, rfl, rfl⟩, trivial⟩ rfl rfl) fun s' h => ⟨m - 1, by omega, out ++ [x], true, by rw [hmo, moreOf_some hx], fun y hy => (by
          rcases List.mem_append.1 hy with hy | hy
          · exact hon y hy
          · have : y = x := by simpa using hy
            rw [this]
            obtain ⟨e, he, h1, _⟩ := colored_iff.1 ((mem_colIds hr).1 (nextOf_some hx).1)
            exact ⟨e, he, h1⟩), (by
          rw [List.nodup_append]
          refine ⟨hod, by simp, fun y hy z hz e => ?_⟩
          have : z = x := by simpa using hz
          subst this
          exact ((mayP_iff hr).1 (nextOf_some hx).2).1 (by rw [← e]; exact hy)), by simp, by simp only [if_true]; have := nextOf_left hx; omega, h⟩
end Go.Proofs.YtlioojekjnigiafGreat.AM
/- What the walks lean on: worlds that only grow, blocks, rows, and regions whose order is left open. -/
namespace Go.Proofs.YtlioojekjnigiafGreat
open Go.RowKit

/-- The world has grown: all that was there is as it was. -/
def Grow (w w' : World) : Prop := Below w.heap.size w w'
theorem Grow.refl (w : World) : Grow w w := Below.refl _ _
theorem Grow.size {w w' : World} (h : Grow w w') : w.heap.size ≤ w'.heap.size := Below.size h
theorem Grow.trans {a b c : World} (h : Grow a b) (k : Grow b c) : Grow a c := Below.trans h (Below.mono k (Below.size h))
theorem Grow.drew {a b : World} (h : Grow a b) : Grow a b.drew := Below.drew h
theorem Grow.drewN {a b : World} (h : Grow a b) (n : Nat) : Grow a (b.drewN n) := Below.trans h ⟨rfl, rfl, rfl, Nat.le_refl _, fun _ _ => rfl⟩
theorem Grow.alloc {a b : World} (h : Grow a b) (o : Obj) : Grow a (b.alloc o) := Below.alloc h (Below.size h) o
theorem Grow.setCell {a b : World} (h : Grow a b) {p : Addr} (hp : a.heap.size ≤ p.block) (u : Value) : Grow a (b.setCell p u) := Below.setCell h hp u
theorem cell_lt {w : World} {a : Addr} {v : Value} (h : w.cell? a = some v) : a.block < w.heap.size := World.block_lt_of_cell? w a h
theorem cell_grow {w w' : World} {a : Addr} {v : Value} (hb : Grow w w') (h : w.cell? a = some v) : w'.cell? a = some v :=
  (Below.cell hb (p := a) (cell_lt h)).trans h
theorem frozen_grow {w w' : World} {a : Addr} {v : Value} (hb : Grow w w') (h : w.cell? a = some v) : w'.frozen? a = w.frozen? a :=
  Below.frozen hb (p := a) (cell_lt h)

theorem block_grown {w w1 : World} {row : Option Nat} {b : Nat} {o o' : Obj} (hg : (w.alloc o').grownBy w1 row) (hne : some b ≠ row) (h : w.heap[b]? = some o) : w1.heap[b]? = some o := by
  have hlt := lt_of_block h
  rw [hg.block b (by simp; omega) hne, Below.heap_alloc _ _ _ hlt, h]
theorem cell_grown {w w1 : World} {row : Option Nat} {a : Addr} {v : Value} {o' : Obj} (hg : (w.alloc o').grownBy w1 row) (hne : some a.block ≠ row) (h : w.cell? a = some v) : w1.cell? a = some v := by
  have hlt := cell_lt h
  have e : w1.heap[a.block]? = w.heap[a.block]? := by rw [hg.block a.block (by simp; omega) hne, Below.heap_alloc _ _ _ hlt]
  exact (World.cell?_of_block (w := w) e).trans h
theorem own_ne {w : World} {base : Nat} {e : TypeId} {size : Nat} {v : Value} {n : Nat} {xs : List Value} (h : w.ownsRow base e size v n xs) {b : Nat} (hb : b < base) : some b ≠ v.ownBlock := by
  intro he
  have := (h.lt b he.symm).1
  omega
theorem cell_of_block {w : World} {b o : Nat} {cs : Array Value} {t : TypeId} {v : Value} (h : w.heap[b]? = some (.cells cs t (0, 0))) (hv : cs[o]? = some v) : w.cell? ⟨b, o, none⟩ = some v := by simp [World.cell?, h, hv]
theorem free_of_block {w : World} {b : Nat} {cs : Array Value} {t : TypeId} (h : w.heap[b]? = some (.cells cs t (0, 0))) (o : Nat) : w.frozen? ⟨b, o, none⟩ = false := by simp [World.frozen?, h]
/-- What the reader panics with. -/
theorem block_set {w : World} {b o : Nat} {cs : Array Value} {t : TypeId} {v : Value} (h : w.heap[b]? = some (.cells cs t (0, 0))) : (w.setCell ⟨b, o, none⟩ v).heap[b]? = some (.cells (cs.setIfInBounds o v) t (0, 0)) := by
  have hlt := lt_of_block h
  have h' : w.heap[b] = .cells cs t (0, 0) := by simpa [Array.getElem?_eq_getElem hlt] using h
  show (w.heap.modify b _)[b]? = _
  rw [Array.getElem?_eq_getElem (by simpa using hlt), Array.getElem_modify_self, h']
  rfl
theorem block_far {w : World} {b : Nat} {o : Obj} {a : Addr} {v : Value} (hn : b ≠ a.block) (h : w.heap[b]? = some o) : (w.setCell a v).heap[b]? = some o := (Below.heap_setCell _ _ _ _ hn).trans h

theorem ownsRow_far {w : World} {base : Nat} {e : TypeId} {size : Nat} {v : Value} {n : Nat} {xs : List Value} (h : w.ownsRow base e size v n xs) {p : Addr} (hp : p.block < base) (u : Value) : (w.setCell p u).ownsRow base e size v n xs := by
  obtain ⟨h1, h2⟩ := h
  refine ⟨h1, ?_⟩
  rcases h2 with h2 | ⟨g, cap, cur, hv, hg, hh, r⟩
  · exact .inl h2
  · exact .inr ⟨g, cap, cur, hv, hg, block_far (by omega) hh, r⟩
theorem grow_grown {w w2 w3 : World} {o : Obj} {base : Nat} {e : TypeId} {size : Nat} {v : Value} {n : Nat} {xs : List Value} (h : Grow w w2) (hown : w2.ownsRow base e size v n xs) (hb : w.heap.size ≤ base) (hg : (w2.alloc o).grownBy w3 v.ownBlock) : Grow w w3 :=
  ⟨hg.os.trans h.os, hg.tape.trans h.tape, hg.output.trans h.output, by have := hg.size; have := h.size; simp at *; omega, fun k hk => by
    have := h.size
    rw [hg.block k (by simp; omega) (own_ne hown (by omega)), Below.heap_alloc _ _ _ (by omega)]
    exact h.block k hk⟩
section
variable {P : Program} {ops : Array Oper} {Q : Exit → Act → World → Prop} {md : Region.Mode}

theorem wpAnyH_weaken {S S' : World → Prop} (hS : ∀ w, S w → S' w) : ∀ (fuel : Nat) (listed : Array Bool) (a : Act) (w : World), wpAnyH P md ops Q S fuel listed a w → wpAnyH P md ops Q S' fuel listed a w
  | 0, _, _, _, h => h
  | fuel + 1, _, _, _, h => ⟨h.1, fun i hi => wpOp_mono (fun a' w' h' => ⟨hS _ h'.1, wpAnyH_weaken hS fuel _ a' w' h'.2⟩) (h.2 i hi)⟩

/-- The beginning: no way out by a panic is let. -/
theorem held_start {id : Nat} {a : Act} {w : World} (hm : P.follows .mixedOrders = true)
    (h : wpAnyH P .any ops (NoPanic Q) (Grow w.drew) ops.size (Array.replicate ops.size false) a w.drew) : (Code.region id ops true).wp P Q a w :=
  wp_region_noPanic (wp_region_held hm h)
/-- An operation that only looks is taken first. -/
theorem held_take {i : Nat} {oi : Oper} {v : Value} {fuel : Nat} {listed : Array Bool} {a : Act} {w : World} (hi : ops[i]? = some oi)
    (hs : Region.noSelect ops = true) (hf : Region.free md ops listed i = true) (hr : (Region.ready md ops listed).contains i = true)
    (hw : Region.wanted oi (yielded ops a.tmps) = true) (hy : ∀ w', Grow w w' → (execOp a.eval oi).run P w' = .ok (.value v) w')
    (h : wpAnyH P md ops (NoPanic Q) (Grow w) fuel (listed.setIfInBounds i true) (a.put oi.dst v) w) : wpAnyH P md ops (NoPanic Q) (Grow w) (fuel + 1) listed a w :=
  wpAnyH_take hi hs hf hr (fun _ _ _ h => h) (Or.inl ⟨hw, hy⟩) (Grow.refl w) h
/-- An operation that nobody wants. -/
theorem held_skip {i : Nat} {oi : Oper} {fuel : Nat} {listed : Array Bool} {a : Act} {w : World} (hi : ops[i]? = some oi)
    (hs : Region.noSelect ops = true) (hf : Region.free md ops listed i = true) (hr : (Region.ready md ops listed).contains i = true)
    (hw : Region.wanted oi (yielded ops a.tmps) = false)
    (h : wpAnyH P md ops (NoPanic Q) (Grow w) fuel (listed.setIfInBounds i true) (a.put oi.dst undef) w) : wpAnyH P md ops (NoPanic Q) (Grow w) (fuel + 1) listed a w :=
  wpAnyH_take hi hs hf hr (fun _ _ _ h => h) (Or.inr ⟨hw, rfl⟩) (Grow.refl w) h
/-- An operation that comes up alone, and lets the world grow. -/
theorem held_call {i : Nat} {oi : Oper} {fuel : Nat} {listed : Array Bool} {a : Act} {w : World} (hi : ops[i]? = some oi) (hr : Region.ready md ops listed = [i])
    (hw : Region.wanted oi (yielded ops a.tmps) = true)
    (h : ∀ K : Act → World → Prop, (∀ a' w', Grow w w' → wpAnyH P md ops (NoPanic Q) (Grow w') fuel (listed.setIfInBounds i true) a' w' → K a' w') → oi.wp P a w K (NoPanic Q)) : wpAnyH P md ops (NoPanic Q) (Grow w) (fuel + 1) listed a w := by
  refine wpAnyH_all hr (by simp) fun j hj => ?_
  obtain rfl : j = i := by simpa using hj
  unfold wpOp
  simp only [hi, hw, if_true]
  exact .inl (h _ fun a' w' hg h' => ⟨hg, wpAnyH_weaken (fun x hx => hg.trans hx) _ _ _ _ h'⟩)
theorem held_done {listed : Array Bool} {a : Act} {w : World} (hr : Region.ready md ops listed = []) (h : Q .normal a w) (fuel : Nat) : wpAnyH P md ops (NoPanic Q) (Grow w) fuel listed a w :=
  wpAnyH_done hr (NoPanic.normal h) fuel
end

section
variable {P : Program}
/-- What comes to an end leaves the world as it was, and comes to the same end in every world that has grown from it. -/
def Steady (P : Program) {α : Type} (s : Sem α) : Prop := ∀ (w : World) (x : α) (w1 : World), s.run P w = .ok x w1 → w1 = w ∧ ∀ w', Grow w w' → s.run P w' = .ok x w'
/-- It comes to no end. -/
def Dead (P : Program) {α : Type} (s : Sem α) : Prop := ∀ (w : World) (x : α) (w1 : World), s.run P w ≠ .ok x w1

theorem Steady.pure {α : Type} (x : α) : Steady P (Pure.pure x : Sem α) := fun w y w1 h => by
  have h' : Result.ok x w = Result.ok y w1 := h
  cases h'
  exact ⟨rfl, fun w' _ => rfl⟩
theorem Steady.bind {α β : Type} {s : Sem α} {f : α → Sem β} (hs : Steady P s) (hf : ∀ x, Steady P (f x)) : Steady P (s >>= f) := fun w y w1 h => by
  rw [Sem.run_bind] at h
  cases hr : s.run P w with
  | halt e w2 => rw [hr] at h; cases h
  | ok x w2 =>
    obtain ⟨rfl, hs'⟩ := hs w x w2 hr
    rw [hr] at h
    obtain ⟨rfl, hf'⟩ := hf x w2 y w1 h
    exact ⟨rfl, fun w' hg => by rw [Sem.run_bind, hs' w' hg]; exact hf' w' hg⟩
theorem Dead.steady {α : Type} {s : Sem α} (h : Dead P s) : Steady P s := fun w x w1 e => absurd e (h w x w1)
theorem Dead.halt {α : Type} (h : Halt) : Dead P (Sem.halt h : Sem α) := fun _ _ _ e => by cases e
theorem Dead.bind {α β : Type} {s : Sem α} {f : α → Sem β} (hf : ∀ x, Dead P (f x)) : Dead P (s >>= f) := fun w y w1 h => by
  rw [Sem.run_bind] at h
  cases hr : s.run P w with
  | halt e w2 => rw [hr] at h; cases h
  | ok x w2 => rw [hr] at h; exact hf x w2 y w1 h
theorem Steady.stuck {α : Type} (s : String) : Steady P (stuck s : Sem α) := (Dead.halt _).steady
theorem Steady.unsupported {α : Type} (s : Unsupported) : Steady P (unsupported s : Sem α) := (Dead.halt _).steady
theorem Steady.program : Steady P program := fun w x w1 h => by
  have h' : Result.ok P w = Result.ok x w1 := h
  cases h'
  exact ⟨rfl, fun w' _ => rfl⟩
theorem Dead.bounds {α : Type} (k : IntKind) (x y : Int) (c : BoundsCode) : Dead P (boundsPanic k x y c : Sem α) :=
  by
  unfold boundsPanic
  simp only
  split
  · exact Dead.bind fun _ => Dead.bind fun _ => Dead.halt _
  · exact Dead.bind fun _ => Dead.bind fun _ => Dead.halt _
theorem grow_block {w w' : World} {b : Nat} {o : Obj} (hg : Grow w w') (h : w.heap[b]? = some o) : w'.heap[b]? = some o := (Below.block hg b (lt_of_block h)).trans h

theorem seen_none {w : World} {at_ : Addr} {u : TypeId} {k : Addr} {b : Bool} (h : w.heap[at_.block]? = none) : ∃ e, w.seen P at_ u k b = .error e := by
  unfold World.seen
  by_cases h0 : (k.spot.isSome || at_.spot.isSome) = true
  · rw [if_pos h0]; exact ⟨_, rfl⟩
  · rw [if_neg h0]
    cases h1 : plainCell P P.depth u k.off with
    | none => exact ⟨_, rfl⟩
    | some like =>
      simp only
      cases h2 : like.bytes?.map (·.length) with
      | none => exact ⟨_, rfl⟩
      | some size =>
        simp only
        cases h3 : byteOfCell P P.depth u k.off with
        | none => exact ⟨_, rfl⟩
        | some β => simp only [h]; exact ⟨_, rfl⟩
theorem viewLoad_same {w w' : World} {at_ : Addr} {u : TypeId} {k : Addr} {b : Bool} {r : Value × List Addr} (hg : Grow w w') (h : w.viewLoad P at_ u k b = .ok r) : w'.viewLoad P at_ u k b = .ok r := by
  cases hb : w.heap[at_.block]? with
  | some o =>
    have e := grow_block hg hb
    rw [← h]
    unfold World.viewLoad World.seen
    rw [hb, e]
  | none =>
    obtain ⟨e, he⟩ := seen_none (P := P) (u := u) (k := k) (b := b) hb
    unfold World.viewLoad at h
    rw [he] at h
    cases h
theorem Steady.load (m : Mode) (a : Addr) : Steady P (Sem.load m a Sem.pure) := fun w x w1 h => by
  unfold Sem.run at h
  cases hc : w.cell? a with
  | some v =>
    rw [hc] at h
    have h' : Result.ok v w = Result.ok x w1 := h
    cases h'
    exact ⟨rfl, fun w' hg => by unfold Sem.run; rw [cell_grow hg hc]; rfl⟩
  | none =>
    rw [hc] at h
    simp only at h
    cases hf : w.farLoad P a (m == .atomic) with
    | error e => rw [hf] at h; cases h
    | ok r =>
      rw [hf] at h
      have h' : Result.ok r.1 w = Result.ok x w1 := h
      cases h'
      refine ⟨rfl, fun w' hg => ?_⟩
      unfold World.farLoad at hf
      cases hb : w.heap[a.block]? with
      | none => rw [hb] at hf; cases hf
      | some o =>
        have e := grow_block hg hb
        have ec : w'.cell? a = none := by rw [← hc]; exact World.cell?_of_block (w := w) (e.trans hb.symm)
        unfold Sem.run
        rw [ec]
        simp only
        rw [hb] at hf
        unfold World.farLoad
        rw [e]
        cases o with
        | view at_ u =>
          simp only at hf ⊢
          cases hv : w.viewLoad P at_ u a (m == .atomic) with
          | error s => rw [hv] at hf; cases hf
          | ok r' =>
            rw [hv] at hf
            cases hf
            rw [viewLoad_same hg hv]
            rfl
        | _ => cases hf

theorem Steady.getObj (r : Nat) : Steady P (getObj r) := fun w x w1 h => by
  unfold Go.getObj Sem.run at h
  cases hb : w.heap[r]? with
  | none => rw [hb] at h; cases h
  | some o =>
    rw [hb] at h
    cases o with
    | cells c t f => cases h
    | _ =>
      cases h
      exact ⟨rfl, fun w' hg => by unfold Go.getObj Sem.run; rw [grow_block hg hb]; rfl⟩

theorem Steady.underlying (t : TypeId) : Steady P (underlying t) := by
  refine Steady.bind Steady.program fun p => ?_
  split
  · exact Steady.pure _
  · exact Steady.stuck _
theorem Steady.typeInfo (t : TypeId) : Steady P (typeInfo t) := by
  refine Steady.bind Steady.program fun p => ?_
  split
  · exact Steady.pure _
  · exact Steady.stuck _
theorem Steady.sizeOf (t : TypeId) : Steady P (sizeOf t) := Steady.bind (Steady.typeInfo t) fun _ => Steady.pure _
theorem Steady.isAgg (t : TypeId) : Steady P (isAgg t) := by
  refine Steady.bind (Steady.underlying t) fun d => ?_
  split <;> exact Steady.pure _
theorem Steady.loadCellsFrom (a : Addr) : ∀ (n i : Nat) (acc : Array Value), Steady P (loadCellsFrom a i n acc)
  | 0, _, _ => Steady.pure _
  | n + 1, i, acc => Steady.bind (Steady.load _ _) fun v => Steady.loadCellsFrom a n (i + 1) (acc.push v)
theorem Steady.loadVar (t : TypeId) (a : Addr) : Steady P (loadVar t a) := by
  refine Steady.bind (Steady.isAgg t) fun b => ?_
  split
  · exact Steady.bind (Steady.sizeOf t) fun n => Steady.bind (Steady.loadCellsFrom a n 0 #[]) fun _ => Steady.pure _
  · exact Steady.load _ _
theorem Steady.sureAddr (v : Value) : Steady P (Instr.sureAddr v) := by
  unfold Instr.sureAddr
  split
  · exact Steady.pure _
  · exact Steady.stuck _
theorem Steady.loadAt (t : TypeId) (v : Value) : Steady P (Instr.loadAt t v) := Steady.bind (Steady.sureAddr v) fun a => Steady.loadVar t a
theorem Steady.extract (v : Value) (n : Nat) : Steady P (Instr.extract v n) := by
  unfold Instr.extract
  split
  · split
    · exact Steady.pure _
    · exact Steady.stuck _
  · exact Steady.stuck _
theorem Steady.asBool (v : Value) : Steady P (asBool v) := by
  unfold Go.asBool
  split
  · exact Steady.pure _
  · exact Steady.stuck _
theorem Steady.asIntOf (v : Value) : Steady P (asIntOf v) := by
  unfold Go.asIntOf
  split
  · exact Steady.pure _
  · exact Steady.unsupported _
  · exact Steady.stuck _
theorem Steady.indexAt (t : TypeId) (x i : Value) : Steady P (Instr.indexAt t x i) := by
  unfold Instr.indexAt
  refine Steady.bind (Steady.asIntOf _) fun ki => ?_
  refine Steady.bind (Steady.underlying _) fun d => ?_
  simp only
  split
  all_goals first
    | refine Steady.bind (Steady.sureAddr _) fun _ => Steady.bind (Steady.pure _) fun y => ?_
    | refine Steady.bind (Steady.pure _) fun y => ?_
    | refine Steady.bind (Steady.stuck _) fun y => ?_
  all_goals
    obtain ⟨base, len, elem⟩ := y
    refine Steady.bind (Steady.underlying _) fun d => ?_
    simp only
    repeat' split
    all_goals first
      | exact Steady.bind (Steady.sizeOf _) fun _ => Steady.pure _
      | exact Steady.unsupported _
      | exact (Dead.bounds _ _ _ _).steady
theorem Steady.len (ts : Array TypeId) (t : TypeId) (args : Array Value) : Steady P (Builtin.len_ ts t args) := by
  unfold Builtin.len_
  split
  · refine Steady.bind (Steady.underlying _) fun d => ?_
    split
    · exact Steady.pure _
    · exact Steady.pure _
    · refine Steady.bind (Steady.underlying _) fun d => ?_
      split
      · exact Steady.pure _
      · exact Steady.stuck _
    · exact Steady.pure _
    · exact Steady.pure _
    · exact Steady.pure _
    · refine Steady.bind (Steady.getObj _) fun o => ?_
      split
      · exact Steady.pure _
      · exact Steady.stuck _
    · refine Steady.bind (Steady.getObj _) fun o => ?_
      split
      · exact Steady.pure _
      · exact Steady.stuck _
    · exact Steady.stuck _
  · exact Steady.stuck _

/-- A field that has cells. -/
def fieldOk (P : Program) (s : TypeId) (i : Nat) : Bool :=
  match P.underlying s with
  | some (.struct fs) => match fs[i]? with
    | some f => match P.info? f.type with
      | some t => t.size != 0
      | none => true
    | none => true
  | _ => true
theorem Steady.bind' {α β : Type} {s : Sem α} {f : α → Sem β} (hs : Steady P s) (hf : ∀ w x, s.run P w = .ok x w → Steady P (f x)) : Steady P (s >>= f) := fun w y w1 h => by
  rw [Sem.run_bind] at h
  cases hr : s.run P w with
  | halt e w2 => rw [hr] at h; cases h
  | ok x w2 =>
    obtain ⟨rfl, hs'⟩ := hs w x w2 hr
    rw [hr] at h
    obtain ⟨rfl, hf'⟩ := hf w2 x hr w2 y w1 h
    exact ⟨rfl, fun w' hg => by rw [Sem.run_bind, hs' w' hg]; exact hf' w' hg⟩
theorem underlying_of {w : World} {t : TypeId} {d : TypeDesc} (h : (underlying t).run P w = .ok d w) : P.underlying t = some d := by
  cases hu : P.underlying t with
  | none => simp [Go.underlying, hu] at h
  | some e => simp [Go.underlying, hu] at h; rw [h]
theorem sizeOf_of {w : World} {t : TypeId} {n : Nat} (h : (sizeOf t).run P w = .ok n w) : ∃ i, P.info? t = some i ∧ i.size = n := by
  cases hu : P.info? t with
  | none => simp [Go.sizeOf, Go.typeInfo, hu] at h
  | some e => simp [Go.sizeOf, Go.typeInfo, hu] at h; exact ⟨e, rfl, h⟩
theorem Steady.fieldAt (s : TypeId) (x : Value) (i : Nat) (h : fieldOk P s i = true) : Steady P (Instr.fieldAt s x i) := by
  unfold Instr.fieldAt
  refine Steady.bind' (Steady.underlying s) fun w d hd => ?_
  have hu := underlying_of hd
  unfold fieldOk at h
  rw [hu] at h
  split
  · simp only at h
    split
    · rename_i f hf
      rw [hf] at h
      simp only at h
      refine Steady.bind (Steady.sureAddr _) fun a => Steady.bind ?_ fun _ => Steady.pure _
      refine Steady.bind' (Steady.sizeOf _) fun w n hn => ?_
      obtain ⟨t, ht, rfl⟩ := sizeOf_of hn
      rw [ht] at h
      rw [if_neg (by simpa using h)]
      exact Steady.pure _
    · exact Steady.stuck _
  · exact Steady.stuck _

/-- An operation that only looks. -/
def isReader (P : Program) (o : Oper) : Bool :=
  match o.op with
  | .move _ | .assign _ | .pick .. | .load .. | .indexAddr .. | .extract .. => true
  | .fieldAddr s _ i => fieldOk P s i
  | .unOp .not _ _ => true
  | .call c => match c.callee with
    | .builtin .len => true
    | _ => false
  | _ => false
/-- What it comes to is a value, the same in every world that has grown. -/
def Looks (P : Program) (s : Sem Next) : Prop := ∀ (w : World) (x : Next) (w1 : World), s.run P w = .ok x w1 → ∃ v, x = .value v ∧ w1 = w ∧ ∀ w', Grow w w' → s.run P w' = .ok (.value v) w'
theorem Looks.by {α : Type} {s : Sem α} (h : Steady P s) (g : α → Value) : Looks P (do Pure.pure (Next.value (g (← s)))) := fun w x w1 hr => by
  rw [Sem.run_bind] at hr
  cases hs : s.run P w with
  | halt e w2 => rw [hs] at hr; cases hr
  | ok v w2 =>
    obtain ⟨rfl, hs'⟩ := h w v w2 hs
    rw [hs] at hr
    have e : Result.ok (Next.value (g v)) w2 = Result.ok x w1 := hr
    cases e
    exact ⟨g v, rfl, rfl, fun w' hg => by rw [Sem.run_bind, hs' w' hg]; rfl⟩
theorem Looks.of {s : Sem Value} (h : Steady P s) : Looks P (do Pure.pure (Next.value (← s))) := Looks.by h fun v => v
theorem Looks.pure (v : Value) : Looks P (Pure.pure (Next.value v)) := fun w x w1 hr => by
  have e : Result.ok (Next.value v) w = Result.ok x w1 := hr
  cases e
  exact ⟨v, rfl, rfl, fun w' _ => rfl⟩
theorem isReader_looks {o : Oper} (h : isReader P o = true) (ρ : Operand → Value) : Looks P (execOp ρ o) := by
  obtain ⟨dst, op, type, pos, after, guard⟩ := o
  cases op
  case move x => exact Looks.pure _
  case assign x => exact Looks.pure _
  case pick c a b => exact Looks.by (Steady.asBool (ρ c)) fun t => if t then ρ a else ρ b
  case load t a => exact Looks.of (Steady.loadAt _ _)
  case indexAddr t x i => exact Looks.of (Steady.indexAt _ _ _)
  case extract t i => exact Looks.of (Steady.extract _ _)
  case fieldAddr s x i => exact Looks.of (Steady.fieldAt _ _ _ h)
  case unOp u t x =>
    cases u with
    | not =>
      refine Looks.of ?_
      unfold Op.unary
      split
      all_goals first
        | exact Steady.pure _
        | exact Steady.unsupported _
        | exact Steady.stuck _
        | (rename_i hh; cases hh)
    | _ => cases h
  case call c =>
    obtain ⟨callee, args, argTypes⟩ := c
    cases callee with
    | builtin b =>
      cases b with
      | len => exact Looks.of (Steady.len _ _ _)
      | _ => cases h
    | _ => cases h
  all_goals cases h

variable {ops : Array Oper} {Q : Exit → Act → World → Prop}

/-- In which order a region is walked: which operation, and whether it comes up alone. -/
def planOk (P : Program) (md : Region.Mode) (ops : Array Oper) : List (Nat × Bool) → Array Bool → Bool
  | [], listed => (Region.ready md ops listed).isEmpty
  | (i, true) :: rest, listed => (Region.ready md ops listed == [i]) && planOk P md ops rest (listed.setIfInBounds i true)
  | (i, false) :: rest, listed => ((ops[i]?).map (isReader P)).getD false && Region.free md ops listed i && (Region.ready md ops listed).contains i && planOk P md ops rest (listed.setIfInBounds i true)
/-- The walk by a plan (w0: the world in which its part began). -/
def wpPlan (P : Program) (ops : Array Oper) (Q : Exit → Act → World → Prop) : List (Nat × Bool) → World → Act → World → Prop
  | [], _, a, w => Q .normal a w
  | (i, true) :: rest, w0, a, w => wpOp P ops Q i (fun a' w' => Grow w0 w' ∧ wpPlan P ops Q rest w' a' w') a w
  | (i, false) :: rest, w0, a, w => wpOp P ops Q i (wpPlan P ops Q rest w0) a w
theorem held_plan (hs : Region.noSelect ops = true) (hp : ∀ c a w, ¬ Q (.panic c) a w) (ho : ¬ LetsOut Q) {md : Region.Mode} : ∀ (plan : List (Nat × Bool)) (listed : Array Bool) (a : Act) (w : World),
    planOk P md ops plan listed = true → wpPlan P ops Q plan w a w → wpAnyH P md ops Q (Grow w) plan.length listed a w
  | [], listed, a, w, hk, h => wpAnyH_done (by simpa [planOk] using hk) h _
  | (i, true) :: rest, listed, a, w, hk, h => by
    simp only [planOk, Bool.and_eq_true, beq_iff_eq] at hk
    refine wpAnyH_all hk.1 (by simp) fun j hj => ?_
    obtain rfl : j = i := by simpa using hj
    exact wpOp_mono (fun a' w' h' => ⟨h'.1, wpAnyH_weaken (fun x hx => h'.1.trans hx) _ _ _ _ (held_plan hs hp ho rest _ a' w' hk.2 h'.2)⟩) h
  | (i, false) :: rest, listed, a, w, hk, h => by
    simp only [planOk, Bool.and_eq_true] at hk
    obtain ⟨⟨⟨h1, h2⟩, h3⟩, h4⟩ := hk
    cases hi : ops[i]? with
    | none => rw [hi] at h1; cases h1
    | some o =>
      rw [hi] at h1
      simp only [Option.map_some, Option.getD_some] at h1
      simp only [wpPlan, wpOp, hi] at h
      have hQ : ∀ v c a w, Q (.panic c) (a.put o.dst v) w → Q (.panic c) a w := fun v c a w h => (hp _ _ _ h).elim
      split at h
      · rename_i hw
        rcases h with h | ⟨_, hl⟩
        · unfold Oper.wp at h
          have hlook := isReader_looks h1 a.eval w
          cases hr : (execOp a.eval o).run P w with
          | halt e w1 =>
            rw [hr] at h
            cases e <;> first | exact h.elim | exact (hp _ _ _ h).elim
          | ok x w1 =>
            obtain ⟨v, rfl, rfl, hv⟩ := hlook x w1 hr
            rw [hr] at h
            exact wpAnyH_take hi hs h2 h3 (hQ v) (Or.inl ⟨hw, hv⟩) (Grow.refl _) (held_plan hs hp ho rest _ _ _ h4 h)
        · exact (ho hl).elim
      · rename_i hw
        exact wpAnyH_take hi hs h2 h3 (hQ undef) (Or.inr ⟨by simpa using hw, rfl⟩) (Grow.refl _) (held_plan hs hp ho rest _ _ _ h4 h)

/-- Q, but no way out by a panic, or by want of room. -/
def Sure (Q : Exit → Act → World → Prop) : Exit → Act → World → Prop
  | .panic _, _, _ => False
  | .outgrown, _, _ => False
  | e, a, w => Q e a w
theorem Sure.imp : ∀ (e : Exit) (a : Act) (w : World), Sure Q e a w → Q e a w := fun e a w h => by
  cases e <;> first | exact h | exact (h : False).elim
def consHead (o : Oper) : List (List Oper) → List (List Oper)
  | [] => [[o]]
  | s :: t => (o :: s) :: t
/-- The operations of a plan, cut behind each one that comes up alone. -/
def segs (ops : Array Oper) : List (Nat × Bool) → List (List Oper)
  | [] => [[]]
  | (i, b) :: rest =>
    match ops[i]? with
    | none => if b then [] :: segs ops rest else segs ops rest
    | some o => if b then [o] :: segs ops rest else consHead o (segs ops rest)
/-- The walk, part by part. -/
def wpSegs (P : Program) (ops : Array Oper) (Q : Exit → Act → World → Prop) : List (List Oper) → Act → World → Prop
  | [], a, w => Q .normal a w
  | seg :: rest, a, w => wpList P ops (Exit.then (fun a' w' => Grow w w' ∧ wpSegs P ops Q rest a' w') Q) seg a w
theorem wp_then {o : Oper} {a : Act} {w : World} {X K : Act → World → Prop} (h : o.wp P a w X (Exit.then K Q)) : o.wp P a w X Q := by
  unfold Oper.wp at *
  generalize (execOp a.eval o).run P w = r at *
  cases r with
  | ok n w' =>
    cases n <;> simp only [Oper.upon] at h ⊢ <;>
      first
        | exact h
        | exact Calls.mono h (fun e w'' he => by cases e <;> exact he)
  | halt x w' => cases x <;> exact h
theorem segs_ne : ∀ (plan : List (Nat × Bool)), ∃ s t, segs ops plan = s :: t
  | [] => ⟨[], [], rfl⟩
  | (i, b) :: rest => by
    obtain ⟨s, t, h⟩ := segs_ne rest
    unfold segs
    split
    · split
      · exact ⟨_, _, rfl⟩
      · exact ⟨s, t, h⟩
    · split
      · exact ⟨_, _, rfl⟩
      · rw [h]; exact ⟨_, _, rfl⟩
theorem plan_segs : ∀ (plan : List (Nat × Bool)) (w0 : World) (a : Act) (w : World) (s : List Oper) (t : List (List Oper)), segs ops plan = s :: t →
    wpList P ops (Exit.then (fun a' w' => Grow w0 w' ∧ wpSegs P ops Q t a' w') Q) s a w → wpPlan P ops Q plan w0 a w
  | [], w0, a, w, s, t, hs, h => by
    cases hs
    exact h.2
  | (i, b) :: rest, w0, a, w, s, t, hs, h => by
    obtain ⟨s', t', hr⟩ := segs_ne (ops := ops) rest
    unfold segs at hs
    cases hi : ops[i]? with
    | none =>
      rw [hi] at hs
      cases b with
      | true =>
        simp only [if_true] at hs
        cases hs
        simp only [wpPlan, wpOp, hi]
        refine ⟨h.1, ?_⟩
        have h2 := h.2
        rw [hr] at h2
        exact plan_segs rest w a w s' t' hr h2
      | false =>
        simp only [Bool.false_eq_true, if_false] at hs
        simp only [wpPlan, wpOp, hi]
        exact plan_segs rest w0 a w s t hs h
    | some o =>
      rw [hi] at hs
      cases b with
      | true =>
        simp only [if_true] at hs
        cases hs
        simp only [wpPlan, wpOp, hi]
        simp only [wpList] at h
        split at h
        · rename_i hw
          rw [if_pos hw]
          refine h.imp (fun h => wp_then (Oper.wp_mono (fun a' w' h' => ⟨h'.1, ?_⟩) h)) id
          have h2 := h'.2
          rw [hr] at h2
          exact plan_segs rest w' a' w' s' t' hr h2
        · rename_i hw
          rw [if_neg hw]
          refine ⟨h.1, ?_⟩
          have h2 := h.2
          rw [hr] at h2
          exact plan_segs rest w _ w s' t' hr h2
      | false =>
        simp only [Bool.false_eq_true, if_false] at hs
        rw [hr] at hs
        cases hs
        simp only [wpPlan, wpOp, hi]
        simp only [wpList] at h
        split at h
        · rename_i hw
          rw [if_pos hw]
          exact h.imp (fun h => wp_then (Oper.wp_mono (fun a' w' h' => plan_segs rest w0 a' w' s' _ hr h') h)) id
        · rename_i hw
          rw [if_neg hw]
          exact plan_segs rest w0 _ w s' _ hr h

/-- A region that leaves its order open, walked once, by a plan. -/
theorem wp_region_plan {id : Nat} {a : Act} {w : World} (plan : List (Nat × Bool)) (hm : P.follows .mixedOrders = true) (hs : Region.noSelect ops = true) (hl : plan.length = ops.size)
    (hk : planOk P .any ops plan (Array.replicate ops.size false) = true) (h : wpSegs P ops (Sure Q) (segs ops plan) a w.drew) : (Code.region id ops true).wp P Q a w := by
  refine Code.wp_mono Sure.imp (wp_region_held (S := Grow w.drew) hm ?_)
  rw [← hl]
  obtain ⟨s, t, e⟩ := segs_ne (ops := ops) plan
  rw [e] at h
  refine held_plan hs (fun _ _ _ h => h) (fun ⟨_, _, h⟩ => h) plan _ a w.drew ?_ (plan_segs plan _ a _ s t e h)
  rw [hl]
  exact hk
/-- One part of the walk. -/
theorem segs_step {seg : List Oper} {rest : List (List Oper)} {a : Act} {w : World}
    (h : ∀ K : Act → World → Prop, Hid (∀ a' w', Grow w w' → wpSegs P ops Q rest a' w' → K a' w') → wpList P ops (Exit.then K Q) seg a w) : wpSegs P ops Q (seg :: rest) a w :=
  h _ fun _ _ hg h' => ⟨hg, h'⟩
theorem segs_done {a : Act} {w : World} (h : Q .normal a w) : wpSegs P ops (Sure Q) [] a w := h
end

section
variable {P : Program} {ops : Array Oper} {Q : Exit → Act → World → Prop}

theorem looks_run {s : Sem Next} {v : Value} (h : ∀ w, s.run P w = .ok (.value v) w) : Looks P s := fun w x w1 hr => by
  rw [h w] at hr
  cases hr
  exact ⟨v, rfl, rfl, fun w' _ => h w'⟩

/-- Whatever order is picked, S holds behind every operation, till number c has come up. -/
def wpAnyC (P : Program) (md : Region.Mode) (ops : Array Oper) (Q : Exit → Act → World → Prop) (S : World → Prop) (c : Nat) : Nat → Array Bool → Act → World → Prop
  | 0, listed, a, w => Region.ready md ops listed = [] ∧ Q .normal a w
  | fuel + 1, listed, a, w => (Region.ready md ops listed = [] → Q .normal a w) ∧
      ∀ i ∈ Region.ready md ops listed, wpOp P ops Q i (fun a' w' => (i = c ∧ wpAny P md ops Q fuel (listed.setIfInBounds i true) a' w') ∨ (i ≠ c ∧ S w' ∧ wpAnyC P md ops Q S c fuel (listed.setIfInBounds i true) a' w')) a w
theorem wpAny_of_C {md : Region.Mode} {S : World → Prop} {c : Nat} : ∀ (fuel : Nat) (listed : Array Bool) (a : Act) (w : World), wpAnyC P md ops Q S c fuel listed a w → wpAny P md ops Q fuel listed a w
  | 0, _, _, _, h => h
  | fuel + 1, _, _, _, h => ⟨h.1, fun i hi => wpOp_mono (fun a' w' h' => h'.elim (fun h => h.2) (fun h => wpAny_of_C fuel _ a' w' h.2.2)) (h.2 i hi)⟩
theorem wpAnyC_weaken {md : Region.Mode} {S S' : World → Prop} {c : Nat} (hS : ∀ w, S w → S' w) : ∀ (fuel : Nat) (listed : Array Bool) (a : Act) (w : World), wpAnyC P md ops Q S c fuel listed a w → wpAnyC P md ops Q S' c fuel listed a w
  | 0, _, _, _, h => h
  | fuel + 1, _, _, _, h => ⟨h.1, fun i hi => wpOp_mono (fun a' w' h' => h'.imp id (fun h => ⟨h.1, hS _ h.2.1, wpAnyC_weaken hS fuel _ a' w' h.2.2⟩)) (h.2 i hi)⟩
theorem wpAnyC_done {md : Region.Mode} {S : World → Prop} {c : Nat} {listed : Array Bool} {a : Act} {w : World} (hr : Region.ready md ops listed = []) (h : Q .normal a w) : ∀ fuel, wpAnyC P md ops Q S c fuel listed a w
  | 0 => ⟨hr, h⟩
  | _ + 1 => ⟨fun _ => h, by rw [hr]; simp⟩

/-- All of W wait for number i. -/
def Blocks (md : Region.Mode) (ops : Array Oper) (i : Nat) (W : List Nat) : Prop := ∀ x ∈ W, ∃ o, ops[x]? = some o ∧ ∃ e ∈ o.after, Region.binds md e = true ∧ (e.on = i ∨ e.on ∈ W)
def waiters (md : Region.Mode) (ops : Array Oper) (i : Nat) : List Nat → List Nat
  | [] => []
  | j :: js => if ((ops[j]?).map fun o => o.after.any fun e => Region.binds md e && (e.on == i || (waiters md ops i js).contains e.on)).getD false then j :: waiters md ops i js else waiters md ops i js
theorem waiters_blocks (md : Region.Mode) (ops : Array Oper) (i : Nat) : ∀ js, Blocks md ops i (waiters md ops i js)
  | [] => fun x hx => by cases hx
  | j :: js => by
    have ih := waiters_blocks md ops i js
    unfold waiters
    split
    · rename_i h
      intro x hx
      rcases List.mem_cons.1 hx with rfl | hx
      · cases ho : ops[x]? with
        | none => rw [ho] at h; cases h
        | some o =>
          rw [ho] at h
          simp only [Option.map_some, Option.getD_some, Array.any_eq_true'] at h
          obtain ⟨e, he, h⟩ := h
          simp only [Bool.and_eq_true, Bool.or_eq_true, beq_iff_eq, List.contains_iff_mem] at h
          exact ⟨o, rfl, e, he, h.1, h.2.imp id fun h => List.mem_cons_of_mem _ h⟩
      · obtain ⟨o, ho, e, he, hb, h⟩ := ih x hx
        exact ⟨o, ho, e, he, hb, h.imp id fun h => List.mem_cons_of_mem _ h⟩
    · exact ih
/-- Number c can't come up while i has not. -/
def barred (md : Region.Mode) (ops : Array Oper) (listed : Array Bool) (i c : Nat) : Bool :=
  decide (ops.size ≤ c) || ((waiters md ops i (List.range ops.size).reverse).contains c && (waiters md ops i (List.range ops.size).reverse).all fun x => listed.getD x true == false)
theorem not_ready {md : Region.Mode} {i : Nat} {W : List Nat} {listed : Array Bool} (hb : Blocks md ops i W) (hi : listed.getD i true = false) (hW : ∀ x ∈ W, listed.getD x true = false) {x : Nat} (hx : x ∈ W) : x ∉ Region.ready md ops listed := by
  intro hr
  obtain ⟨_, o, ho, hall⟩ := mem_ready.1 hr
  obtain ⟨o', ho', e, he, hbi, h⟩ := hb x hx
  rw [ho] at ho'
  cases ho'
  have h1 := hall e he hbi
  have h0 : listed.getD e.on true = false := by
    rcases h with h | h
    · rw [h]; exact hi
    · exact hW _ h
  rcases Nat.lt_or_ge e.on listed.size with h' | h'
  · simp [h'] at h0 h1; rw [h0] at h1; cases h1
  · simp [Array.getElem?_eq_none h'] at h1
theorem wpAnyC_first {md : Region.Mode} {S : World → Prop} {c i : Nat} {oi : Oper} {v : Value} {W : List Nat} (hi : ops[i]? = some oi) (hsel : ∀ (j : Nat) (o : Oper) cs b, ops[j]? = some o → o.op ≠ .select cs b)
    (hQ : ∀ c a w, Q (.panic c) (a.put oi.dst v) w → Q (.panic c) a w) (hb : Blocks md ops i W) (hic : i ≠ c) (hc : ops.size ≤ c ∨ c ∈ W) :
    ∀ (fuel : Nat) (listed : Array Bool) (a : Act) (w : World),
      (∀ j oj, ops[j]? = some oj → j ≠ i → listed.getD j true = false → (∀ e ∈ oj.after, Region.binds md e = true → e.on ≠ i) → oi.apart ops oj = true) → (∀ x ∈ W, listed.getD x true = false) →
      i ∈ Region.ready md ops listed → YieldsIf P ops S oi v a → S w →
      wpAnyC P md ops Q S c fuel (listed.setIfInBounds i true) (a.put oi.dst v) w → wpAnyC P md ops Q S c (fuel + 1) listed a w := by
  intro fuel
  induction fuel with
  | zero =>
    intro listed a w _ _ hr hy hS H
    refine ⟨fun h => (by rw [h] at hr; cases hr), fun j hj => ?_⟩
    by_cases hji : j = i
    · subst hji; exact hy.wpOp hi hS (.inr ⟨hic, hS, H⟩)
    · have := ready_mono hj hji
      rw [H.1] at this
      cases this
  | succ fuel ih =>
    intro listed a w hfree hW hr hy hS H
    refine ⟨fun h => (by rw [h] at hr; cases hr), fun j hj => ?_⟩
    by_cases hji : j = i
    · subst hji; exact hy.wpOp hi hS (.inr ⟨hic, hS, H⟩)
    · have h1 := H.2 j (ready_mono hj hji)
      have hiun := (mem_ready.1 hr).1
      have hjW : j ∉ W := fun h => not_ready hb hiun hW h hj
      obtain ⟨hjun, oj, hoj, hall⟩ := mem_ready.1 hj
      have hjc : j ≠ c := by
        rcases hc with hc | hc
        · have : j < ops.size := (Array.getElem?_eq_some_iff.1 hoj).1
          omega
        · intro h; exact hjW (h ▸ hc)
      have hnot : ∀ e ∈ oj.after, Region.binds md e = true → e.on ≠ i := fun e he hb heq => by
        have h1 := hall e he hb
        have h0 := hiun
        rw [heq] at h1
        rcases Nat.lt_or_ge i listed.size with h' | h'
        · simp [h'] at h0 h1; rw [h0] at h1; cases h1
        · simp [Array.getElem?_eq_none h'] at h1
      have h2 := wpOp_putIf hoj (hfree j oj hoj hji hjun hnot) (fun cs b => hsel i oi cs b hi) (fun cs b => hsel j oj cs b hoj) hQ hy h1
      have hfree' : ∀ k ok, ops[k]? = some ok → k ≠ i → (listed.setIfInBounds j true).getD k true = false →
          (∀ e ∈ ok.after, Region.binds md e = true → e.on ≠ i) → oi.apart ops ok = true := fun k ok hk hki hun hno => by
        refine hfree k ok hk hki ?_ hno
        by_cases hjk : j = k
        · subst hjk; exact hjun
        · rw [getD_set_ne true hjk] at hun; exact hun
      have hW' : ∀ x ∈ W, (listed.setIfInBounds j true).getD x true = false := fun x hx => by
        have hjx : j ≠ x := by intro h; subst h; exact hjW hx
        rw [getD_set_ne true hjx]
        exact hW x hx
      refine wpOp_mono (fun a' w' h3 => ?_) h2
      rcases h3.2 with h4 | h4
      · exact absurd h4.1 hjc
      · refine .inr ⟨hjc, h4.2.1, ih (listed.setIfInBounds j true) a' w' hfree' hW' (ready_mono hr (Ne.symm hji)) h3.1 h4.2.1 ?_⟩
        rw [Array.setIfInBounds_comm _ _ hji]
        exact h4.2.2
theorem wpAnyC_take {md : Region.Mode} {S : World → Prop} {c i : Nat} {oi : Oper} {v : Value} {fuel : Nat} {listed : Array Bool} {a : Act} {w : World} (hi : ops[i]? = some oi)
    (hs : Region.noSelect ops = true) (hf : Region.free md ops listed i = true) (hr : (Region.ready md ops listed).contains i = true) (hic : i ≠ c) (hb : barred md ops listed i c = true)
    (hQ : ∀ c a w, Q (.panic c) (a.put oi.dst v) w → Q (.panic c) a w) (hy : YieldsIf P ops S oi v a) (hS : S w)
    (h : wpAnyC P md ops Q S c fuel (listed.setIfInBounds i true) (a.put oi.dst v) w) : wpAnyC P md ops Q S c (fuel + 1) listed a w := by
  unfold barred at hb
  simp only [Bool.or_eq_true, decide_eq_true_eq, Bool.and_eq_true, List.contains_iff_mem, List.all_eq_true, beq_iff_eq] at hb
  have hB := waiters_blocks md ops i (List.range ops.size).reverse
  generalize waiters md ops i (List.range ops.size).reverse = W at *
  rcases hb with hb | hb
  · exact wpAnyC_first (W := []) hi (Region.noSelect_spec hs) hQ (fun x hx => by cases hx) hic (.inl hb) fuel listed a w (Region.free_spec hi hf) (fun x hx => by cases hx) (by simpa using hr) hy hS h
  · exact wpAnyC_first (W := W) hi (Region.noSelect_spec hs) hQ hB hic (.inr hb.1) fuel listed a w (Region.free_spec hi hf) hb.2 (by simpa using hr) hy hS h

/-- The order: 0: it only looks; 1: it comes up alone, and the world grows; 2: it only reckons; 3: it comes up alone, and may change what was there. -/
def nextCut (n : Nat) : List (Nat × Nat) → Nat
  | [] => n
  | (i, 3) :: _ => i
  | _ :: rest => nextCut n rest
def pathOk (P : Program) (md : Region.Mode) (ops : Array Oper) : List (Nat × Nat) → Array Bool → Bool
  | [], listed => (Region.ready md ops listed).isEmpty
  | (i, 0) :: rest, listed => ((ops[i]?).map (isReader P)).getD false && Region.free md ops listed i && (Region.ready md ops listed).contains i && (i != nextCut ops.size rest) && barred md ops listed i (nextCut ops.size rest) && pathOk P md ops rest (listed.setIfInBounds i true)
  | (i, 1) :: rest, listed => (Region.ready md ops listed == [i]) && (i != nextCut ops.size rest) && pathOk P md ops rest (listed.setIfInBounds i true)
  | (i, 3) :: rest, listed => (Region.ready md ops listed == [i]) && pathOk P md ops rest (listed.setIfInBounds i true)
  | (i, _) :: rest, listed => (ops[i]?).isSome && Region.free md ops listed i && (Region.ready md ops listed).contains i && (i != nextCut ops.size rest) && barred md ops listed i (nextCut ops.size rest) && pathOk P md ops rest (listed.setIfInBounds i true)
def wpPath (P : Program) (ops : Array Oper) (Q : Exit → Act → World → Prop) : List (Nat × Nat) → World → Act → World → Prop
  | [], _, a, w => Q .normal a w
  | (i, 0) :: rest, w0, a, w => wpOp P ops Q i (wpPath P ops Q rest w0) a w
  | (i, 1) :: rest, w0, a, w => wpOp P ops Q i (fun a' w' => Grow w0 w' ∧ wpPath P ops Q rest w' a' w') a w
  | (i, 3) :: rest, _, a, w => wpOp P ops Q i (fun a' w' => wpPath P ops Q rest w' a' w') a w
  | (i, _) :: rest, w0, a, w => (∀ o, ops[i]? = some o → Region.wanted o (yielded ops a.tmps) = true → Looks P (execOp a.eval o)) ∧ wpOp P ops Q i (wpPath P ops Q rest w0) a w
theorem path_take {md : Region.Mode} (hs : Region.noSelect ops = true) (hp : ∀ c a w, ¬ Q (.panic c) a w) (ho : ¬ LetsOut Q) {i c n : Nat} {o : Oper} {listed : Array Bool} {a : Act} {w : World} {K : Act → World → Prop} (hi : ops[i]? = some o)
    (hlk : Region.wanted o (yielded ops a.tmps) = true → Looks P (execOp a.eval o)) (h2 : Region.free md ops listed i = true) (h3 : (Region.ready md ops listed).contains i = true) (hic : i ≠ c) (hb : barred md ops listed i c = true)
    (hK : ∀ a', K a' w → wpAnyC P md ops Q (Grow w) c n (listed.setIfInBounds i true) a' w) (h : wpOp P ops Q i K a w) : wpAnyC P md ops Q (Grow w) c (n + 1) listed a w := by
  have hQ : ∀ v c a w, Q (.panic c) (a.put o.dst v) w → Q (.panic c) a w := fun v c a w h => (hp _ _ _ h).elim
  simp only [wpOp, hi] at h
  split at h
  · rename_i hw
    rcases h with h | ⟨_, hl⟩
    · unfold Oper.wp at h
      have hlook := hlk hw w
      cases hr : (execOp a.eval o).run P w with
      | halt e w1 =>
        rw [hr] at h
        cases e <;> first | exact h.elim | exact (hp _ _ _ h).elim
      | ok x w1 =>
        obtain ⟨v, rfl, rfl, hv⟩ := hlook x w1 hr
        rw [hr] at h
        exact wpAnyC_take hi hs h2 h3 hic hb (hQ v) (Or.inl ⟨hw, hv⟩) (Grow.refl _) (hK _ h)
    · exact (ho hl).elim
  · rename_i hw
    exact wpAnyC_take hi hs h2 h3 hic hb (hQ undef) (Or.inr ⟨by simpa using hw, rfl⟩) (Grow.refl _) (hK _ h)
theorem held_path (hs : Region.noSelect ops = true) (hp : ∀ c a w, ¬ Q (.panic c) a w) (ho : ¬ LetsOut Q) {md : Region.Mode} : ∀ (path : List (Nat × Nat)) (listed : Array Bool) (a : Act) (w : World),
    pathOk P md ops path listed = true → wpPath P ops Q path w a w → wpAnyC P md ops Q (Grow w) (nextCut ops.size path) path.length listed a w
  | [], listed, a, w, hk, h => wpAnyC_done (by simpa [pathOk] using hk) h _
  | (i, 0) :: rest, listed, a, w, hk, h => by
    simp only [pathOk, Bool.and_eq_true, bne_iff_ne] at hk
    obtain ⟨⟨⟨⟨⟨h1, h2⟩, h3⟩, hic⟩, hb⟩, h4⟩ := hk
    cases hi : ops[i]? with
    | none => rw [hi] at h1; cases h1
    | some o =>
      rw [hi] at h1
      simp only [Option.map_some, Option.getD_some] at h1
      exact path_take hs hp ho hi (fun _ => isReader_looks h1 a.eval) h2 h3 hic hb (fun a' h' => held_path hs hp ho rest _ a' w h4 h') h
  | (i, 1) :: rest, listed, a, w, hk, h => by
    simp only [pathOk, Bool.and_eq_true, beq_iff_eq, bne_iff_ne] at hk
    refine ⟨fun h0 => (by rw [hk.1.1] at h0; cases h0), fun j hj => ?_⟩
    rw [hk.1.1] at hj
    obtain rfl : j = i := by simpa using hj
    exact wpOp_mono (fun a' w' h' => .inr ⟨hk.1.2, h'.1, wpAnyC_weaken (fun x hx => h'.1.trans hx) _ _ _ _ (held_path hs hp ho rest _ a' w' hk.2 h'.2)⟩) h
  | (i, 2) :: rest, listed, a, w, hk, h => by
    simp only [pathOk, Bool.and_eq_true, bne_iff_ne] at hk
    obtain ⟨⟨⟨⟨⟨h1, h2⟩, h3⟩, hic⟩, hb⟩, h4⟩ := hk
    cases hi : ops[i]? with
    | none => rw [hi] at h1; cases h1
    | some o => exact path_take hs hp ho hi (h.1 o hi) h2 h3 hic hb (fun a' h' => held_path hs hp ho rest _ a' w h4 h') h.2
  | (i, 3) :: rest, listed, a, w, hk, h => by
    simp only [pathOk, Bool.and_eq_true, beq_iff_eq] at hk
    refine ⟨fun h0 => (by rw [hk.1] at h0; cases h0), fun j hj => ?_⟩
    rw [hk.1] at hj
    obtain rfl : j = i := by simpa using hj
    exact wpOp_mono (fun a' w' h' => .inl ⟨rfl, wpAny_of_C _ _ _ _ (held_path hs hp ho rest _ a' w' hk.2 h')⟩) h
  | (i, k + 4) :: rest, listed, a, w, hk, h => by
    simp only [pathOk, Bool.and_eq_true, bne_iff_ne] at hk
    obtain ⟨⟨⟨⟨⟨h1, h2⟩, h3⟩, hic⟩, hb⟩, h4⟩ := hk
    cases hi : ops[i]? with
    | none => rw [hi] at h1; cases h1
    | some o => exact path_take hs hp ho hi (h.1 o hi) h2 h3 hic hb (fun a' h' => held_path hs hp ho rest _ a' w h4 h') h.2
theorem path_from {w0 w1 : World} (hg : Grow w0 w1) : ∀ (path : List (Nat × Nat)) (a : Act) (w : World), wpPath P ops Q path w1 a w → wpPath P ops Q path w0 a w
  | [], _, _, h => h
  | (_, 0) :: rest, _, _, h => wpOp_mono (fun a' w' h' => path_from hg rest a' w' h') h
  | (_, 1) :: _, _, _, h => wpOp_mono (fun _ _ h' => ⟨hg.trans h'.1, h'.2⟩) h
  | (_, 2) :: rest, _, _, h => ⟨h.1, wpOp_mono (fun a' w' h' => path_from hg rest a' w' h') h.2⟩
  | (_, 3) :: _, _, _, h => h
  | (_, _ + 4) :: rest, _, _, h => ⟨h.1, wpOp_mono (fun a' w' h' => path_from hg rest a' w' h') h.2⟩

/-- The parts of a path: each begins with what only reckons, or ends with what comes up alone. -/
abbrev Part := Option Oper × Bool × List Oper
def headed (o : Oper) : List Part → List Part
  | (none, b, s) :: t => (none, b, o :: s) :: t
  | t => (none, false, [o]) :: t
def headed2 (o : Oper) : List Part → List Part
  | (none, b, s) :: t => (some o, b, o :: s) :: t
  | t => (some o, false, [o]) :: t
def parts (ops : Array Oper) : List (Nat × Nat) → List Part
  | [] => [(none, false, [])]
  | (i, k) :: rest =>
    match ops[i]?, k with
    | none, _ => parts ops rest
    | some o, 0 => headed o (parts ops rest)
    | some o, 1 => (none, false, [o]) :: parts ops rest
    | some o, 3 => (none, true, [o]) :: parts ops rest
    | some o, _ => headed2 o (parts ops rest)
/-- The walk, part by part. -/
def wpParts (P : Program) (ops : Array Oper) (Q : Exit → Act → World → Prop) : List Part → Act → World → Prop
  | [], a, w => Q .normal a w
  | (p, b, s) :: t, a, w => (∀ o, p = some o → Region.wanted o (yielded ops a.tmps) = true → Looks P (execOp a.eval o)) ∧ wpList P ops (Exit.then (fun a' w' => (b = false → Grow w w') ∧ wpParts P ops Q t a' w') Q) s a w
/-- One part, in a world that has grown since its beginning. -/
theorem parts_list {o : Oper} {a : Act} {w : World} {X K : Act → World → Prop} {rest : List Oper} (hX : ∀ a' w', wpList P ops (Exit.then K Q) rest a' w' → X a' w') (h : wpList P ops (Exit.then K Q) (o :: rest) a w) {i : Nat} (hi : ops[i]? = some o) : wpOp P ops Q i X a w := by
  simp only [wpList] at h
  unfold wpOp
  simp only [hi]
  split at h
  · rename_i hw
    rw [if_pos hw]
    exact h.imp (fun h => wp_then (Oper.wp_mono hX h)) id
  · rename_i hw
    rw [if_neg hw]
    exact hX _ _ h
theorem parts_ne : ∀ (path : List (Nat × Nat)), ∃ p b s t, parts ops path = (p, b, s) :: t
  | [] => ⟨none, false, [], [], rfl⟩
  | (i, k) :: rest => by
    obtain ⟨p, b, s, t, h⟩ := parts_ne rest
    unfold parts
    split
    · exact ⟨p, b, s, t, h⟩
    · rw [h]; cases p <;> exact ⟨_, _, _, _, rfl⟩
    · exact ⟨_, _, _, _, rfl⟩
    · exact ⟨_, _, _, _, rfl⟩
    · rw [h]; cases p <;> exact ⟨_, _, _, _, rfl⟩
theorem path_parts : ∀ (path : List (Nat × Nat)), (∀ x ∈ path, ∃ o, ops[x.1]? = some o) → ∀ (w0 : World) (a : Act) (w : World) (p : Option Oper) (b : Bool) (s : List Oper) (t : List Part), parts ops path = (p, b, s) :: t →
    (∀ o, p = some o → Region.wanted o (yielded ops a.tmps) = true → Looks P (execOp a.eval o)) → wpList P ops (Exit.then (fun a' w' => (b = false → Grow w0 w') ∧ wpParts P ops Q t a' w') Q) s a w → wpPath P ops Q path w0 a w
  | [], _, w0, a, w, p, b, s, t, hs, _, h => by
    cases hs
    exact h.2
  | (i, k) :: rest, hb, w0, a, w, p, b, s, t, hs, hl, h => by
    have hb' : ∀ x ∈ rest, ∃ o, ops[x.1]? = some o := fun x hx => hb x (List.mem_cons_of_mem _ hx)
    obtain ⟨o, hi⟩ := hb (i, k) (List.mem_cons_self ..)
    simp only at hi
    obtain ⟨p', b', s', t', hr⟩ := parts_ne (ops := ops) rest
    have at' : ∀ a' w', wpParts P ops Q (parts ops rest) a' w' → wpPath P ops Q rest w' a' w' := fun a' w' h2 => by
      rw [hr] at h2
      exact path_parts rest hb' w' a' w' p' b' s' t' hr h2.1 h2.2
    have next : ∀ a' w', ((false = false → Grow w0 w') ∧ wpParts P ops Q (parts ops rest) a' w') → wpPath P ops Q rest w0 a' w' := fun a' w' h' => path_from (h'.1 rfl) rest a' w' (at' a' w' h'.2)
    have reckon : headed2 o (parts ops rest) = (p, b, s) :: t → (∀ o', ops[i]? = some o' → Region.wanted o' (yielded ops a.tmps) = true → Looks P (execOp a.eval o')) ∧ wpOp P ops Q i (wpPath P ops Q rest w0) a w := fun hs => by
      rw [hr] at hs
      cases p' with
      | none =>
        simp only [headed2] at hs
        cases hs
        refine ⟨fun o' ho' hw' => ?_, parts_list (fun a' w' h' => path_parts rest hb' w0 a' w' none _ s' _ hr (fun o e => by cases e) h') h hi⟩
        rw [hi] at ho'
        cases ho'
        exact hl o rfl hw'
      | some q =>
        simp only [headed2] at hs
        rw [← hr] at hs
        cases hs
        refine ⟨fun o' ho' hw' => ?_, parts_list ?_ h hi⟩
        rotate_left
        · intro a' w' h'
          exact next a' w' h'
        rw [hi] at ho'
        cases ho'
        exact hl o rfl hw'
    unfold parts at hs
    rw [hi] at hs
    match k with
    | 0 =>
      simp only at hs
      rw [hr] at hs
      cases p' with
      | none =>
        simp only [headed] at hs
        cases hs
        exact parts_list (fun a' w' h' => path_parts rest hb' w0 a' w' none _ s' _ hr (fun o e => by cases e) h') h hi
      | some q =>
        simp only [headed] at hs
        rw [← hr] at hs
        cases hs
        refine parts_list ?_ h hi
        intro a' w' h'
        exact next a' w' h'
    | 1 =>
      simp only at hs
      cases hs
      exact parts_list (fun a' w' h' => ⟨h'.1 rfl, at' a' w' h'.2⟩) h hi
    | 2 => exact reckon hs
    | 3 =>
      simp only at hs
      cases hs
      refine parts_list ?_ h hi
      intro a' w' h'
      exact at' a' w' (show (true = false → Grow w0 w') ∧ _ from h').2
    | k + 4 => exact reckon hs
theorem path_in {md : Region.Mode} : ∀ (path : List (Nat × Nat)) (listed : Array Bool), pathOk P md ops path listed = true → ∀ x ∈ path, ∃ o, ops[x.1]? = some o
  | [], _, _, x, hx => by cases hx
  | (i, k) :: rest, listed, hk, x, hx => by
    have alone : Region.ready md ops listed = [i] → ∃ o, ops[i]? = some o := fun h => by
      have hm : i ∈ Region.ready md ops listed := by rw [h]; simp
      obtain ⟨_, o, ho, _⟩ := mem_ready.1 hm
      exact ⟨o, ho⟩
    have both : (∃ o, ops[i]? = some o) ∧ pathOk P md ops rest (listed.setIfInBounds i true) = true := by
      match k with
      | 0 =>
        simp only [pathOk, Bool.and_eq_true] at hk
        refine ⟨?_, hk.2⟩
        cases hi : ops[i]? with
        | none => rw [hi] at hk; cases hk.1.1.1.1.1
        | some o => exact ⟨o, rfl⟩
      | 1 =>
        simp only [pathOk, Bool.and_eq_true, beq_iff_eq] at hk
        exact ⟨alone hk.1.1, hk.2⟩
      | 2 =>
        simp only [pathOk, Bool.and_eq_true] at hk
        exact ⟨Option.isSome_iff_exists.1 hk.1.1.1.1.1, hk.2⟩
      | 3 =>
        simp only [pathOk, Bool.and_eq_true, beq_iff_eq] at hk
        exact ⟨alone hk.1, hk.2⟩
      | k + 4 =>
        simp only [pathOk, Bool.and_eq_true] at hk
        exact ⟨Option.isSome_iff_exists.1 hk.1.1.1.1.1, hk.2⟩
    rcases List.mem_cons.1 hx with rfl | hx
    · exact both.1
    · exact path_in rest _ both.2 x hx

/-- A region that leaves its order open, walked once, by a path. -/
theorem wp_region_path {id : Nat} {a : Act} {w : World} (path : List (Nat × Nat)) (hm : P.follows .mixedOrders = true) (hs : Region.noSelect ops = true) (hl : path.length = ops.size)
    (hk : pathOk P .any ops path (Array.replicate ops.size false) = true) (h : wpParts P ops (Sure Q) (parts ops path) a w.drew) : (Code.region id ops true).wp P Q a w := by
  refine Code.wp_mono Sure.imp (wp_region_any hm (wpAny_of_C (S := Grow w.drew) (c := nextCut ops.size path) _ _ _ _ ?_))
  rw [← hl]
  obtain ⟨p, b, s, t, e⟩ := parts_ne (ops := ops) path
  have hin := path_in path _ hk
  rw [e] at h
  have := held_path hs (fun _ _ _ h => h) (fun ⟨_, _, h⟩ => h) path _ a w.drew hk (path_parts path hin _ a _ p b s t e h.1 h.2)
  rw [← hl] at this
  exact this
theorem parts_step {s : List Oper} {t : List Part} {a : Act} {w : World}
    (h : ∀ K : Act → World → Prop, Hid (∀ a' w', Grow w w' → wpParts P ops Q t a' w' → K a' w') → wpList P ops (Exit.then K Q) s a w) : wpParts P ops Q ((none, false, s) :: t) a w :=
  ⟨fun _ e => by (cases e), h _ fun _ _ hg h' => ⟨fun _ => hg, h'⟩⟩
theorem parts_step2 {o : Oper} {s : List Oper} {t : List Part} {a : Act} {w : World} (hl : Region.wanted o (yielded ops a.tmps) = true → Looks P (execOp a.eval o))
    (h : ∀ K : Act → World → Prop, Hid (∀ a' w', Grow w w' → wpParts P ops Q t a' w' → K a' w') → wpList P ops (Exit.then K Q) s a w) : wpParts P ops Q ((some o, false, s) :: t) a w :=
  ⟨fun _ e hw => by (cases e; exact hl hw), h _ fun _ _ hg h' => ⟨fun _ => hg, h'⟩⟩
/-- A part that ends with what may change what was there. -/
theorem parts_cut {s : List Oper} {t : List Part} {a : Act} {w : World}
    (h : ∀ K : Act → World → Prop, Hid (∀ a' w', wpParts P ops Q t a' w' → K a' w') → wpList P ops (Exit.then K Q) s a w) : wpParts P ops Q ((none, true, s) :: t) a w :=
  ⟨fun _ e => by (cases e), h _ fun _ _ h' => ⟨fun e => by (cases e), h'⟩⟩
theorem parts_cut2 {o : Oper} {s : List Oper} {t : List Part} {a : Act} {w : World} (hl : Region.wanted o (yielded ops a.tmps) = true → Looks P (execOp a.eval o))
    (h : ∀ K : Act → World → Prop, Hid (∀ a' w', wpParts P ops Q t a' w' → K a' w') → wpList P ops (Exit.then K Q) s a w) : wpParts P ops Q ((some o, true, s) :: t) a w :=
  ⟨fun _ e hw => by (cases e; exact hl hw), h _ fun _ _ h' => ⟨fun e => by (cases e), h'⟩⟩
theorem parts_done {a : Act} {w : World} (h : Q .normal a w) : wpParts P ops (Sure Q) [] a w := h
end
end Go.Proofs.YtlioojekjnigiafGreat
/- Rows of structs in memory: as they lie, and rows of one's own. -/
namespace Go.Proofs.YtlioojekjnigiafGreat
open Go.RowKit

/-- Elements, one value behind another. -/
def flat {α : Type} (enc : α → List Value) (xs : List α) : List Value := xs.flatMap enc
section
variable {α : Type} {enc : α → List Value} {k : Nat}
theorem flat_cons (x : α) (xs : List α) : flat enc (x :: xs) = enc x ++ flat enc xs := rfl
theorem flat_append (xs ys : List α) : flat enc (xs ++ ys) = flat enc xs ++ flat enc ys := by simp [flat]
theorem flat_length (hk : ∀ x, (enc x).length = k) : ∀ xs : List α, (flat enc xs).length = xs.length * k
  | [] => by simp [flat]
  | x :: xs => by rw [flat_cons, List.length_append, hk, flat_length hk xs, List.length_cons, Nat.add_mul, Nat.one_mul, Nat.add_comm]
theorem flat_get (hk : ∀ x, (enc x).length = k) : ∀ (xs : List α) (i r : Nat) (x : α) (v : Value), xs[i]? = some x → (enc x)[r]? = some v → (flat enc xs)[i * k + r]? = some v
  | [], i, r, x, v, h, _ => by cases h
  | y :: ys, 0, r, x, v, h, hv => by
    obtain rfl : y = x := by simpa using h
    rw [flat_cons, Nat.zero_mul, Nat.zero_add, List.getElem?_append_left (List.getElem?_eq_some_iff.1 hv).1, hv]
  | y :: ys, i + 1, r, x, v, h, hv => by
    rw [flat_cons, List.getElem?_append_right (by rw [hk, Nat.add_mul]; omega), hk, show (i + 1) * k + r - k = i * k + r from by rw [Nat.add_mul]; omega]
    exact flat_get hk ys i r x v (by simpa using h) hv
theorem flat_at (hk : ∀ x, (enc x).length = k) : ∀ (xs : List α) (j : Nat) (v : Value), (flat enc xs)[j]? = some v → ∃ i r x, j = i * k + r ∧ xs[i]? = some x ∧ (enc x)[r]? = some v
  | [], j, v, h => by simp [flat] at h
  | y :: ys, j, v, h => by
    rw [flat_cons] at h
    by_cases hj : j < k
    · rw [List.getElem?_append_left (by rw [hk]; exact hj)] at h
      exact ⟨0, j, y, by simp, rfl, h⟩
    · rw [List.getElem?_append_right (by rw [hk]; omega), hk] at h
      obtain ⟨i, r, x, e, hx, hv⟩ := flat_at hk ys (j - k) v h
      exact ⟨i + 1, r, x, by rw [Nat.add_mul]; omega, by simpa using hx, hv⟩
theorem flat_one (h1 : ∀ x, ∀ v ∈ enc x, v.oneCell' = true) (xs : List α) : ∀ v ∈ flat enc xs, v.oneCell' = true := by
  intro v hv
  unfold flat at hv
  rw [List.mem_flatMap] at hv
  obtain ⟨x, _, hv⟩ := hv
  exact h1 x v hv
theorem flat_take (hk : ∀ x, (enc x).length = k) : ∀ (xs : List α) (i : Nat), (flat enc xs).take (i * k) = flat enc (xs.take i)
  | [], i => by simp [flat]
  | x :: xs, 0 => by simp [flat]
  | x :: xs, i + 1 => by
    rw [flat_cons, List.take_succ_cons, flat_cons, Nat.add_mul, Nat.one_mul, Nat.add_comm (i * k) k, ← hk x, List.take_length_add_append, hk x, flat_take hk xs i]
theorem flat_drop (hk : ∀ x, (enc x).length = k) : ∀ (xs : List α) (i : Nat), (flat enc xs).drop (i * k) = flat enc (xs.drop i)
  | [], i => by simp [flat]
  | x :: xs, 0 => by simp
  | x :: xs, i + 1 => by
    rw [flat_cons, List.drop_succ_cons, Nat.add_mul, Nat.one_mul, Nat.add_comm (i * k) k, ← hk x, List.drop_length_add_append, hk x, flat_drop hk xs i]

theorem add_at' {b off : Nat} (i : Nat) : (⟨b, off, none⟩ : Addr).add i = ⟨b, off + i, none⟩ := by unfold Addr.add; split <;> simp_all
/-- A row that lies in memory. -/
def RowAt (enc : α → List Value) (k : Nat) (w : World) (a : Option Addr) (cap : Nat) (xs : List α) : Prop :=
  xs.length ≤ 9223372036854775807 ∧ xs.length ≤ cap ∧ (xs = [] ∨ ∃ b off, a = some ⟨b, off, none⟩ ∧ ∀ i x, xs[i]? = some x → ∀ r v, (enc x)[r]? = some v → w.cell? ⟨b, off + i * k + r, none⟩ = some v)
theorem RowAt.nil (w : World) (a : Option Addr) (cap : Nat) : RowAt enc k w a cap [] := ⟨by simp, by simp, .inl rfl⟩
theorem RowAt.grow {w w' : World} {a : Option Addr} {cap : Nat} {xs : List α} (h : RowAt enc k w a cap xs) (hg : Grow w w') : RowAt enc k w' a cap xs := by
  refine ⟨h.1, h.2.1, h.2.2.imp id ?_⟩
  rintro ⟨b, off, ha, hc⟩
  exact ⟨b, off, ha, fun i x hi r v hv => cell_grow hg (hc i x hi r v hv)⟩
theorem RowAt.at {w : World} {a : Option Addr} {cap : Nat} {xs : List α} (h : RowAt enc k w a cap xs) {i : Nat} {x : α} (hi : xs[i]? = some x) :
    ∃ b off, a = some ⟨b, off, none⟩ ∧ ∀ r v, (enc x)[r]? = some v → w.cell? ⟨b, off + i * k + r, none⟩ = some v := by
  rcases h.2.2 with rfl | ⟨b, off, ha, hc⟩
  · cases hi
  · exact ⟨b, off, ha, hc i x hi⟩
theorem RowAt.news (hk : ∀ x, (enc x).length = k) {w : World} {b off cap : Nat} {xs : List α} (h : RowAt enc k w (some ⟨b, off, none⟩) cap xs) : ∀ j v, (flat enc xs)[j]? = some v → w.cell? ((⟨b, off, none⟩ : Addr).add j) = some v := by
  intro j v hv
  obtain ⟨i, r, x, rfl, hx, hv⟩ := flat_at hk xs j v hv
  obtain ⟨b', off', e, hc⟩ := h.at hx
  cases e
  rw [add_at', ← Nat.add_assoc]
  exact hc r v hv
/-- A row of one's own, as a row that lies in memory. -/
theorem RowAt.of_own (hk : ∀ x, (enc x).length = k) {w : World} {base : Nat} {e : TypeId} {a : Option Addr} {cap : Nat} {xs : List α} (hl : xs.length ≤ 9223372036854775807)
    (h : w.ownsRow base e k (.slice a xs.length cap) xs.length (flat enc xs)) : RowAt enc k w a cap xs := by
  rcases h.2 with ⟨h0, h1⟩ | ⟨g, cap', cur, hv, hb, hg, hle, _⟩
  · rw [List.length_eq_zero_iff.1 h1]
    exact RowAt.nil _ _ _
  · cases hv
    refine ⟨hl, hle, .inr ⟨g, 0, rfl, fun i x hi r v hv => ?_⟩⟩
    have := h.cells (g := g) rfl (i * k + r) v (flat_get hk xs i r x v hi hv)
    rwa [add_at', ← Nat.add_assoc] at this
theorem RowAt.take {w : World} {a : Option Addr} {cap : Nat} {xs : List α} (h : RowAt enc k w a cap xs) (n : Nat) : RowAt enc k w a cap (xs.take n) := by
  refine ⟨by have := h.1; rw [List.length_take]; omega, by have := h.2.1; rw [List.length_take]; omega, h.2.2.imp (fun e => by rw [e]; simp) ?_⟩
  rintro ⟨b, off, ha, hc⟩
  refine ⟨b, off, ha, fun i x hi => hc i x ?_⟩
  rw [List.getElem?_take] at hi
  split at hi
  · exact hi
  · cases hi
theorem grow_of_grown' {w w3 : World} (hg : w.grownBy w3 none) : Grow w w3 :=
  ⟨hg.os, hg.tape, hg.output, hg.size, fun k hk => hg.block k hk (by simp)⟩
/-- What is appended to a row of one's own leaves what lay ahead of it. -/
theorem below_grown {base : Nat} {w w' : World} {row : Option Nat} (hg : w.grownBy w' row) (hr : ∀ g, row = some g → base ≤ g) (hb : base ≤ w.heap.size) : Below base w w' :=
  ⟨hg.os, hg.tape, hg.output, hg.size, fun j hj => hg.block j (by omega) (fun e => by have := hr j e.symm; omega)⟩

/-- Nothing is appended to nothing. -/
theorem wpList_append_none {P : Program} {w : World} {ops : Array Oper} {rest : List Oper} {o : Oper} {a : Act} {Q : Exit → Act → World → Prop} (hgd : o.guard = none) (s x : Operand) (t : TypeId)
    (ho : o.op = .call { callee := .builtin .append, args := #[s, x], argTypes := #[t, t] }) (e : TypeId) (i : TypeInfo) (ht : P.underlying t = some (.slice e)) (hi : P.info? e = some i)
    (hs : a.eval s = .slice none 0 0) (a0 : Option Addr) (cap : Nat) (hx : a.eval x = .slice a0 0 cap) (h : wpList P ops Q rest (a.put o.dst (.slice none 0 0)) w) : wpList P ops Q (o :: rest) a w := by
  refine wpList_plain hgd fun K hK => ?_
  have hrun : (Builtin.append_ #[t, t] o.type #[.slice none 0 0, .slice a0 0 cap]).run P w = .ok (.slice none 0 0) w := by
    cases a0 <;> simp [Builtin.append_, run_underlying ht, sizeOf, typeInfo, hi, loadCells, loadCellsFrom, Builtin.lenOf, Builtin.firstCells]
  unfold Oper.wp
  simp [execOp, ho, resolve, invoke, builtin, hs, hx, hrun, Result.andThen]
  exact hK _ _ h
end
end Go.Proofs.YtlioojekjnigiafGreat
/- Laws of rows of structs: copy, clear, and what slices.Insert and slices.Delete make of a row. -/
namespace Go.Proofs.YtlioojekjnigiafGreat
open Go.RowKit

section
variable {P : Program}
/-- copy into a row that is known whole. -/
theorem run_copy_row (w : World) (dT sT ty elem : TypeId) (size g o dLen dCap : Nat) (a : Addr) (sLen sCap : Nat) (cs : List Value) (cur : Array Value) (t : TypeId)
    (hu : P.underlying dT = some (.slice elem)) (i : TypeInfo) (hi : P.info? elem = some i) (hs : i.size = size) (hn : cs.length = Nat.min sLen dLen * size)
    (hsrc : ∀ j v, cs[j]? = some v → w.cell? (a.add j) = some v) (hg : w.heap[g]? = some (.cells cur t (0, 0))) (hfit : o + cs.length ≤ cur.size) (h1 : ∀ v ∈ cs, v.oneCell' = true) :
    (Builtin.copy_ #[dT, sT] ty #[.slice (some ⟨g, o, none⟩) dLen dCap, .slice (some a) sLen sCap]).run P w = .ok (goInt (Nat.min sLen dLen)) (w.setRow g (cur.toList.take o ++ cs ++ cur.toList.drop (o + cs.length)).toArray) := by
  have hl := run_loadCells_list (P := P) w a cs hsrc
  have hst := run_storeCells_at P g o t cs 0 cur w hg (by simpa using hfit) h1
  simp only [Nat.add_zero] at hst
  rw [hn] at hl
  simp [Builtin.copy_, run_underlying hu, Builtin.lenOf, Builtin.firstCells, sizeOf, typeInfo, hi, hs, hl, hst]
/-- clear, of a row that is known whole. -/
theorem run_clear_row (w : World) (t e ty : TypeId) (z : Value) (ht : P.underlying t = some (.slice e)) (hv : ∀ w, (zeroValue e).run P w = .ok z w) (h1 : ∀ v ∈ z.cells.toList, v.oneCell' = true) (g o n c : Nat) (cur : Array Value) (et : TypeId)
    (hg : w.heap[g]? = some (.cells cur et (0, 0))) (hfit : o + (n + 1) * z.cells.size ≤ cur.size) :
    (Builtin.clear_ #[t] ty #[.slice (some ⟨g, o, none⟩) (n + 1) c]).run P w = .ok (.tuple #[]) (w.setRow g (cur.toList.take o ++ (Builtin.zeroCells z.cells (n + 1)).toList ++ cur.toList.drop (o + (n + 1) * z.cells.size)).toArray) := by
  have hl : (Builtin.zeroCells z.cells (n + 1)).toList.length = (n + 1) * z.cells.size := by simp [size_zeroCells]
  have hst := run_storeCells_at P g o et (Builtin.zeroCells z.cells (n + 1)).toList 0 cur w hg (by rw [hl]; simpa using hfit) (by
    intro v hv'
    simp only [Builtin.zeroCells, Array.toList_map, List.mem_map, Array.toList_range, List.mem_range] at hv'
    obtain ⟨j, hj, rfl⟩ := hv'
    have hz : 0 < z.cells.size := by
      rcases Nat.eq_zero_or_pos z.cells.size with h | h
      · rw [h] at hj; simp at hj
      · exact h
    have hlt : j % z.cells.size < z.cells.size := Nat.mod_lt _ hz
    rw [getElem!_pos z.cells (j % z.cells.size) hlt]
    exact h1 _ (by simp))
  simp only [Nat.add_zero] at hst
  rw [hl] at hst
  simp [Builtin.clear_, run_underlying ht, hv, hst]
theorem wpList_copy_run (w : World) {ops : Array Oper} {rest : List Oper} {o : Oper} {a : Act} {Q : Exit → Act → World → Prop} (hgd : o.guard = none) (d s : Operand) (t t' : TypeId)
    (ho : o.op = .call { callee := .builtin .copy, args := #[d, s], argTypes := #[t, t'] }) (v u : Value) (hd : a.eval d = v) (hs : a.eval s = u) {v' : Value} {w' : World}
    (hr : (Builtin.copy_ #[t, t'] o.type #[v, u]).run P w = .ok v' w') (h : wpList P ops Q rest (a.put o.dst v') w') : wpList P ops Q (o :: rest) a w :=
  wpList_plain hgd fun _ hK => by
    unfold Oper.wp execOp
    simp only [ho, resolve, invoke, builtin, Sem.run_bind, Sem.run_pure, Result.andThen_ok, List.map_toArray, List.map_cons, List.map_nil, hd, hs, hr]
    exact hK _ _ h
theorem wpList_clear_run (w : World) {ops : Array Oper} {rest : List Oper} {o : Oper} {a : Act} {Q : Exit → Act → World → Prop} (hgd : o.guard = none) (s : Operand) (t : TypeId)
    (ho : o.op = .call { callee := .builtin .clear, args := #[s], argTypes := #[t] }) (u : Value) (hs : a.eval s = u) {v' : Value} {w' : World}
    (hr : (Builtin.clear_ #[t] o.type #[u]).run P w = .ok v' w') (h : wpList P ops Q rest (a.put o.dst v') w') : wpList P ops Q (o :: rest) a w :=
  wpList_plain hgd fun _ hK => by
    unfold Oper.wp execOp
    simp only [ho, resolve, invoke, builtin, Sem.run_bind, Sem.run_pure, Result.andThen_ok, List.map_toArray, List.map_cons, List.map_nil, hs, hr]
    exact hK _ _ h
theorem wpList_append_ran (w : World) {ops : Array Oper} {rest : List Oper} {o : Oper} {a : Act} {Q : Exit → Act → World → Prop} (hgd : o.guard = none) (s x : Operand) (t tn : TypeId)
    (ho : o.op = .call { callee := .builtin .append, args := #[s, x], argTypes := #[t, tn] }) (vs vx : Value) (hs : a.eval s = vs) (hx : a.eval x = vx)
    {v' : Value} {w' : World} (hr : (Builtin.append_ #[t, tn] o.type #[vs, vx]).run P w = .ok v' w') (h : wpList P ops Q rest (a.put o.dst v') w') : wpList P ops Q (o :: rest) a w :=
  Lib.wpList_append_run w hgd s x t tn ho vs vx hs hx v' w' hr h
end

theorem grownBy_setRow {w : World} {g : Nat} {cur cur' : Array Value} {t : TypeId} (_h : w.heap[g]? = some (.cells cur t (0, 0))) : w.grownBy (w.setRow g cur') (some g) :=
  ⟨rfl, rfl, rfl, by simp [World.setRow], fun k hk hn => setRow_other _ _ _ _ (fun e => hn (by rw [e]))⟩
theorem grownBy_trans {a b c : World} {row : Option Nat} (h : a.grownBy b row) (k : b.grownBy c row) : a.grownBy c row :=
  ⟨k.os.trans h.os, k.tape.trans h.tape, k.output.trans h.output, Nat.le_trans h.size k.size, fun j hj hn => (k.block j (Nat.lt_of_lt_of_le hj h.size) hn).trans (h.block j hj hn)⟩
theorem grownBy_drew (w : World) (row : Option Nat) : w.grownBy w.drew row := ⟨rfl, rfl, rfl, Nat.le_refl _, fun _ _ _ => rfl⟩
theorem grownBy_refl (w : World) (row : Option Nat) : w.grownBy w row := ⟨rfl, rfl, rfl, Nat.le_refl _, fun _ _ _ => rfl⟩
theorem grownBy_of_grow {w w' : World} (h : Grow w w') (row : Option Nat) : w.grownBy w' row := ⟨Below.os h, Below.tape h, Below.output h, Below.size h, fun k hk _ => Below.block h k hk⟩

/-- What a row is behind a shift. -/
theorem row_shift {cur cs xs : List Value} {I N k : Nat} (hI : I ≤ N) (hx : xs.length = k) (hc : N + k ≤ cur.length) (ht : cur.take N = cs) :
    ((cur.take (I + k) ++ cs.drop I ++ cur.drop (I + k + (N - I))).take I ++ xs ++ (cur.take (I + k) ++ cs.drop I ++ cur.drop (I + k + (N - I))).drop (I + k)).take (N + k) = cs.take I ++ xs ++ cs.drop I := by
  have hl : cs.length = N := by rw [← ht, List.length_take]; omega
  have e1 : (cur.take (I + k) ++ cs.drop I ++ cur.drop (I + k + (N - I))).take I = cs.take I := by
    rw [List.append_assoc, List.take_append_of_le_length (by rw [List.length_take]; omega), List.take_take, Nat.min_eq_left (by omega), ← ht, List.take_take, Nat.min_eq_left hI]
  have e2 : (cur.take (I + k) ++ cs.drop I ++ cur.drop (I + k + (N - I))).drop (I + k) = cs.drop I ++ cur.drop (I + k + (N - I)) := by
    rw [List.append_assoc]
    exact List.drop_left' (by rw [List.length_take]; omega)
  rw [e1, e2, ← List.append_assoc]
  exact List.take_left' (by simp; omega)
theorem row_shift_size {cur cs xs : List Value} {I N k : Nat} (hI : I ≤ N) (hx : xs.length = k) (hc : N + k ≤ cur.length) (hl : cs.length = N) :
    ((cur.take (I + k) ++ cs.drop I ++ cur.drop (I + k + (N - I))).take I ++ xs ++ (cur.take (I + k) ++ cs.drop I ++ cur.drop (I + k + (N - I))).drop (I + k)).length = cur.length := by
  simp
  omega
/-- What a new row is. -/
theorem row_new {cur cs xs : List Value} {I N k : Nat} (hI : I ≤ N) (hx : xs.length = k) (ht : cur.take I = cs.take I) (hl : cs.length = N) :
    ((cur.take I ++ xs ++ cur.drop (I + k)).take (I + k) ++ cs.drop I ++ (cur.take I ++ xs ++ cur.drop (I + k)).drop (I + k + (N - I))).take (N + k) = cs.take I ++ xs ++ cs.drop I := by
  have e1 : (cur.take I ++ xs ++ cur.drop (I + k)).take (I + k) = cs.take I ++ xs := by
    rw [ht]
    exact List.take_left' (by simp; omega)
  rw [e1]
  exact List.take_left' (by simp; omega)
theorem row_new_size {cur cs xs : List Value} {I N k : Nat} (hI : I ≤ N) (hx : xs.length = k) (hc : N + k ≤ cur.length) (hl : cs.length = N) :
    ((cur.take I ++ xs ++ cur.drop (I + k)).take (I + k) ++ cs.drop I ++ (cur.take I ++ xs ++ cur.drop (I + k)).drop (I + k + (N - I))).length = cur.length := by
  simp
  omega
/-- What a row is where one is taken out, and its end cleared. -/
theorem row_cut {cur cs zs : List Value} {I N k : Nat} (hI : I + k ≤ N) (hz : zs.length = k) (hc : N ≤ cur.length) (ht : cur.take N = cs) :
    ((cur.take I ++ cs.drop (I + k) ++ cur.drop (I + (N - (I + k)))).take (N - k) ++ zs ++ (cur.take I ++ cs.drop (I + k) ++ cur.drop (I + (N - (I + k)))).drop (N - k + k)).take (N - k) = cs.take I ++ cs.drop (I + k) := by
  have hl : cs.length = N := by rw [← ht, List.length_take]; omega
  have e0 : cur.take I = cs.take I := by rw [← ht, List.take_take, Nat.min_eq_left (by omega)]
  have e1 : (cur.take I ++ cs.drop (I + k) ++ cur.drop (I + (N - (I + k)))).take (N - k) = cs.take I ++ cs.drop (I + k) := by
    rw [e0]
    exact List.take_left' (by simp; omega)
  rw [e1, List.append_assoc]
  exact List.take_left' (by simp; omega)
theorem row_cut_size {cur cs zs : List Value} {I N k : Nat} (hI : I + k ≤ N) (hz : zs.length = k) (hc : N ≤ cur.length) (hl : cs.length = N) :
    ((cur.take I ++ cs.drop (I + k) ++ cur.drop (I + (N - (I + k)))).take (N - k) ++ zs ++ (cur.take I ++ cs.drop (I + k) ++ cur.drop (I + (N - (I + k)))).drop (N - k + k)).length = cur.length := by
  simp
  omega
theorem ownsRow_grow {w w' : World} {base : Nat} {e : TypeId} {size : Nat} {v : Value} {n : Nat} {xs : List Value} (h : w.ownsRow base e size v n xs) (hg : Grow w w') : w'.ownsRow base e size v n xs :=
  h.kept (grownBy_of_grow hg none) (by cases hv : v.ownBlock <;> simp)
theorem ownsRow_set {w : World} {base : Nat} {e : TypeId} {size : Nat} {v : Value} {n : Nat} {xs : List Value} (h : w.ownsRow base e size v n xs) {p : Addr} (hp : v.ownBlock ≠ some p.block) (u : Value) : (w.setCell p u).ownsRow base e size v n xs := by
  obtain ⟨h1, h2⟩ := h
  refine ⟨h1, ?_⟩
  rcases h2 with h2 | ⟨g, cap, cur, hv, hg, hh, r⟩
  · exact .inl h2
  · subst hv
    exact .inr ⟨g, cap, cur, rfl, hg, block_far (fun e => hp (by rw [← e]; rfl)) hh, r⟩
section
variable {P : Program} {α : Type} {enc : α → List Value}
/-- A row is appended to nothing: a row of one's own. -/
theorem wpList_append_copy {w : World} {ops : Array Oper} {rest : List Oper} {o : Oper} {a : Act} {Q : Exit → Act → World → Prop} (hgd : o.guard = none) (s x : Operand) (t : TypeId)
    (ho : o.op = .call { callee := .builtin .append, args := #[s, x], argTypes := #[t, t] }) (base : Nat) (e : TypeId) (i : TypeInfo) (z : Value) (size bytes : Nat) (ht : P.underlying t = some (.slice e)) (hi : P.info? e = some i) (hz : i.zero = some z)
    (hsize : i.size = size) (hby : i.bytes = bytes) (hzs : z.cells.size = size) (hsz : 0 < size) (hs : a.eval s = .slice none 0 0) (a0 : Option Addr) (cap : Nat) (xs : List α) (hx : a.eval x = .slice a0 xs.length cap)
    (hrow : RowAt enc size w a0 cap xs) (hk : ∀ x, (enc x).length = size) (h1 : ∀ x, ∀ v ∈ enc x, v.oneCell' = true) (hn : xs.length * bytes ≤ 140737488355328) (h63 : xs.length ≤ maxLen) (hb : base ≤ w.heap.size) (H : Nat) (hH : w.heap.size = H)
    (h : ∀ a' cap' w', w'.ownsRow base e size (.slice a' xs.length cap') xs.length (flat enc xs) → Grow w w' → (∀ y, a' = some y → y.block = H) → wpList P ops Q rest (a.put o.dst (.slice a' xs.length cap')) w') : wpList P ops Q (o :: rest) a w := by
  by_cases hn0 : xs = []
  · subst hn0
    exact wpList_append_none hgd s x t ho e i ht hi hs a0 cap hx (h none 0 w ⟨by simp [flat], .inl ⟨rfl, rfl⟩⟩ (Grow.refl _) (fun y hy => by cases hy))
  · have hpos := List.length_pos_iff.2 hn0
    obtain ⟨b, off, rfl, _⟩ := hrow.at (List.getElem?_eq_getElem hpos)
    refine wpList_append_lies w hgd s x t ho base e i z size bytes ht hi hz hsize hby hzs hsz (.slice none 0 0) 0 [] hs (World.ownsRow_nil _ _ _ _) ⟨b, off, none⟩ xs.length cap (flat enc xs) hx (flat_length hk xs) (hrow.news hk) (flat_one h1 xs) hpos (by omega) (by rw [Nat.zero_add]; exact hn) hb H hH ?_
    intro g cap' w' hown hgrow hat _
    simp only [List.nil_append, Nat.zero_add] at hown
    rw [Nat.zero_add]
    exact h (some ⟨g, 0, none⟩) cap' w' hown (grow_of_grown' hgrow) (fun y hy => by
      cases hy
      rcases hat with h | h
      · cases h
      · exact h)
end
end Go.Proofs.YtlioojekjnigiafGreat
/- slices.Insert and slices.Delete, of a row of waits of one's own. -/
namespace Go.Proofs.YtlioojekjnigiafGreat.IT
open Go.RowKit
set_option linter.unusedVariables false

theorem infoT : (Tryz.prog.info? 235).map (fun i => (i.zero, i.size, i.bytes)) = some (some (.agg #[.int .i64 0, .int .i64 0, .slice none 0 0]), 3, 40) := by kernel_rfl
theorem news_block {w : World} {b : Nat} {xv : Array Value} {xs : List Value} {t : TypeId} {k : Nat} (h : w.heap[b]? = some (.cells xv t (0, 0))) (ht : xv.toList.take k = xs) : ∀ j u, xs[j]? = some u → w.cell? ((⟨b, 0, none⟩ : Addr).add j) = some u := fun j u hu => by
  rw [add_at', Nat.zero_add]
  rw [← ht, List.getElem?_take] at hu
  split at hu
  · exact cell_of_block h (by simpa using hu)
  · cases hu

set_option maxHeartbeats 2000000 in
set_option maxRecDepth 100000 in
theorem insert_end (base : Nat) (v : Value) (n : Nat) (cs xs : List Value) (vb vc : Nat) (xv : Array Value) (w : World) (hown : w.ownsRow base 235 3 v n cs) (hx : w.heap[vb]? = some (.cells xv 235 (0, 0))) (hxl : xs.length = 3) (hxt : xv.toList.take 3 = xs) (hxs : xv.size = vc * 3) (hvc : 1 ≤ vc) (h1 : ∀ u ∈ xs, u.oneCell' = true) (hn : n ≤ 1000) (hb : base ≤ w.heap.size) :
    Calls Tryz.prog 232 #[v, .int .i64 n, .slice (some ⟨vb, 0, none⟩) 1 vc] w fun e w' => ∃ g cap, e = .returned (.slice (some ⟨g, 0, none⟩) (n + 1) cap) ∧ w'.ownsRow base 235 3 (.slice (some ⟨g, 0, none⟩) (n + 1) cap) (n + 1) (cs ++ xs) ∧ w.grownBy w' v.ownBlock ∧ (v.ownBlock = some g ∨ g = w.heap.size) := by
  obtain ⟨i0, hinf, hz0, hz1, hz2⟩ := info_parts infoT
  have HX : Hid (∀ j u, xs[j]? = some u → w.cell? ((⟨vb, 0, none⟩ : Addr).add j) = some u) := news_block hx hxt
  have HO : Hid (w.ownsRow base 235 3 v n cs) := hown
  have H3 : Hid (xs.length = 1 * 3) := by show xs.length = _; omega
  clear hx hxt hxs hxl
  rcases hown.2 with ⟨rfl, rfl⟩ | ⟨g, cap, cur, rfl, hbg, hg, hle, hcm, hcs, ht⟩
  · clear hown
    go_enter Tryz.func232, Tryz.ntmps232
    go_wp2_with (at_builtin; go_must (refine wpList_append_lies _ (by rfl) _ _ 149 (by rfl) base 235 i0 (.agg #[.int .i64 0, .int .i64 0, .slice none 0 0]) 3 40 Tryz.underlying149 hinf hz0 hz1 hz2 (by rfl) (by decide) (.slice none 0 0) 0 cs (by rfl) HO.out ⟨vb, 0, none⟩ 1 vc xs (by rfl) H3.out HX.out h1 (by decide) (by unfold maxLen; omega) (by omega) hb w.heap.size rfl ?_; intro g cap' w3 hown3 hgrow hat hltg))
    go_ret
    exact ⟨g, cap', rfl, hown3, hgrow, hat⟩
  · clear hown hg hcs ht hbg
    have hcm' : cap ≤ 9223372036854775807 := by unfold maxLen at hcm; omega
    clear hcm
    go_enter Tryz.func232, Tryz.ntmps232
    go_wp2_with (at_builtin; go_must (refine wpList_append_lies _ (by rfl) _ _ 149 (by rfl) base 235 i0 (.agg #[.int .i64 0, .int .i64 0, .slice none 0 0]) 3 40 Tryz.underlying149 hinf hz0 hz1 hz2 (by rfl) (by decide) (.slice (some ⟨g, 0, none⟩) n cap) n cs (by rfl) HO.out ⟨vb, 0, none⟩ 1 vc xs (by rfl) H3.out HX.out h1 (by decide) (by unfold maxLen; omega) (by omega) hb w.heap.size rfl ?_; intro g' cap' w3 hown3 hgrow hat hltg))
    all_goals
      go_ret
      exact ⟨g', cap', rfl, hown3, hgrow, hat⟩

set_option maxHeartbeats 4000000 in
set_option maxRecDepth 100000 in
theorem insert_room (base g n cap i : Nat) (cur : Array Value) (cs xs : List Value) (vb vc : Nat) (xv : Array Value) (w : World) (hg : w.heap[g]? = some (.cells cur 235 (0, 0))) (hbg : base ≤ g) (hcm : cap ≤ maxLen) (hcs : cur.size = cap * 3) (ht : cur.toList.take (n * 3) = cs) (hroom : n + 1 ≤ cap) (hi : i < n)
    (hx : w.heap[vb]? = some (.cells xv 235 (0, 0))) (hne : vb ≠ g) (hxl : xs.length = 3) (hxt : xv.toList.take 3 = xs) (hxs : xv.size = vc * 3) (hvc : 1 ≤ vc) (h1 : ∀ u ∈ xs, u.oneCell' = true) (h1c : ∀ u ∈ cs, u.oneCell' = true) (hn : n ≤ 1000) :
    Calls Tryz.prog 232 #[.slice (some ⟨g, 0, none⟩) n cap, .int .i64 i, .slice (some ⟨vb, 0, none⟩) 1 vc] w fun e w' => e = .returned (.slice (some ⟨g, 0, none⟩) (n + 1) cap) ∧ w'.ownsRow base 235 3 (.slice (some ⟨g, 0, none⟩) (n + 1) cap) (n + 1) (cs.take (i * 3) ++ xs ++ cs.drop (i * 3)) ∧ w.grownBy w' (some g) := by
  obtain ⟨i0, hinf, hz0, hz1, hz2⟩ := info_parts infoT
  have hlt := lt_of_block hg
  have hcm' : cap ≤ 9223372036854775807 := by unfold maxLen at hcm; omega
  have hcsl : cs.length = n * 3 := by rw [← ht, List.length_take]; simp; omega
  have hov : ∀ lb cb, (callFunc 266 #[.slice (some ⟨vb, 0, none⟩) 1 vc, .slice (some ⟨g, (i + 1) * 3, none⟩) lb cb]).run Tryz.prog w = .ok (.value (.bool false)) w := fun lb cb => by
    rw [run_callFunc_extern Tryz.func266 (by kernel_rfl) (by kernel_rfl) (by kernel_rfl) (e := Extern.SlicesOverlaps.overlaps #[149, 149] #[4]) (by kernel_rfl),
      Lib.run_overlaps_apart w 149 4 235 Tryz.underlying149 3 Tryz.sizeOf235 ⟨vb, 0, none⟩ ⟨g, (i + 1) * 3, none⟩ 1 vc lb cb hne 235 235 (vc * 3) (cap * 3) (by simp [World.shape?, hx, hxs]) (by simp [World.shape?, hg, hcs]) (by omega) (by simp [World.frozen?, hx]) (by simp [World.frozen?, hx])]
    rfl
  have hnq : ¬ ((i : Int) = (n : Int)) := by omega
  have hnq' : decide ((i : Int) = (n : Int)) = false := by simpa using hnq
  have hroom' : decide ((cap : Int) < (n : Int) + 1) = false := by simp; omega
  obtain ⟨R1, hR1⟩ : ∃ R1 : List Value, R1 = cur.toList.take (i * 3 + 3) ++ cs.drop (i * 3) ++ cur.toList.drop (i * 3 + 3 + (n * 3 - i * 3)) := ⟨_, rfl⟩
  obtain ⟨R2, hR2⟩ : ∃ R2 : List Value, R2 = R1.take (i * 3) ++ xs ++ R1.drop (i * 3 + 3) := ⟨_, rfl⟩
  have hcl : cur.toList.length = cap * 3 := by simpa using hcs
  have t2 : R2.take ((n + 1) * 3) = cs.take (i * 3) ++ xs ++ cs.drop (i * 3) := by
    rw [hR2, hR1, show (n + 1) * 3 = n * 3 + 3 from by omega]
    exact row_shift (by omega) hxl (by omega) ht
  have s2 : R2.toArray.size = cap * 3 := by
    have := row_shift_size (cur := cur.toList) (cs := cs) (xs := xs) (I := i * 3) (N := n * 3) (k := 3) (by omega) hxl (by omega) hcsl
    rw [hR2, hR1]
    simpa [hcl] using this
  have l1 : R1.length = cap * 3 := by rw [hR1]; simp [hcsl, hcs]; omega
  have hdl : (cs.drop (i * 3)).length = (n - i) * 3 := by rw [List.length_drop]; omega
  have hcp1 : ∀ ty dc sc, (Builtin.copy_ #[149, 149] ty #[.slice (some ⟨g, (i + 1) * 3, none⟩) (n - i) dc, .slice (some ⟨g, i * 3, none⟩) (n + 1 - i) sc]).run Tryz.prog w.drew = .ok (goInt ((n - i : Nat) : Int)) (w.drew.setRow g R1.toArray) := fun ty dc sc => by
    have hm : Nat.min (n + 1 - i) (n - i) = n - i := by simp only [Nat.min_def]; split <;> omega
    have := run_copy_row (P := Tryz.prog) w.drew 149 149 ty 235 3 g ((i + 1) * 3) (n - i) dc ⟨g, i * 3, none⟩ (n + 1 - i) sc (cs.drop (i * 3)) cur 235 Tryz.underlying149 i0 hinf hz1 (by rw [hm, hdl])
      (fun j v hj => by
        rw [add_at']
        rw [List.getElem?_drop, ← ht, List.getElem?_take] at hj
        split at hj
        · exact cell_of_block (w := w.drew) hg (by simpa using hj)
        · cases hj) hg (by rw [hdl]; omega) (fun v hv => h1c v (List.mem_of_mem_drop hv))
    rw [hm, hdl, show (i + 1) * 3 = i * 3 + 3 from by omega, show i * 3 + 3 + (n - i) * 3 = i * 3 + 3 + (n * 3 - i * 3) from by omega, ← hR1] at this
    rw [show (i + 1) * 3 = i * 3 + 3 from by omega]
    exact this
  have g1 : (w.drew.setRow g R1.toArray).heap[g]? = some (.cells R1.toArray 235 (0, 0)) := setRow_heap w.drew g _ R1.toArray 235 (0, 0) hg
  have x1 : (w.drew.setRow g R1.toArray).heap[vb]? = some (.cells xv 235 (0, 0)) := (setRow_other w.drew g _ _ hne).trans hx
  have gr1 : w.grownBy (w.drew.setRow g R1.toArray) (some g) := grownBy_trans (grownBy_drew w _) (grownBy_setRow (w := w.drew) hg)
  generalize w.drew.setRow g R1.toArray = W1 at *
  have hcp2 : ∀ ty dc, (Builtin.copy_ #[149, 149] ty #[.slice (some ⟨g, i * 3, none⟩) (n + 1 - i) dc, .slice (some ⟨vb, 0, none⟩) 1 vc]).run Tryz.prog W1 = .ok (goInt 1) (W1.setRow g R2.toArray) := fun ty dc => by
    have hm : Nat.min 1 (n + 1 - i) = 1 := by simp only [Nat.min_def]; split <;> omega
    have := run_copy_row (P := Tryz.prog) W1 149 149 ty 235 3 g (i * 3) (n + 1 - i) dc ⟨vb, 0, none⟩ 1 vc xs R1.toArray 235 Tryz.underlying149 i0 hinf hz1 (by rw [hm, hxl]) (news_block x1 hxt) g1 (by rw [hxl]; simp; omega) h1
    rw [hm, hxl] at this
    simp only at this
    rw [← hR2] at this
    exact this
  have HG2 : Hid ((W1.setRow g R2.toArray).ownsRow base 235 3 (.slice (some ⟨g, 0, none⟩) (n + 1) cap) (n + 1) (cs.take (i * 3) ++ xs ++ cs.drop (i * 3))) :=
    ⟨by simp [hxl, hcsl]; omega, .inr ⟨g, cap, R2.toArray, rfl, hbg, setRow_heap W1 g _ R2.toArray 235 (0, 0) g1, hroom, hcm, s2, t2⟩⟩
  have HGR : Hid (w.grownBy (W1.setRow g R2.toArray) (some g)) := grownBy_trans gr1 (grownBy_setRow g1)
  clear hR1 hR2 t2 s2 l1 g1 x1 gr1 hcl hdl hcsl ht h1c h1 hx hxt hxs hxl hg hcs
  have hcn : ¬ (cap = i + 1) := by omega
  have hcn' : ¬ (cap = i) := by omega
  go_enter Tryz.func232, Tryz.ntmps232
  go_wp2_with (simp only [hov])
  refine wp_region_path [(0, 0), (1, 0), (2, 0), (3, 2), (4, 2), (5, 0), (6, 0), (7, 2), (8, 3)] (by kernel_rfl) (by kernel_rfl) (by kernel_rfl) (by kernel_rfl) ?_
  simp only [parts, headed, headed2, List.getElem?_toArray, List.getElem?_cons_zero, List.getElem?_cons_succ]
  refine parts_step fun K HK => ?_
  go_wp2_with fail
  refine HK.out _ _ (Grow.refl _) ?_
  clear HK K
  refine parts_step2 (fun hw => by first | (cases hw; done) | (apply looks_run; intro w'; go_simp; try first | rfl | rw [if_neg (by omega)] | rw [if_pos (by omega)])) fun K HK => ?_
  go_wp2_with fail
  refine HK.out _ _ (Grow.refl _) ?_
  clear HK K
  refine parts_step2 (fun hw => by first | (cases hw; done) | (apply looks_run; intro w'; go_simp; try first | rfl | rw [if_neg (by omega)] | rw [if_pos (by omega)])) fun K HK => ?_
  go_wp2_with fail
  refine HK.out _ _ (Grow.refl _) ?_
  clear HK K
  refine parts_cut2 (fun hw => by first | (cases hw; done) | (apply looks_run; intro w'; go_simp; try first | rfl | rw [if_neg (by omega)] | rw [if_pos (by omega)])) fun K HK => ?_
  go_wp2_with (at_builtin; go_must (refine wpList_copy_run _ (by rfl) _ _ 149 149 (by rfl) _ _ (by rfl) (by rfl) (hcp1 _ _ _) ?_))
  refine HK.out _ _ ?_
  clear HK K
  refine parts_step fun K HK => ?_
  go_wp2_with fail
  refine HK.out _ _ (Grow.refl _) ?_
  clear HK K
  refine parts_done ?_
  go_wp2_with (at_builtin; refine wpList_copy_run _ (by rfl) _ _ 149 149 (by rfl) _ _ (by rfl) (by rfl) (hcp2 _ _) ?_)
  go_ret
  exact ⟨rfl, HG2.out, HGR.out⟩

set_option maxHeartbeats 4000000 in
set_option maxRecDepth 100000 in
theorem insert_grow (base g n cap i : Nat) (cur : Array Value) (cs xs : List Value) (vb vc : Nat) (xv : Array Value) (w : World) (hg : w.heap[g]? = some (.cells cur 235 (0, 0))) (hb : base ≤ w.heap.size) (hcm : cap ≤ maxLen) (hcs : cur.size = cap * 3) (ht : cur.toList.take (n * 3) = cs) (hnc : n ≤ cap) (hroom : cap < n + 1) (hi : i < n)
    (hx : w.heap[vb]? = some (.cells xv 235 (0, 0))) (hxl : xs.length = 3) (hxt : xv.toList.take 3 = xs) (hxs : xv.size = vc * 3) (hvc : 1 ≤ vc) (h1 : ∀ u ∈ xs, u.oneCell' = true) (h1c : ∀ u ∈ cs, u.oneCell' = true) (hn : n ≤ 1000) :
    Calls Tryz.prog 232 #[.slice (some ⟨g, 0, none⟩) n cap, .int .i64 i, .slice (some ⟨vb, 0, none⟩) 1 vc] w fun e w' => ∃ cap', e = .returned (.slice (some ⟨w.heap.size, 0, none⟩) (n + 1) cap') ∧ w'.ownsRow base 235 3 (.slice (some ⟨w.heap.size, 0, none⟩) (n + 1) cap') (n + 1) (cs.take (i * 3) ++ xs ++ cs.drop (i * 3)) ∧ Grow w w' := by
  obtain ⟨i0, hinf, hz0, hz1, hz2⟩ := info_parts infoT
  have hlt := lt_of_block hg
  have hltv := lt_of_block hx
  have hcm' : cap ≤ 9223372036854775807 := by unfold maxLen at hcm; omega
  have hcsl : cs.length = n * 3 := by rw [← ht, List.length_take]; simp; omega
  have hnq : ¬ ((i : Int) = (n : Int)) := by omega
  have hnq' : decide ((i : Int) = (n : Int)) = false := by simpa using hnq
  have hroom' : decide ((cap : Int) < (n : Int) + 1) = true := by simp; omega
  have hsrc : ∀ j v, cs[j]? = some v → w.cell? ⟨g, j, none⟩ = some v := fun j v hj => by
    rw [← ht, List.getElem?_take] at hj
    split at hj
    · exact cell_of_block hg (by simpa using hj)
    · cases hj
  obtain ⟨G, hG⟩ : ∃ G, G = grownCap w (n + 1) cap 235 := ⟨_, rfl⟩
  have hGn : n + 1 ≤ G := by rw [hG]; exact grownCap_ge w _ _ _
  have hGm : G ≤ maxLen := by rw [hG]; exact grownCap_le_maxLen w (n + 1) cap _ (by unfold maxLen; omega)
  have hG63 : G ≤ 9223372036854775807 := by unfold maxLen at hGm; omega
  obtain ⟨R0, hR0⟩ : ∃ R0 : Array Value, R0 = (cs.take (i * 3)).toArray ++ Builtin.zeroCells (Value.agg #[.int .i64 0, .int .i64 0, .slice none 0 0]).cells (n + 1 - i) ++ Builtin.zeroCells (Value.agg #[.int .i64 0, .int .i64 0, .slice none 0 0]).cells (G - (n + 1)) := ⟨_, rfl⟩
  have hrz : ∀ ty, (Builtin.append_ #[149, 3] ty #[.slice (some ⟨g, 0, none⟩) i cap, .int .i64 ((n : Int) + 1 - (i : Int))]).run Tryz.prog w = .ok (.slice (some ⟨w.heap.size, 0, none⟩) (n + 1) G) (w.drew.alloc (.cells R0 235)) := fun ty => by
    have hold : (Builtin.firstCells i0.size i (.slice (some ⟨g, 0, none⟩) i cap)).run Tryz.prog w.drew = .ok (cs.take (i * 3)).toArray w.drew := by
      rw [hz1]
      exact run_firstCells_some w.drew 3 i ⟨g, 0, none⟩ i cap (cs.take (i * 3)) (by rw [List.length_take]; omega) (fun j v hj => by
        rw [add_at', Nat.zero_add]
        rw [List.getElem?_take] at hj
        split at hj
        · exact hsrc j v hj
        · cases hj)
    have h := Lib.run_append_grow_zeros w 149 3 ty 235 i0 _ .i64 .i64 Tryz.underlying149 Tryz.underlying3 hinf hz0 (some ⟨g, 0, none⟩) i cap (cs.take (i * 3)) hold (n + 1 - i) (by omega) (by omega) (by omega) (by omega) (by rw [hz2]; omega) (growslice_fits_wide (by omega) (by rw [hz2]; omega))
    rw [show i + (n + 1 - i) = n + 1 from by omega, ← hG, ← hR0] at h
    rw [show (n : Int) + 1 - (i : Int) = ((n + 1 - i : Nat) : Int) from by omega]
    exact h
  have hzc : (Value.agg #[.int .i64 0, .int .i64 0, .slice none 0 0]).cells.size = 3 := rfl
  have s0 : R0.toList.length = G * 3 := by
    rw [hR0]
    simp [size_zeroCells, hzc, hcsl]
    omega
  have t0 : R0.toList.take (i * 3) = cs.take (i * 3) := by
    rw [hR0]
    simp only [Array.toList_append, List.append_assoc]
    exact List.take_left' (by simp [hcsl]; omega)
  have g0 : (w.drew.alloc (.cells R0 235)).heap[w.heap.size]? = some (.cells R0 235 (0, 0)) := heap_alloc_new w.drew _
  have gr0 : Grow w (w.drew.alloc (.cells R0 235)) := (Grow.refl w).drew.alloc _
  generalize w.drew.alloc (.cells R0 235) = W0 at *
  have x0 := grow_block gr0 hx
  obtain ⟨R1, hR1⟩ : ∃ R1 : List Value, R1 = R0.toList.take (i * 3) ++ xs ++ R0.toList.drop (i * 3 + 3) := ⟨_, rfl⟩
  obtain ⟨R2, hR2⟩ : ∃ R2 : List Value, R2 = R1.take (i * 3 + 3) ++ cs.drop (i * 3) ++ R1.drop (i * 3 + 3 + (n * 3 - i * 3)) := ⟨_, rfl⟩
  have t2 : R2.take ((n + 1) * 3) = cs.take (i * 3) ++ xs ++ cs.drop (i * 3) := by
    rw [hR2, hR1, show (n + 1) * 3 = n * 3 + 3 from by omega]
    exact row_new (by omega) hxl t0 hcsl
  have l1 : R1.length = G * 3 := by rw [hR1]; simp [hxl]; simp at s0; omega
  have l2 : R2.length = G * 3 := by rw [hR2]; simp [hcsl, l1]; omega
  have hdl : (cs.drop (i * 3)).length = (n - i) * 3 := by rw [List.length_drop]; omega
  have hcp1 : ∀ ty dc, (Builtin.copy_ #[149, 149] ty #[.slice (some ⟨w.heap.size, i * 3, none⟩) (n + 1 - i) dc, .slice (some ⟨vb, 0, none⟩) 1 vc]).run Tryz.prog W0 = .ok (goInt 1) (W0.setRow w.heap.size R1.toArray) := fun ty dc => by
    have hm : Nat.min 1 (n + 1 - i) = 1 := by simp only [Nat.min_def]; split <;> omega
    have := run_copy_row (P := Tryz.prog) W0 149 149 ty 235 3 w.heap.size (i * 3) (n + 1 - i) dc ⟨vb, 0, none⟩ 1 vc xs R0 235 Tryz.underlying149 i0 hinf hz1 (by rw [hm, hxl]) (news_block x0 hxt) g0 (by rw [hxl]; simp at s0; omega) h1
    rw [hm, hxl, ← hR1] at this
    exact this
  have g1 : (W0.setRow w.heap.size R1.toArray).heap[w.heap.size]? = some (.cells R1.toArray 235 (0, 0)) := setRow_heap W0 w.heap.size _ R1.toArray 235 (0, 0) g0
  have gr1 : Grow w (W0.setRow w.heap.size R1.toArray) := Below.trans gr0 ⟨rfl, rfl, rfl, by simp [World.setRow], fun k hk => setRow_other _ _ _ _ (by omega)⟩
  generalize W0.setRow w.heap.size R1.toArray = W1 at *
  have hcp2 : ∀ ty dc sc, (Builtin.copy_ #[149, 149] ty #[.slice (some ⟨w.heap.size, (i + 1) * 3, none⟩) (n - i) dc, .slice (some ⟨g, i * 3, none⟩) (n - i) sc]).run Tryz.prog W1.drew = .ok (goInt ((n - i : Nat) : Int)) (W1.drew.setRow w.heap.size R2.toArray) := fun ty dc sc => by
    have hm : Nat.min (n - i) (n - i) = n - i := Nat.min_self _
    have := run_copy_row (P := Tryz.prog) W1.drew 149 149 ty 235 3 w.heap.size ((i + 1) * 3) (n - i) dc ⟨g, i * 3, none⟩ (n - i) sc (cs.drop (i * 3)) R1.toArray 235 Tryz.underlying149 i0 hinf hz1 (by rw [hm, hdl])
      (fun j v hj => by
        rw [add_at']
        rw [List.getElem?_drop] at hj
        exact cell_grow gr1.drew (hsrc _ v hj)) g1 (by rw [hdl]; simp; omega) (fun v hv => h1c v (List.mem_of_mem_drop hv))
    rw [hm, hdl, show (i + 1) * 3 = i * 3 + 3 from by omega, show i * 3 + 3 + (n - i) * 3 = i * 3 + 3 + (n * 3 - i * 3) from by omega] at this
    simp only at this
    rw [← hR2] at this
    rw [show (i + 1) * 3 = i * 3 + 3 from by omega]
    exact this
  have HG2 : Hid ((W1.drew.setRow w.heap.size R2.toArray).ownsRow base 235 3 (.slice (some ⟨w.heap.size, 0, none⟩) (n + 1) G) (n + 1) (cs.take (i * 3) ++ xs ++ cs.drop (i * 3))) :=
    ⟨by simp [hxl, hcsl]; omega, .inr ⟨w.heap.size, G, R2.toArray, rfl, hb, setRow_heap W1.drew w.heap.size _ R2.toArray 235 (0, 0) g1, hGn, hGm, by simpa using l2, t2⟩⟩
  have HGR : Hid (Grow w (W1.drew.setRow w.heap.size R2.toArray)) := Below.trans gr1.drew ⟨rfl, rfl, rfl, by simp [World.setRow], fun k hk => setRow_other _ _ _ _ (by omega)⟩
  generalize W1.drew.setRow w.heap.size R2.toArray = W2 at *
  clear hR0 hR1 hR2 t0 t2 s0 l1 l2 g0 x0 gr0 g1 gr1 hdl hcsl ht h1c h1 hx hxt hxs hxl hg hcs hsrc hG hb hGm
  have hcn : ¬ (G = i + 1) := by omega
  have hcn' : ¬ (G = i) := by omega
  have hcn2 : ¬ (cap = i) := by omega
  go_enter Tryz.func232, Tryz.ntmps232
  go_wp2_with (first
    | (at_builtin; go_must (refine wpList_append_ran _ (by rfl) _ _ 149 3 (by rfl) _ _ (by rfl) (by rfl) (hrz _) ?_))
    | (at_builtin; go_must (refine wpList_copy_run _ (by rfl) _ _ 149 149 (by rfl) _ _ (by rfl) (by rfl) (hcp1 _ _) ?_)))
  refine wp_region_path [(0, 0), (1, 0), (2, 0), (3, 2), (4, 2), (5, 0), (6, 0), (7, 2), (8, 3)] (by kernel_rfl) (by kernel_rfl) (by kernel_rfl) (by kernel_rfl) ?_
  simp only [parts, headed, headed2, List.getElem?_toArray, List.getElem?_cons_zero, List.getElem?_cons_succ]
  refine parts_step fun K HK => ?_
  go_wp2_with fail
  refine HK.out _ _ (Grow.refl _) ?_
  clear HK K
  refine parts_step2 (fun hw => by first | (cases hw; done) | (apply looks_run; intro w'; go_simp; try first | rfl | rw [if_neg (by omega)] | rw [if_pos (by omega)])) fun K HK => ?_
  go_wp2_with fail
  refine HK.out _ _ (Grow.refl _) ?_
  clear HK K
  refine parts_step2 (fun hw => by first | (cases hw; done) | (apply looks_run; intro w'; go_simp; try first | rfl | rw [if_neg (by omega)] | rw [if_pos (by omega)])) fun K HK => ?_
  go_wp2_with fail
  refine HK.out _ _ (Grow.refl _) ?_
  clear HK K
  refine parts_cut2 (fun hw => by first | (cases hw; done) | (apply looks_run; intro w'; go_simp; try first | rfl | rw [if_neg (by omega)] | rw [if_pos (by omega)])) fun K HK => ?_
  go_wp2_with (at_builtin; go_must (refine wpList_copy_run _ (by rfl) _ _ 149 149 (by rfl) _ _ (by rfl) (by rfl) (hcp2 _ _ _) ?_))
  refine HK.out _ _ ?_
  clear HK K
  refine parts_step fun K HK => ?_
  go_wp2_with fail
  refine HK.out _ _ (Grow.refl _) ?_
  clear HK K
  refine parts_done ?_
  go_wp2
  go_ret
  exact ⟨G, rfl, HG2.out, HGR.out⟩

/-- slices.Insert of one wait into a row of one's own. -/
theorem insert_any (base : Nat) (v : Value) (n i : Nat) (cs xs : List Value) (vb vc : Nat) (xv : Array Value) (w : World) (hown : w.ownsRow base 235 3 v n cs) (hx : w.heap[vb]? = some (.cells xv 235 (0, 0))) (hne : v.ownBlock ≠ some vb) (hxl : xs.length = 3) (hxt : xv.toList.take 3 = xs) (hxs : xv.size = vc * 3) (hvc : 1 ≤ vc) (h1 : ∀ u ∈ xs, u.oneCell' = true) (h1c : ∀ u ∈ cs, u.oneCell' = true) (hn : n ≤ 1000) (hi : i ≤ n) (hb : base ≤ w.heap.size) :
    Calls Tryz.prog 232 #[v, .int .i64 i, .slice (some ⟨vb, 0, none⟩) 1 vc] w fun e w' => ∃ g cap, e = .returned (.slice (some ⟨g, 0, none⟩) (n + 1) cap) ∧ w'.ownsRow base 235 3 (.slice (some ⟨g, 0, none⟩) (n + 1) cap) (n + 1) (cs.take (i * 3) ++ xs ++ cs.drop (i * 3)) ∧ w.grownBy w' v.ownBlock ∧ (v.ownBlock = some g ∨ w.heap.size ≤ g) := by
  by_cases e : i = n
  · subst e
    refine (insert_end base v i cs xs vb vc xv w hown hx hxl hxt hxs hvc h1 hn hb).mono ?_
    rintro e w' ⟨g, cap, he, ho, hgr, hat⟩
    refine ⟨g, cap, he, ?_, hgr, hat.imp id fun h => by omega⟩
    have hl := hown.1
    rw [List.take_of_length_le (by omega), List.drop_of_length_le (by omega), List.append_nil]
    exact ho
  · rcases hown.2 with ⟨rfl, rfl⟩ | ⟨g, cap, cur, rfl, hbg, hg, hle, hcm, hcs, ht⟩
    · omega
    · by_cases hroom : n + 1 ≤ cap
      · refine (insert_room base g n cap i cur cs xs vb vc xv w hg hbg hcm hcs ht hroom (by omega) hx (fun e => hne (by rw [e]; rfl)) hxl hxt hxs hvc h1 h1c hn).mono ?_
        rintro e w' ⟨he, ho, hgr⟩
        exact ⟨g, cap, he, ho, hgr, .inl rfl⟩
      · refine (insert_grow base g n cap i cur cs xs vb vc xv w hg hb hcm hcs ht hle (by omega) (by omega) hx hxl hxt hxs hvc h1 h1c hn).mono ?_
        rintro e w' ⟨cap', he, ho, hgr⟩
        exact ⟨w.heap.size, cap', he, ho, grownBy_of_grow hgr _, .inr (Nat.le_refl _)⟩
end Go.Proofs.YtlioojekjnigiafGreat.IT
/- A player's turns. -/
namespace Go.Proofs.YtlioojekjnigiafGreat.AM
set_option linter.unusedVariables false
set_option linter.unusedSimpArgs false

structure Turn where
  id : Id
  needs : List Id
def Turn.enc (t : Turn) : List D := [.int .i64 t.id.r, .int .i64 t.id.n, .list (t.needs.map Id.enc)]
def Turn.arg (t : Turn) : AVal := .agg [.dat (.int .i64 t.id.r), .dat (.int .i64 t.id.n), .dat (.list (t.needs.map Id.enc))]
def putAt {α : Type} (l : List α) (i : Nat) (x : α) : List α := l.take i ++ x :: l.drop i
set_option maxHeartbeats 0 in
theorem insertTurn_end (es : List (List D)) (x : List D) (hs : es.length ≤ 1000) (hx : x.length = 3) : ECall Tryz.prog 232 [.row 0, dInt es.length, .row 1] [(0, .rows 235 3 es true), (1, .rows 235 3 [x] true)] 2 (.row 2) [(0, .dead), (1, .dead), (2, .rows 235 3 (es ++ [x]) true)] 1 := by
  refine acall_intro tab_all tab_mixed Tryz.func232 (by kernel_rfl) Tryz.ntmps232 rfl ?_
  conv => whnf
  refine .mk es.length es.length rfl rfl (Nat.le_refl _) (Nat.le_refl _) ?_
  conv => whnf
  repeat (first | (refine Conf.mk (by kernel_rfl) ?_; conv => whnf) | (refine SeqOk.go ?_; conv => whnf))
  refine BoolCase.no rfl ?_
  conv => whnf
  repeat (first | (refine Conf.mk (by kernel_rfl) ?_; conv => whnf) | (refine SeqOk.go ?_; conv => whnf))
  refine BoolCase.yes (beq_self_eq_true _) ?_
  conv => whnf
  repeat (first | (refine Conf.mk (by kernel_rfl) ?_; conv => whnf) | (refine SeqOk.go ?_; conv => whnf))
  refine ⟨by simpa using hx, by simp; omega, ?_⟩
  conv => whnf
  repeat (first | (refine Conf.mk (by kernel_rfl) ?_; conv => whnf) | (refine SeqOk.go ?_; conv => whnf))
  exact .mk [] [0, 1, 2] (.row 2) [(0, .dead), (1, .dead), (2, .rows 235 3 (es ++ [x]) true)] rfl (.same rfl) ⟨trivial, trivial, ⟨rfl, rfl, rfl, rfl⟩, trivial⟩ rfl rfl ⟨rfl, rfl, rfl⟩
theorem insertTurn_ok (l : List Turn) (t : Turn) (i : Nat) (hi : i ≤ l.length) (hs : l.length ≤ 1000) : ECall Tryz.prog 232 [.row 0, dInt i, .row 1] [(0, .rows 235 3 (l.map Turn.enc) true), (1, .rows 235 3 [t.enc] true)] 2 (.row 2) [(0, .dead), (1, .dead), (2, .rows 235 3 ((putAt l i t).map Turn.enc) true)] 1 := by
  have e : (putAt l i t).map Turn.enc = (l.map Turn.enc).take i ++ t.enc :: (l.map Turn.enc).drop i := by
    unfold putAt
    rw [List.map_append, List.map_cons, map_take', map_drop']
  rw [e]
  by_cases h : i = l.length
  · have := insertTurn_end (l.map Turn.enc) t.enc (by simpa using hs) rfl
    rw [h, List.take_of_length_le (by simp), List.drop_of_length_le (by simp)]
    rw [List.length_map] at this
    exact this
  · exact acall_insert (T := 235) (k := 3) (by decide) (by kernel_rfl) (l.map Turn.enc) t.enc i (by simp; omega) (by simpa using hs) fun n i v cs xs vb vc xv w h1 h2 h3 h4 h5 h6 h7 h8 h9 h10 h11 => IT.insert_any 0 v n i cs xs vb vc xv w h1 h2 h3 h4 h5 h6 h7 h8 h9 h10 h11 (Nat.zero_le _)
/-- Where a turn goes. -/
def placeOf' (ts : List Turn) (x : Id) : Nat := match ts with
  | [] => 0
  | t :: u => if t.id.less x = true then placeOf' u x + 1 else 0
theorem placeOf_cons (t : Turn) (u : List Turn) (x : Id) : placeOf' (t :: u) x = if t.id.less x = true then placeOf' u x + 1 else 0 := rfl
theorem placeOf_le (x : Id) : ∀ ts : List Turn, placeOf' ts x ≤ ts.length
  | [] => Nat.le_refl _
  | t :: u => by
    unfold placeOf'
    have := placeOf_le x u
    split <;> simp <;> omega
theorem placeOf_lt {x : Id} : ∀ {ts : List Turn} {i : Nat} (hi : i < ts.length), i < placeOf' ts x → ts[i].id.less x = true
  | [], i, hi, _ => by simp at hi
  | t :: u, i, hi, h => by
    unfold placeOf' at h
    split at h
    · rename_i hl
      match i with
      | 0 => exact hl
      | i + 1 => exact placeOf_lt (ts := u) (by simpa using hi) (by omega)
    · omega
theorem placeOf_at {x : Id} : ∀ {ts : List Turn} (hi : placeOf' ts x < ts.length), (ts[placeOf' ts x]).id.less x = false
  | [], hi => by simp at hi
  | t :: u, hi => by
    by_cases hl : t.id.less x = true
    · have e : placeOf' (t :: u) x = placeOf' u x + 1 := by rw [placeOf_cons, if_pos hl]
      have hi' : placeOf' u x < u.length := by rw [e] at hi; simpa using hi
      have := placeOf_at (ts := u) hi'
      simp only [e, List.getElem_cons_succ]
      exact this
    · have e : placeOf' (t :: u) x = 0 := by rw [placeOf_cons, if_neg hl]
      simp only [e, List.getElem_cons_zero]
      simpa using hl
def insT (ts : List Turn) (t : Turn) : List Turn := putAt ts (placeOf' ts t.id) t
set_option maxHeartbeats 0 in
theorem add_ok (c : Int) (ts : List Turn) (t : Turn) (hs : ts.length ≤ 1000) : ECall Tryz.prog 176 [.ptr 0 0, t.arg] [(0, .vars 151 3 [dInt c, .nil, .row 1] true), (1, .rows 235 3 (ts.map Turn.enc) true)] 2 (.tup []) [(0, .vars 151 3 [dInt c, .nil, .row 2] true), (1, .dead), (2, .rows 235 3 ((insT ts t).map Turn.enc) true)] 1 := by
  have hple := placeOf_le t.id ts
  refine acall_cut tab_all tab_mixed Tryz.func176 (by kernel_rfl) Tryz.ntmps176 rfl ?_
  conv => whnf
  conv => whnf
  refine SeqOk.cut' ⟨[(0, .ptr 0 0), (4, dInt (placeOf' ts t.id)), (3, .ptr 2 0)], 3, [(0, .vars 151 3 [dInt c, .nil, .row 1] true), (1, .rows 235 3 (ts.map Turn.enc) true), (2, .vars 235 3 [.dat (.int .i64 t.id.r), .dat (.int .i64 t.id.n), .dat (.list (t.needs.map Id.enc))] true)]⟩ ?_ ?_
  · conv => whnf
    refine LoopOk.mk (fun m s => ∃ i, i + m = placeOf' ts t.id ∧ s = ⟨[(0, .ptr 0 0), (4, dInt i), (3, .ptr 2 0)], 3, [(0, .vars 151 3 [dInt c, .nil, .row 1] true), (1, .rows 235 3 (ts.map Turn.enc) true), (2, .vars 235 3 [.dat (.int .i64 t.id.r), .dat (.int .i64 t.id.n), .dat (.list (t.needs.map Id.enc))] true)]⟩) (placeOf' ts t.id) (Into.mono (Into.to [0, 1, 2] [(0, .ptr 0 0), (4, dInt (0 : Nat)), (3, .ptr 2 0)] [(0, .vars 151 3 [dInt c, .nil, .row 1] true), (1, .rows 235 3 (ts.map Turn.enc) true), (2, .vars 235 3 [.dat (.int .i64 t.id.r), .dat (.int .i64 t.id.n), .dat (.list (t.needs.map Id.enc))] true)] (by repeat (first | exact trivial | refine ⟨.same (congrArg dInt (wrap_up (by omega))), ?_⟩ | refine ⟨.same rfl, ?_⟩ | refine ⟨.any _, ?_⟩)) ⟨⟨rfl, rfl, rfl, .same rfl, rfl, .same rfl, rfl, .same rfl, rfl, trivial⟩, ⟨rfl, rfl, rfl, rfl⟩, ⟨rfl, rfl, rfl, .same rfl, rfl, .same rfl, rfl, .same rfl, rfl, trivial⟩, trivial⟩ rfl rfl) fun s' h => ⟨0, by omega, h⟩) ?_
    rintro m s ⟨i, hi, rfl⟩
    conv => whnf
    repeat (first | (refine Conf.mk (by kernel_rfl) ?_; conv => whnf) | (refine SeqOk.go ?_; conv => whnf))
    refine ⟨fun h => ?_, fun h => ?_⟩
    · have hi' := lt_of_len h
      conv => whnf
      repeat (first | (refine Conf.mk (by kernel_rfl) ?_; conv => whnf) | (refine SeqOk.go ?_; conv => whnf))
      refine AtIdx.ofMap hi' rfl ?_
      conv => whnf
      repeat (first | (refine Conf.mk (by kernel_rfl) ?_; conv => whnf) | (refine SeqOk.go ?_; conv => whnf))
      refine .mk _ (by rw [List.getElem?_map, List.getElem?_eq_getElem hi']; rfl) ?_
      conv => whnf
      repeat (first | (refine Conf.mk (by kernel_rfl) ?_; conv => whnf) | (refine SeqOk.go ?_; conv => whnf))
      refine .look _ _ (less_ok ts[i].id t.id) rfl rfl ?_
      conv => whnf
      repeat (first | (refine Conf.mk (by kernel_rfl) ?_; conv => whnf) | (refine SeqOk.go ?_; conv => whnf))
      by_cases hlt : i < placeOf' ts t.id
      · refine BoolCase.yes (placeOf_lt hi' hlt) ?_
        conv => whnf
        repeat (first | (refine Conf.mk (by kernel_rfl) ?_; conv => whnf) | (refine SeqOk.go ?_; conv => whnf))
        exact Into.mono (Into.to [0, 1, 2] [(0, .ptr 0 0), (4, dInt (i + 1 : Nat)), (3, .ptr 2 0)] [(0, .vars 151 3 [dInt c, .nil, .row 1] true), (1, .rows 235 3 (ts.map Turn.enc) true), (2, .vars 235 3 [.dat (.int .i64 t.id.r), .dat (.int .i64 t.id.n), .dat (.list (t.needs.map Id.enc))] true)] (by repeat (first | exact trivial | refine ⟨.same (congrArg dInt (wrap_up (by omega))), ?_⟩ | refine ⟨.same rfl, ?_⟩ | refine ⟨.any _, ?_⟩)) ⟨⟨rfl, rfl, rfl, .same rfl, rfl, .same rfl, rfl, .same rfl, rfl, trivial⟩, ⟨rfl, rfl, rfl, rfl⟩, ⟨rfl, rfl, rfl, .same rfl, rfl, .same rfl, rfl, .same rfl, rfl, trivial⟩, trivial⟩ rfl rfl) fun s' h => ⟨m - 1, by omega, i + 1, by omega, h⟩
      · have hie : i = placeOf' ts t.id := by omega
        subst hie
        refine BoolCase.no (placeOf_at hi') ?_
        conv => whnf
        repeat (first | (refine Conf.mk (by kernel_rfl) ?_; conv => whnf) | (refine SeqOk.go ?_; conv => whnf))
        exact Into.to [0, 1, 2] [(0, .ptr 0 0), (4, dInt (placeOf' ts t.id)), (3, .ptr 2 0)] [(0, .vars 151 3 [dInt c, .nil, .row 1] true), (1, .rows 235 3 (ts.map Turn.enc) true), (2, .vars 235 3 [.dat (.int .i64 t.id.r), .dat (.int .i64 t.id.n), .dat (.list (t.needs.map Id.enc))] true)] (by repeat (first | exact trivial | refine ⟨.same (congrArg dInt (wrap_up (by omega))), ?_⟩ | refine ⟨.same rfl, ?_⟩ | refine ⟨.any _, ?_⟩)) ⟨⟨rfl, rfl, rfl, .same rfl, rfl, .same rfl, rfl, .same rfl, rfl, trivial⟩, ⟨rfl, rfl, rfl, rfl⟩, ⟨rfl, rfl, rfl, .same rfl, rfl, .same rfl, rfl, .same rfl, rfl, trivial⟩, trivial⟩ rfl rfl
    · have hie : i = placeOf' ts t.id := by have := ge_of_len h; omega
      subst hie
      conv => whnf
      repeat (first | (refine Conf.mk (by kernel_rfl) ?_; conv => whnf) | (refine SeqOk.go ?_; conv => whnf))
      exact Into.to [0, 1, 2] [(0, .ptr 0 0), (4, dInt (placeOf' ts t.id)), (3, .ptr 2 0)] [(0, .vars 151 3 [dInt c, .nil, .row 1] true), (1, .rows 235 3 (ts.map Turn.enc) true), (2, .vars 235 3 [.dat (.int .i64 t.id.r), .dat (.int .i64 t.id.n), .dat (.list (t.needs.map Id.enc))] true)] (by repeat (first | exact trivial | refine ⟨.same (congrArg dInt (wrap_up (by omega))), ?_⟩ | refine ⟨.same rfl, ?_⟩ | refine ⟨.any _, ?_⟩)) ⟨⟨rfl, rfl, rfl, .same rfl, rfl, .same rfl, rfl, .same rfl, rfl, trivial⟩, ⟨rfl, rfl, rfl, rfl⟩, ⟨rfl, rfl, rfl, .same rfl, rfl, .same rfl, rfl, .same rfl, rfl, trivial⟩, trivial⟩ rfl rfl
  · conv => whnf
    repeat (first | (refine Conf.mk (by kernel_rfl) ?_; conv => whnf) | (refine SeqOk.go ?_; conv => whnf))
    refine .eff [1, 3] _ _ _ _ 1 (insertTurn_ok ts t (placeOf' ts t.id) hple hs) rfl rfl rfl rfl rfl ?_
    conv => whnf
    repeat (first | (refine Conf.mk (by kernel_rfl) ?_; conv => whnf) | (refine SeqOk.go ?_; conv => whnf))
    exact .mk [] [0, 1, 4] (.tup []) [(0, .vars 151 3 [dInt c, .nil, .row 2] true), (1, .dead), (2, .rows 235 3 ((insT ts t).map Turn.enc) true)] rfl (.same rfl) ⟨⟨rfl, rfl, rfl, .same rfl, rfl, .same rfl, rfl, .same rfl, rfl, trivial⟩, trivial, ⟨rfl, rfl, rfl, rfl⟩, trivial⟩ rfl rfl ⟨rfl, rfl, rfl⟩
end Go.Proofs.YtlioojekjnigiafGreat.AM
/- slices.Insert and slices.Delete, of a row of waits of one's own. -/
namespace Go.Proofs.YtlioojekjnigiafGreat.IE
open Go.RowKit
set_option linter.unusedVariables false

theorem infoT : (Tryz.prog.info? 28).map (fun i => (i.zero, i.size, i.bytes)) = some (some (.agg #[.int .i64 0, .int .i64 0, .int .i64 0, .string ⟨#[]⟩, .slice none 0 0]), 5, 64) := by kernel_rfl
theorem news_block {w : World} {b : Nat} {xv : Array Value} {xs : List Value} {t : TypeId} {k : Nat} (h : w.heap[b]? = some (.cells xv t (0, 0))) (ht : xv.toList.take k = xs) : ∀ j u, xs[j]? = some u → w.cell? ((⟨b, 0, none⟩ : Addr).add j) = some u := fun j u hu => by
  rw [add_at', Nat.zero_add]
  rw [← ht, List.getElem?_take] at hu
  split at hu
  · exact cell_of_block h (by simpa using hu)
  · cases hu

set_option maxHeartbeats 2000000 in
set_option maxRecDepth 100000 in
theorem insert_end (base : Nat) (v : Value) (n : Nat) (cs xs : List Value) (vb vc : Nat) (xv : Array Value) (w : World) (hown : w.ownsRow base 28 5 v n cs) (hx : w.heap[vb]? = some (.cells xv 28 (0, 0))) (hxl : xs.length = 5) (hxt : xv.toList.take 5 = xs) (hxs : xv.size = vc * 5) (hvc : 1 ≤ vc) (h1 : ∀ u ∈ xs, u.oneCell' = true) (hn : n ≤ 1000) (hb : base ≤ w.heap.size) :
    Calls Tryz.prog 222 #[v, .int .i64 n, .slice (some ⟨vb, 0, none⟩) 1 vc] w fun e w' => ∃ g cap, e = .returned (.slice (some ⟨g, 0, none⟩) (n + 1) cap) ∧ w'.ownsRow base 28 5 (.slice (some ⟨g, 0, none⟩) (n + 1) cap) (n + 1) (cs ++ xs) ∧ w.grownBy w' v.ownBlock ∧ (v.ownBlock = some g ∨ g = w.heap.size) := by
  obtain ⟨i0, hinf, hz0, hz1, hz2⟩ := info_parts infoT
  have HX : Hid (∀ j u, xs[j]? = some u → w.cell? ((⟨vb, 0, none⟩ : Addr).add j) = some u) := news_block hx hxt
  have HO : Hid (w.ownsRow base 28 5 v n cs) := hown
  have H3 : Hid (xs.length = 1 * 5) := by show xs.length = _; omega
  clear hx hxt hxs hxl
  rcases hown.2 with ⟨rfl, rfl⟩ | ⟨g, cap, cur, rfl, hbg, hg, hle, hcm, hcs, ht⟩
  · clear hown
    go_enter Tryz.func222, Tryz.ntmps222
    go_wp2_with (at_builtin; go_must (refine wpList_append_lies _ (by rfl) _ _ 22 (by rfl) base 28 i0 (.agg #[.int .i64 0, .int .i64 0, .int .i64 0, .string ⟨#[]⟩, .slice none 0 0]) 5 64 Tryz.underlying22 hinf hz0 hz1 hz2 (by rfl) (by decide) (.slice none 0 0) 0 cs (by rfl) HO.out ⟨vb, 0, none⟩ 1 vc xs (by rfl) H3.out HX.out h1 (by decide) (by unfold maxLen; omega) (by omega) hb w.heap.size rfl ?_; intro g cap' w3 hown3 hgrow hat hltg))
    go_ret
    exact ⟨g, cap', rfl, hown3, hgrow, hat⟩
  · clear hown hg hcs ht hbg
    have hcm' : cap ≤ 9223372036854775807 := by unfold maxLen at hcm; omega
    clear hcm
    go_enter Tryz.func222, Tryz.ntmps222
    go_wp2_with (at_builtin; go_must (refine wpList_append_lies _ (by rfl) _ _ 22 (by rfl) base 28 i0 (.agg #[.int .i64 0, .int .i64 0, .int .i64 0, .string ⟨#[]⟩, .slice none 0 0]) 5 64 Tryz.underlying22 hinf hz0 hz1 hz2 (by rfl) (by decide) (.slice (some ⟨g, 0, none⟩) n cap) n cs (by rfl) HO.out ⟨vb, 0, none⟩ 1 vc xs (by rfl) H3.out HX.out h1 (by decide) (by unfold maxLen; omega) (by omega) hb w.heap.size rfl ?_; intro g' cap' w3 hown3 hgrow hat hltg))
    all_goals
      go_ret
      exact ⟨g', cap', rfl, hown3, hgrow, hat⟩

set_option maxHeartbeats 4000000 in
set_option maxRecDepth 100000 in
theorem insert_room (base g n cap i : Nat) (cur : Array Value) (cs xs : List Value) (vb vc : Nat) (xv : Array Value) (w : World) (hg : w.heap[g]? = some (.cells cur 28 (0, 0))) (hbg : base ≤ g) (hcm : cap ≤ maxLen) (hcs : cur.size = cap * 5) (ht : cur.toList.take (n * 5) = cs) (hroom : n + 1 ≤ cap) (hi : i < n)
    (hx : w.heap[vb]? = some (.cells xv 28 (0, 0))) (hne : vb ≠ g) (hxl : xs.length = 5) (hxt : xv.toList.take 5 = xs) (hxs : xv.size = vc * 5) (hvc : 1 ≤ vc) (h1 : ∀ u ∈ xs, u.oneCell' = true) (h1c : ∀ u ∈ cs, u.oneCell' = true) (hn : n ≤ 1000) :
    Calls Tryz.prog 222 #[.slice (some ⟨g, 0, none⟩) n cap, .int .i64 i, .slice (some ⟨vb, 0, none⟩) 1 vc] w fun e w' => e = .returned (.slice (some ⟨g, 0, none⟩) (n + 1) cap) ∧ w'.ownsRow base 28 5 (.slice (some ⟨g, 0, none⟩) (n + 1) cap) (n + 1) (cs.take (i * 5) ++ xs ++ cs.drop (i * 5)) ∧ w.grownBy w' (some g) := by
  obtain ⟨i0, hinf, hz0, hz1, hz2⟩ := info_parts infoT
  have hlt := lt_of_block hg
  have hcm' : cap ≤ 9223372036854775807 := by unfold maxLen at hcm; omega
  have hcsl : cs.length = n * 5 := by rw [← ht, List.length_take]; simp; omega
  have hov : ∀ lb cb, (callFunc 261 #[.slice (some ⟨vb, 0, none⟩) 1 vc, .slice (some ⟨g, (i + 1) * 5, none⟩) lb cb]).run Tryz.prog w = .ok (.value (.bool false)) w := fun lb cb => by
    rw [run_callFunc_extern Tryz.func261 (by kernel_rfl) (by kernel_rfl) (by kernel_rfl) (e := Extern.SlicesOverlaps.overlaps #[22, 22] #[4]) (by kernel_rfl),
      Lib.run_overlaps_apart w 22 4 28 Tryz.underlying22 5 Tryz.sizeOf28 ⟨vb, 0, none⟩ ⟨g, (i + 1) * 5, none⟩ 1 vc lb cb hne 28 28 (vc * 5) (cap * 5) (by simp [World.shape?, hx, hxs]) (by simp [World.shape?, hg, hcs]) (by omega) (by simp [World.frozen?, hx]) (by simp [World.frozen?, hx])]
    rfl
  have hnq : ¬ ((i : Int) = (n : Int)) := by omega
  have hnq' : decide ((i : Int) = (n : Int)) = false := by simpa using hnq
  have hroom' : decide ((cap : Int) < (n : Int) + 1) = false := by simp; omega
  obtain ⟨R1, hR1⟩ : ∃ R1 : List Value, R1 = cur.toList.take (i * 5 + 5) ++ cs.drop (i * 5) ++ cur.toList.drop (i * 5 + 5 + (n * 5 - i * 5)) := ⟨_, rfl⟩
  obtain ⟨R2, hR2⟩ : ∃ R2 : List Value, R2 = R1.take (i * 5) ++ xs ++ R1.drop (i * 5 + 5) := ⟨_, rfl⟩
  have hcl : cur.toList.length = cap * 5 := by simpa using hcs
  have t2 : R2.take ((n + 1) * 5) = cs.take (i * 5) ++ xs ++ cs.drop (i * 5) := by
    rw [hR2, hR1, show (n + 1) * 5 = n * 5 + 5 from by omega]
    exact row_shift (by omega) hxl (by omega) ht
  have s2 : R2.toArray.size = cap * 5 := by
    have := row_shift_size (cur := cur.toList) (cs := cs) (xs := xs) (I := i * 5) (N := n * 5) (k := 5) (by omega) hxl (by omega) hcsl
    rw [hR2, hR1]
    simpa [hcl] using this
  have l1 : R1.length = cap * 5 := by rw [hR1]; simp [hcsl, hcs]; omega
  have hdl : (cs.drop (i * 5)).length = (n - i) * 5 := by rw [List.length_drop]; omega
  have hcp1 : ∀ ty dc sc, (Builtin.copy_ #[22, 22] ty #[.slice (some ⟨g, (i + 1) * 5, none⟩) (n - i) dc, .slice (some ⟨g, i * 5, none⟩) (n + 1 - i) sc]).run Tryz.prog w.drew = .ok (goInt ((n - i : Nat) : Int)) (w.drew.setRow g R1.toArray) := fun ty dc sc => by
    have hm : Nat.min (n + 1 - i) (n - i) = n - i := by simp only [Nat.min_def]; split <;> omega
    have := run_copy_row (P := Tryz.prog) w.drew 22 22 ty 28 5 g ((i + 1) * 5) (n - i) dc ⟨g, i * 5, none⟩ (n + 1 - i) sc (cs.drop (i * 5)) cur 28 Tryz.underlying22 i0 hinf hz1 (by rw [hm, hdl])
      (fun j v hj => by
        rw [add_at']
        rw [List.getElem?_drop, ← ht, List.getElem?_take] at hj
        split at hj
        · exact cell_of_block (w := w.drew) hg (by simpa using hj)
        · cases hj) hg (by rw [hdl]; omega) (fun v hv => h1c v (List.mem_of_mem_drop hv))
    rw [hm, hdl, show (i + 1) * 5 = i * 5 + 5 from by omega, show i * 5 + 5 + (n - i) * 5 = i * 5 + 5 + (n * 5 - i * 5) from by omega, ← hR1] at this
    rw [show (i + 1) * 5 = i * 5 + 5 from by omega]
    exact this
  have g1 : (w.drew.setRow g R1.toArray).heap[g]? = some (.cells R1.toArray 28 (0, 0)) := setRow_heap w.drew g _ R1.toArray 28 (0, 0) hg
  have x1 : (w.drew.setRow g R1.toArray).heap[vb]? = some (.cells xv 28 (0, 0)) := (setRow_other w.drew g _ _ hne).trans hx
  have gr1 : w.grownBy (w.drew.setRow g R1.toArray) (some g) := grownBy_trans (grownBy_drew w _) (grownBy_setRow (w := w.drew) hg)
  generalize w.drew.setRow g R1.toArray = W1 at *
  have hcp2 : ∀ ty dc, (Builtin.copy_ #[22, 22] ty #[.slice (some ⟨g, i * 5, none⟩) (n + 1 - i) dc, .slice (some ⟨vb, 0, none⟩) 1 vc]).run Tryz.prog W1 = .ok (goInt 1) (W1.setRow g R2.toArray) := fun ty dc => by
    have hm : Nat.min 1 (n + 1 - i) = 1 := by simp only [Nat.min_def]; split <;> omega
    have := run_copy_row (P := Tryz.prog) W1 22 22 ty 28 5 g (i * 5) (n + 1 - i) dc ⟨vb, 0, none⟩ 1 vc xs R1.toArray 28 Tryz.underlying22 i0 hinf hz1 (by rw [hm, hxl]) (news_block x1 hxt) g1 (by rw [hxl]; simp; omega) h1
    rw [hm, hxl] at this
    simp only at this
    rw [← hR2] at this
    exact this
  have HG2 : Hid ((W1.setRow g R2.toArray).ownsRow base 28 5 (.slice (some ⟨g, 0, none⟩) (n + 1) cap) (n + 1) (cs.take (i * 5) ++ xs ++ cs.drop (i * 5))) :=
    ⟨by simp [hxl, hcsl]; omega, .inr ⟨g, cap, R2.toArray, rfl, hbg, setRow_heap W1 g _ R2.toArray 28 (0, 0) g1, hroom, hcm, s2, t2⟩⟩
  have HGR : Hid (w.grownBy (W1.setRow g R2.toArray) (some g)) := grownBy_trans gr1 (grownBy_setRow g1)
  clear hR1 hR2 t2 s2 l1 g1 x1 gr1 hcl hdl hcsl ht h1c h1 hx hxt hxs hxl hg hcs
  have hcn : ¬ (cap = i + 1) := by omega
  have hcn' : ¬ (cap = i) := by omega
  go_enter Tryz.func222, Tryz.ntmps222
  go_wp2_with (simp only [hov])
  refine wp_region_path [(0, 0), (1, 0), (2, 0), (3, 2), (4, 2), (5, 0), (6, 0), (7, 2), (8, 3)] (by kernel_rfl) (by kernel_rfl) (by kernel_rfl) (by kernel_rfl) ?_
  simp only [parts, headed, headed2, List.getElem?_toArray, List.getElem?_cons_zero, List.getElem?_cons_succ]
  refine parts_step fun K HK => ?_
  go_wp2_with fail
  refine HK.out _ _ (Grow.refl _) ?_
  clear HK K
  refine parts_step2 (fun hw => by first | (cases hw; done) | (apply looks_run; intro w'; go_simp; try first | rfl | rw [if_neg (by omega)] | rw [if_pos (by omega)])) fun K HK => ?_
  go_wp2_with fail
  refine HK.out _ _ (Grow.refl _) ?_
  clear HK K
  refine parts_step2 (fun hw => by first | (cases hw; done) | (apply looks_run; intro w'; go_simp; try first | rfl | rw [if_neg (by omega)] | rw [if_pos (by omega)])) fun K HK => ?_
  go_wp2_with fail
  refine HK.out _ _ (Grow.refl _) ?_
  clear HK K
  refine parts_cut2 (fun hw => by first | (cases hw; done) | (apply looks_run; intro w'; go_simp; try first | rfl | rw [if_neg (by omega)] | rw [if_pos (by omega)])) fun K HK => ?_
  go_wp2_with (at_builtin; go_must (refine wpList_copy_run _ (by rfl) _ _ 22 22 (by rfl) _ _ (by rfl) (by rfl) (hcp1 _ _ _) ?_))
  refine HK.out _ _ ?_
  clear HK K
  refine parts_step fun K HK => ?_
  go_wp2_with fail
  refine HK.out _ _ (Grow.refl _) ?_
  clear HK K
  refine parts_done ?_
  go_wp2_with (at_builtin; refine wpList_copy_run _ (by rfl) _ _ 22 22 (by rfl) _ _ (by rfl) (by rfl) (hcp2 _ _) ?_)
  go_ret
  exact ⟨rfl, HG2.out, HGR.out⟩

set_option maxHeartbeats 4000000 in
set_option maxRecDepth 100000 in
theorem insert_grow (base g n cap i : Nat) (cur : Array Value) (cs xs : List Value) (vb vc : Nat) (xv : Array Value) (w : World) (hg : w.heap[g]? = some (.cells cur 28 (0, 0))) (hb : base ≤ w.heap.size) (hcm : cap ≤ maxLen) (hcs : cur.size = cap * 5) (ht : cur.toList.take (n * 5) = cs) (hnc : n ≤ cap) (hroom : cap < n + 1) (hi : i < n)
    (hx : w.heap[vb]? = some (.cells xv 28 (0, 0))) (hxl : xs.length = 5) (hxt : xv.toList.take 5 = xs) (hxs : xv.size = vc * 5) (hvc : 1 ≤ vc) (h1 : ∀ u ∈ xs, u.oneCell' = true) (h1c : ∀ u ∈ cs, u.oneCell' = true) (hn : n ≤ 1000) :
    Calls Tryz.prog 222 #[.slice (some ⟨g, 0, none⟩) n cap, .int .i64 i, .slice (some ⟨vb, 0, none⟩) 1 vc] w fun e w' => ∃ cap', e = .returned (.slice (some ⟨w.heap.size, 0, none⟩) (n + 1) cap') ∧ w'.ownsRow base 28 5 (.slice (some ⟨w.heap.size, 0, none⟩) (n + 1) cap') (n + 1) (cs.take (i * 5) ++ xs ++ cs.drop (i * 5)) ∧ Grow w w' := by
  obtain ⟨i0, hinf, hz0, hz1, hz2⟩ := info_parts infoT
  have hlt := lt_of_block hg
  have hltv := lt_of_block hx
  have hcm' : cap ≤ 9223372036854775807 := by unfold maxLen at hcm; omega
  have hcsl : cs.length = n * 5 := by rw [← ht, List.length_take]; simp; omega
  have hnq : ¬ ((i : Int) = (n : Int)) := by omega
  have hnq' : decide ((i : Int) = (n : Int)) = false := by simpa using hnq
  have hroom' : decide ((cap : Int) < (n : Int) + 1) = true := by simp; omega
  have hsrc : ∀ j v, cs[j]? = some v → w.cell? ⟨g, j, none⟩ = some v := fun j v hj => by
    rw [← ht, List.getElem?_take] at hj
    split at hj
    · exact cell_of_block hg (by simpa using hj)
    · cases hj
  obtain ⟨G, hG⟩ : ∃ G, G = grownCap w (n + 1) cap 28 := ⟨_, rfl⟩
  have hGn : n + 1 ≤ G := by rw [hG]; exact grownCap_ge w _ _ _
  have hGm : G ≤ maxLen := by rw [hG]; exact grownCap_le_maxLen w (n + 1) cap _ (by unfold maxLen; omega)
  have hG63 : G ≤ 9223372036854775807 := by unfold maxLen at hGm; omega
  obtain ⟨R0, hR0⟩ : ∃ R0 : Array Value, R0 = (cs.take (i * 5)).toArray ++ Builtin.zeroCells (Value.agg #[.int .i64 0, .int .i64 0, .int .i64 0, .string ⟨#[]⟩, .slice none 0 0]).cells (n + 1 - i) ++ Builtin.zeroCells (Value.agg #[.int .i64 0, .int .i64 0, .int .i64 0, .string ⟨#[]⟩, .slice none 0 0]).cells (G - (n + 1)) := ⟨_, rfl⟩
  have hrz : ∀ ty, (Builtin.append_ #[22, 3] ty #[.slice (some ⟨g, 0, none⟩) i cap, .int .i64 ((n : Int) + 1 - (i : Int))]).run Tryz.prog w = .ok (.slice (some ⟨w.heap.size, 0, none⟩) (n + 1) G) (w.drew.alloc (.cells R0 28)) := fun ty => by
    have hold : (Builtin.firstCells i0.size i (.slice (some ⟨g, 0, none⟩) i cap)).run Tryz.prog w.drew = .ok (cs.take (i * 5)).toArray w.drew := by
      rw [hz1]
      exact run_firstCells_some w.drew 5 i ⟨g, 0, none⟩ i cap (cs.take (i * 5)) (by rw [List.length_take]; omega) (fun j v hj => by
        rw [add_at', Nat.zero_add]
        rw [List.getElem?_take] at hj
        split at hj
        · exact hsrc j v hj
        · cases hj)
    have h := Lib.run_append_grow_zeros w 22 3 ty 28 i0 _ .i64 .i64 Tryz.underlying22 Tryz.underlying3 hinf hz0 (some ⟨g, 0, none⟩) i cap (cs.take (i * 5)) hold (n + 1 - i) (by omega) (by omega) (by omega) (by omega) (by rw [hz2]; omega) (growslice_fits_wide (by omega) (by rw [hz2]; omega))
    rw [show i + (n + 1 - i) = n + 1 from by omega, ← hG, ← hR0] at h
    rw [show (n : Int) + 1 - (i : Int) = ((n + 1 - i : Nat) : Int) from by omega]
    exact h
  have hzc : (Value.agg #[.int .i64 0, .int .i64 0, .int .i64 0, .string ⟨#[]⟩, .slice none 0 0]).cells.size = 5 := rfl
  have s0 : R0.toList.length = G * 5 := by
    rw [hR0]
    simp [size_zeroCells, hzc, hcsl]
    omega
  have t0 : R0.toList.take (i * 5) = cs.take (i * 5) := by
    rw [hR0]
    simp only [Array.toList_append, List.append_assoc]
    exact List.take_left' (by simp [hcsl]; omega)
  have g0 : (w.drew.alloc (.cells R0 28)).heap[w.heap.size]? = some (.cells R0 28 (0, 0)) := heap_alloc_new w.drew _
  have gr0 : Grow w (w.drew.alloc (.cells R0 28)) := (Grow.refl w).drew.alloc _
  generalize w.drew.alloc (.cells R0 28) = W0 at *
  have x0 := grow_block gr0 hx
  obtain ⟨R1, hR1⟩ : ∃ R1 : List Value, R1 = R0.toList.take (i * 5) ++ xs ++ R0.toList.drop (i * 5 + 5) := ⟨_, rfl⟩
  obtain ⟨R2, hR2⟩ : ∃ R2 : List Value, R2 = R1.take (i * 5 + 5) ++ cs.drop (i * 5) ++ R1.drop (i * 5 + 5 + (n * 5 - i * 5)) := ⟨_, rfl⟩
  have t2 : R2.take ((n + 1) * 5) = cs.take (i * 5) ++ xs ++ cs.drop (i * 5) := by
    rw [hR2, hR1, show (n + 1) * 5 = n * 5 + 5 from by omega]
    exact row_new (by omega) hxl t0 hcsl
  have l1 : R1.length = G * 5 := by rw [hR1]; simp [hxl]; simp at s0; omega
  have l2 : R2.length = G * 5 := by rw [hR2]; simp [hcsl, l1]; omega
  have hdl : (cs.drop (i * 5)).length = (n - i) * 5 := by rw [List.length_drop]; omega
  have hcp1 : ∀ ty dc, (Builtin.copy_ #[22, 22] ty #[.slice (some ⟨w.heap.size, i * 5, none⟩) (n + 1 - i) dc, .slice (some ⟨vb, 0, none⟩) 1 vc]).run Tryz.prog W0 = .ok (goInt 1) (W0.setRow w.heap.size R1.toArray) := fun ty dc => by
    have hm : Nat.min 1 (n + 1 - i) = 1 := by simp only [Nat.min_def]; split <;> omega
    have := run_copy_row (P := Tryz.prog) W0 22 22 ty 28 5 w.heap.size (i * 5) (n + 1 - i) dc ⟨vb, 0, none⟩ 1 vc xs R0 28 Tryz.underlying22 i0 hinf hz1 (by rw [hm, hxl]) (news_block x0 hxt) g0 (by rw [hxl]; simp at s0; omega) h1
    rw [hm, hxl, ← hR1] at this
    exact this
  have g1 : (W0.setRow w.heap.size R1.toArray).heap[w.heap.size]? = some (.cells R1.toArray 28 (0, 0)) := setRow_heap W0 w.heap.size _ R1.toArray 28 (0, 0) g0
  have gr1 : Grow w (W0.setRow w.heap.size R1.toArray) := Below.trans gr0 ⟨rfl, rfl, rfl, by simp [World.setRow], fun k hk => setRow_other _ _ _ _ (by omega)⟩
  generalize W0.setRow w.heap.size R1.toArray = W1 at *
  have hcp2 : ∀ ty dc sc, (Builtin.copy_ #[22, 22] ty #[.slice (some ⟨w.heap.size, (i + 1) * 5, none⟩) (n - i) dc, .slice (some ⟨g, i * 5, none⟩) (n - i) sc]).run Tryz.prog W1.drew = .ok (goInt ((n - i : Nat) : Int)) (W1.drew.setRow w.heap.size R2.toArray) := fun ty dc sc => by
    have hm : Nat.min (n - i) (n - i) = n - i := Nat.min_self _
    have := run_copy_row (P := Tryz.prog) W1.drew 22 22 ty 28 5 w.heap.size ((i + 1) * 5) (n - i) dc ⟨g, i * 5, none⟩ (n - i) sc (cs.drop (i * 5)) R1.toArray 28 Tryz.underlying22 i0 hinf hz1 (by rw [hm, hdl])
      (fun j v hj => by
        rw [add_at']
        rw [List.getElem?_drop] at hj
        exact cell_grow gr1.drew (hsrc _ v hj)) g1 (by rw [hdl]; simp; omega) (fun v hv => h1c v (List.mem_of_mem_drop hv))
    rw [hm, hdl, show (i + 1) * 5 = i * 5 + 5 from by omega, show i * 5 + 5 + (n - i) * 5 = i * 5 + 5 + (n * 5 - i * 5) from by omega] at this
    simp only at this
    rw [← hR2] at this
    rw [show (i + 1) * 5 = i * 5 + 5 from by omega]
    exact this
  have HG2 : Hid ((W1.drew.setRow w.heap.size R2.toArray).ownsRow base 28 5 (.slice (some ⟨w.heap.size, 0, none⟩) (n + 1) G) (n + 1) (cs.take (i * 5) ++ xs ++ cs.drop (i * 5))) :=
    ⟨by simp [hxl, hcsl]; omega, .inr ⟨w.heap.size, G, R2.toArray, rfl, hb, setRow_heap W1.drew w.heap.size _ R2.toArray 28 (0, 0) g1, hGn, hGm, by simpa using l2, t2⟩⟩
  have HGR : Hid (Grow w (W1.drew.setRow w.heap.size R2.toArray)) := Below.trans gr1.drew ⟨rfl, rfl, rfl, by simp [World.setRow], fun k hk => setRow_other _ _ _ _ (by omega)⟩
  generalize W1.drew.setRow w.heap.size R2.toArray = W2 at *
  clear hR0 hR1 hR2 t0 t2 s0 l1 l2 g0 x0 gr0 g1 gr1 hdl hcsl ht h1c h1 hx hxt hxs hxl hg hcs hsrc hG hb hGm
  have hcn : ¬ (G = i + 1) := by omega
  have hcn' : ¬ (G = i) := by omega
  have hcn2 : ¬ (cap = i) := by omega
  go_enter Tryz.func222, Tryz.ntmps222
  go_wp2_with (first
    | (at_builtin; go_must (refine wpList_append_ran _ (by rfl) _ _ 22 3 (by rfl) _ _ (by rfl) (by rfl) (hrz _) ?_))
    | (at_builtin; go_must (refine wpList_copy_run _ (by rfl) _ _ 22 22 (by rfl) _ _ (by rfl) (by rfl) (hcp1 _ _) ?_)))
  refine wp_region_path [(0, 0), (1, 0), (2, 0), (3, 2), (4, 2), (5, 0), (6, 0), (7, 2), (8, 3)] (by kernel_rfl) (by kernel_rfl) (by kernel_rfl) (by kernel_rfl) ?_
  simp only [parts, headed, headed2, List.getElem?_toArray, List.getElem?_cons_zero, List.getElem?_cons_succ]
  refine parts_step fun K HK => ?_
  go_wp2_with fail
  refine HK.out _ _ (Grow.refl _) ?_
  clear HK K
  refine parts_step2 (fun hw => by first | (cases hw; done) | (apply looks_run; intro w'; go_simp; try first | rfl | rw [if_neg (by omega)] | rw [if_pos (by omega)])) fun K HK => ?_
  go_wp2_with fail
  refine HK.out _ _ (Grow.refl _) ?_
  clear HK K
  refine parts_step2 (fun hw => by first | (cases hw; done) | (apply looks_run; intro w'; go_simp; try first | rfl | rw [if_neg (by omega)] | rw [if_pos (by omega)])) fun K HK => ?_
  go_wp2_with fail
  refine HK.out _ _ (Grow.refl _) ?_
  clear HK K
  refine parts_cut2 (fun hw => by first | (cases hw; done) | (apply looks_run; intro w'; go_simp; try first | rfl | rw [if_neg (by omega)] | rw [if_pos (by omega)])) fun K HK => ?_
  go_wp2_with (at_builtin; go_must (refine wpList_copy_run _ (by rfl) _ _ 22 22 (by rfl) _ _ (by rfl) (by rfl) (hcp2 _ _ _) ?_))
  refine HK.out _ _ ?_
  clear HK K
  refine parts_step fun K HK => ?_
  go_wp2_with fail
  refine HK.out _ _ (Grow.refl _) ?_
  clear HK K
  refine parts_done ?_
  go_wp2
  go_ret
  exact ⟨G, rfl, HG2.out, HGR.out⟩

/-- slices.Insert of one wait into a row of one's own. -/
theorem insert_any (base : Nat) (v : Value) (n i : Nat) (cs xs : List Value) (vb vc : Nat) (xv : Array Value) (w : World) (hown : w.ownsRow base 28 5 v n cs) (hx : w.heap[vb]? = some (.cells xv 28 (0, 0))) (hne : v.ownBlock ≠ some vb) (hxl : xs.length = 5) (hxt : xv.toList.take 5 = xs) (hxs : xv.size = vc * 5) (hvc : 1 ≤ vc) (h1 : ∀ u ∈ xs, u.oneCell' = true) (h1c : ∀ u ∈ cs, u.oneCell' = true) (hn : n ≤ 1000) (hi : i ≤ n) (hb : base ≤ w.heap.size) :
    Calls Tryz.prog 222 #[v, .int .i64 i, .slice (some ⟨vb, 0, none⟩) 1 vc] w fun e w' => ∃ g cap, e = .returned (.slice (some ⟨g, 0, none⟩) (n + 1) cap) ∧ w'.ownsRow base 28 5 (.slice (some ⟨g, 0, none⟩) (n + 1) cap) (n + 1) (cs.take (i * 5) ++ xs ++ cs.drop (i * 5)) ∧ w.grownBy w' v.ownBlock ∧ (v.ownBlock = some g ∨ w.heap.size ≤ g) := by
  by_cases e : i = n
  · subst e
    refine (insert_end base v i cs xs vb vc xv w hown hx hxl hxt hxs hvc h1 hn hb).mono ?_
    rintro e w' ⟨g, cap, he, ho, hgr, hat⟩
    refine ⟨g, cap, he, ?_, hgr, hat.imp id fun h => by omega⟩
    have hl := hown.1
    rw [List.take_of_length_le (by omega), List.drop_of_length_le (by omega), List.append_nil]
    exact ho
  · rcases hown.2 with ⟨rfl, rfl⟩ | ⟨g, cap, cur, rfl, hbg, hg, hle, hcm, hcs, ht⟩
    · omega
    · by_cases hroom : n + 1 ≤ cap
      · refine (insert_room base g n cap i cur cs xs vb vc xv w hg hbg hcm hcs ht hroom (by omega) hx (fun e => hne (by rw [e]; rfl)) hxl hxt hxs hvc h1 h1c hn).mono ?_
        rintro e w' ⟨he, ho, hgr⟩
        exact ⟨g, cap, he, ho, hgr, .inl rfl⟩
      · refine (insert_grow base g n cap i cur cs xs vb vc xv w hg hb hcm hcs ht hle (by omega) (by omega) hx hxl hxt hxs hvc h1 h1c hn).mono ?_
        rintro e w' ⟨cap', he, ho, hgr⟩
        exact ⟨w.heap.size, cap', he, ho, grownBy_of_grow hgr _, .inr (Nat.le_refl _)⟩
end Go.Proofs.YtlioojekjnigiafGreat.IE
/- Sites: one more waits. -/
namespace Go.Proofs.YtlioojekjnigiafGreat.AM
set_option linter.unusedVariables false
set_option linter.unusedSimpArgs false
set_option maxHeartbeats 0 in
theorem insertEntry_end (es : List (List D)) (x : List D) (hs : es.length ≤ 1000) (hx : x.length = 5) : ECall Tryz.prog 222 [.row 0, dInt es.length, .row 1] [(0, .rows 28 5 es true), (1, .rows 28 5 [x] true)] 2 (.row 2) [(0, .dead), (1, .dead), (2, .rows 28 5 (es ++ [x]) true)] 1 := by
  refine acall_intro tab_all tab_mixed Tryz.func222 (by kernel_rfl) Tryz.ntmps222 rfl ?_
  conv => whnf
  refine .mk es.length es.length rfl rfl (Nat.le_refl _) (Nat.le_refl _) ?_
  conv => whnf
  repeat (first | (refine Conf.mk (by kernel_rfl) ?_; conv => whnf) | (refine SeqOk.go ?_; conv => whnf))
  refine BoolCase.no rfl ?_
  conv => whnf
  repeat (first | (refine Conf.mk (by kernel_rfl) ?_; conv => whnf) | (refine SeqOk.go ?_; conv => whnf))
  refine BoolCase.yes (beq_self_eq_true _) ?_
  conv => whnf
  repeat (first | (refine Conf.mk (by kernel_rfl) ?_; conv => whnf) | (refine SeqOk.go ?_; conv => whnf))
  refine ⟨by simpa using hx, by simp; omega, ?_⟩
  conv => whnf
  repeat (first | (refine Conf.mk (by kernel_rfl) ?_; conv => whnf) | (refine SeqOk.go ?_; conv => whnf))
  exact .mk [] [0, 1, 2] (.row 2) [(0, .dead), (1, .dead), (2, .rows 28 5 (es ++ [x]) true)] rfl (.same rfl) ⟨trivial, trivial, ⟨rfl, rfl, rfl, rfl⟩, trivial⟩ rfl rfl ⟨rfl, rfl, rfl⟩
theorem insertEntry_ok (l : List Entry') (t : Entry') (i : Nat) (hi : i ≤ l.length) (hs : l.length ≤ 1000) : ECall Tryz.prog 222 [.row 0, dInt i, .row 1] [(0, .rows 28 5 (l.map Entry'.enc) true), (1, .rows 28 5 [t.enc] true)] 2 (.row 2) [(0, .dead), (1, .dead), (2, .rows 28 5 ((putAt l i t).map Entry'.enc) true)] 1 := by
  have e : (putAt l i t).map Entry'.enc = (l.map Entry'.enc).take i ++ t.enc :: (l.map Entry'.enc).drop i := by
    unfold putAt
    rw [List.map_append, List.map_cons, map_take', map_drop']
  rw [e]
  by_cases h : i = l.length
  · have := insertEntry_end (l.map Entry'.enc) t.enc (by simpa using hs) rfl
    rw [h, List.take_of_length_le (by simp), List.drop_of_length_le (by simp)]
    rw [List.length_map] at this
    exact this
  · exact acall_insert (T := 28) (k := 5) (by decide) (by kernel_rfl) (l.map Entry'.enc) t.enc i (by simp; omega) (by simpa using hs) fun n i v cs xs vb vc xv w h1 h2 h3 h4 h5 h6 h7 h8 h9 h10 h11 => IE.insert_any 0 v n i cs xs vb vc xv w h1 h2 h3 h4 h5 h6 h7 h8 h9 h10 h11 (Nat.zero_le _)
/-- Where one that waits goes. -/
def waitAt (ws : List Entry') (x : Id) : Nat := match ws with
  | [] => 0
  | t :: u => if t.id.less x = true then waitAt u x + 1 else 0
theorem waitAt_cons (t : Entry') (u : List Entry') (x : Id) : waitAt (t :: u) x = if t.id.less x = true then waitAt u x + 1 else 0 := rfl
theorem waitAt_le (x : Id) : ∀ ws : List Entry', waitAt ws x ≤ ws.length
  | [] => Nat.le_refl _
  | t :: u => by
    unfold waitAt
    have := waitAt_le x u
    split <;> simp <;> omega
theorem waitAt_lt {x : Id} : ∀ {ws : List Entry'} {i : Nat} (hi : i < ws.length), i < waitAt ws x → ws[i].id.less x = true
  | [], i, hi, _ => by simp at hi
  | t :: u, i, hi, h => by
    unfold waitAt at h
    split at h
    · rename_i hl
      match i with
      | 0 => exact hl
      | i + 1 => exact waitAt_lt (ws := u) (by simpa using hi) (by omega)
    · omega
theorem waitAt_at {x : Id} : ∀ {ws : List Entry'} (hi : waitAt ws x < ws.length), (ws[waitAt ws x]).id.less x = false
  | [], hi => by simp at hi
  | t :: u, hi => by
    by_cases hl : t.id.less x = true
    · have e : waitAt (t :: u) x = waitAt u x + 1 := by rw [waitAt_cons, if_pos hl]
      have hi' : waitAt u x < u.length := by rw [e] at hi; simpa using hi
      have := waitAt_at (ws := u) hi'
      simp only [e, List.getElem_cons_succ]
      exact this
    · have e : waitAt (t :: u) x = 0 := by rw [waitAt_cons, if_neg hl]
      simp only [e, List.getElem_cons_zero]
      simpa using hl
set_option maxHeartbeats 0 in
theorem await_ok (r : Int) (log ws : List Entry') (e : Entry') (hs : ws.length ≤ 1000) : ECall Tryz.prog 147 [.ptr 0 0, e.arg] [(0, .vars 121 3 [dInt r, .row 1, .row 2] true), (1, .rows 28 5 (log.map Entry'.enc) true), (2, .rows 28 5 (ws.map Entry'.enc) true)] 3 (.tup []) [(0, .vars 121 3 [dInt r, .row 1, .row 3] true), (1, .rows 28 5 (log.map Entry'.enc) true), (2, .dead), (3, .rows 28 5 ((putAt ws (waitAt ws e.id) e).map Entry'.enc) true)] 1 := by
  have hple := waitAt_le e.id ws
  refine acall_cut tab_all tab_mixed Tryz.func147 (by kernel_rfl) Tryz.ntmps147 rfl ?_
  conv => whnf
  conv => whnf
  refine SeqOk.cut' ⟨[(0, .ptr 0 0), (4, dInt (waitAt ws e.id)), (3, .ptr 3 0)], 4, [(0, .vars 121 3 [dInt r, .row 1, .row 2] true), (1, .rows 28 5 (log.map Entry'.enc) true), (2, .rows 28 5 (ws.map Entry'.enc) true), (3, .vars 28 5 [dInt e.id.r, dInt e.id.n, dInt e.colors, .dat (.str e.text), .dat (.list (e.links.map Id.enc))] true)]⟩ ?_ ?_
  · conv => whnf
    refine LoopOk.mk (fun m s => ∃ i, i + m = waitAt ws e.id ∧ s = ⟨[(0, .ptr 0 0), (4, dInt i), (3, .ptr 3 0)], 4, [(0, .vars 121 3 [dInt r, .row 1, .row 2] true), (1, .rows 28 5 (log.map Entry'.enc) true), (2, .rows 28 5 (ws.map Entry'.enc) true), (3, .vars 28 5 [dInt e.id.r, dInt e.id.n, dInt e.colors, .dat (.str e.text), .dat (.list (e.links.map Id.enc))] true)]⟩) (waitAt ws e.id) (Into.mono (Into.to [0, 1, 2, 3] [(0, .ptr 0 0), (4, dInt (0 : Nat)), (3, .ptr 3 0)] [(0, .vars 121 3 [dInt r, .row 1, .row 2] true), (1, .rows 28 5 (log.map Entry'.enc) true), (2, .rows 28 5 (ws.map Entry'.enc) true), (3, .vars 28 5 [dInt e.id.r, dInt e.id.n, dInt e.colors, .dat (.str e.text), .dat (.list (e.links.map Id.enc))] true)] (by repeat (first | exact trivial | refine ⟨.same (congrArg dInt (wrap_up (by omega))), ?_⟩ | refine ⟨.same rfl, ?_⟩ | refine ⟨.any _, ?_⟩)) ⟨⟨rfl, rfl, rfl, .same rfl, rfl, .same rfl, rfl, .same rfl, rfl, trivial⟩, ⟨rfl, rfl, rfl, rfl⟩, ⟨rfl, rfl, rfl, rfl⟩, ⟨rfl, rfl, rfl, .same rfl, rfl, .same rfl, rfl, .same rfl, rfl, .same rfl, rfl, .same rfl, rfl, trivial⟩, trivial⟩ rfl rfl) fun s' h => ⟨0, by omega, h⟩) ?_
    rintro m s ⟨i, hi, rfl⟩
    conv => whnf
    repeat (first | (refine Conf.mk (by kernel_rfl) ?_; conv => whnf) | (refine SeqOk.go ?_; conv => whnf))
    refine ⟨fun h => ?_, fun h => ?_⟩
    · have hi' := lt_of_len h
      conv => whnf
      repeat (first | (refine Conf.mk (by kernel_rfl) ?_; conv => whnf) | (refine SeqOk.go ?_; conv => whnf))
      refine AtIdx.ofMap hi' rfl ?_
      conv => whnf
      repeat (first | (refine Conf.mk (by kernel_rfl) ?_; conv => whnf) | (refine SeqOk.go ?_; conv => whnf))
      refine .mk _ (by rw [List.getElem?_map, List.getElem?_eq_getElem hi']; rfl) ?_
      conv => whnf
      repeat (first | (refine Conf.mk (by kernel_rfl) ?_; conv => whnf) | (refine SeqOk.go ?_; conv => whnf))
      refine .look _ _ (less_ok ws[i].id e.id) rfl rfl ?_
      conv => whnf
      repeat (first | (refine Conf.mk (by kernel_rfl) ?_; conv => whnf) | (refine SeqOk.go ?_; conv => whnf))
      by_cases hlt : i < waitAt ws e.id
      · refine BoolCase.yes (waitAt_lt hi' hlt) ?_
        conv => whnf
        repeat (first | (refine Conf.mk (by kernel_rfl) ?_; conv => whnf) | (refine SeqOk.go ?_; conv => whnf))
        exact Into.mono (Into.to [0, 1, 2, 3] [(0, .ptr 0 0), (4, dInt (i + 1 : Nat)), (3, .ptr 3 0)] [(0, .vars 121 3 [dInt r, .row 1, .row 2] true), (1, .rows 28 5 (log.map Entry'.enc) true), (2, .rows 28 5 (ws.map Entry'.enc) true), (3, .vars 28 5 [dInt e.id.r, dInt e.id.n, dInt e.colors, .dat (.str e.text), .dat (.list (e.links.map Id.enc))] true)] (by repeat (first | exact trivial | refine ⟨.same (congrArg dInt (wrap_up (by omega))), ?_⟩ | refine ⟨.same rfl, ?_⟩ | refine ⟨.any _, ?_⟩)) ⟨⟨rfl, rfl, rfl, .same rfl, rfl, .same rfl, rfl, .same rfl, rfl, trivial⟩, ⟨rfl, rfl, rfl, rfl⟩, ⟨rfl, rfl, rfl, rfl⟩, ⟨rfl, rfl, rfl, .same rfl, rfl, .same rfl, rfl, .same rfl, rfl, .same rfl, rfl, .same rfl, rfl, trivial⟩, trivial⟩ rfl rfl) fun s' h => ⟨m - 1, by omega, i + 1, by omega, h⟩
      · have hie : i = waitAt ws e.id := by omega
        subst hie
        refine BoolCase.no (waitAt_at hi') ?_
        conv => whnf
        repeat (first | (refine Conf.mk (by kernel_rfl) ?_; conv => whnf) | (refine SeqOk.go ?_; conv => whnf))
        exact Into.to [0, 1, 2, 3] [(0, .ptr 0 0), (4, dInt (waitAt ws e.id)), (3, .ptr 3 0)] [(0, .vars 121 3 [dInt r, .row 1, .row 2] true), (1, .rows 28 5 (log.map Entry'.enc) true), (2, .rows 28 5 (ws.map Entry'.enc) true), (3, .vars 28 5 [dInt e.id.r, dInt e.id.n, dInt e.colors, .dat (.str e.text), .dat (.list (e.links.map Id.enc))] true)] (by repeat (first | exact trivial | refine ⟨.same (congrArg dInt (wrap_up (by omega))), ?_⟩ | refine ⟨.same rfl, ?_⟩ | refine ⟨.any _, ?_⟩)) ⟨⟨rfl, rfl, rfl, .same rfl, rfl, .same rfl, rfl, .same rfl, rfl, trivial⟩, ⟨rfl, rfl, rfl, rfl⟩, ⟨rfl, rfl, rfl, rfl⟩, ⟨rfl, rfl, rfl, .same rfl, rfl, .same rfl, rfl, .same rfl, rfl, .same rfl, rfl, .same rfl, rfl, trivial⟩, trivial⟩ rfl rfl
    · have hie : i = waitAt ws e.id := by have := ge_of_len h; omega
      subst hie
      conv => whnf
      repeat (first | (refine Conf.mk (by kernel_rfl) ?_; conv => whnf) | (refine SeqOk.go ?_; conv => whnf))
      exact Into.to [0, 1, 2, 3] [(0, .ptr 0 0), (4, dInt (waitAt ws e.id)), (3, .ptr 3 0)] [(0, .vars 121 3 [dInt r, .row 1, .row 2] true), (1, .rows 28 5 (log.map Entry'.enc) true), (2, .rows 28 5 (ws.map Entry'.enc) true), (3, .vars 28 5 [dInt e.id.r, dInt e.id.n, dInt e.colors, .dat (.str e.text), .dat (.list (e.links.map Id.enc))] true)] (by repeat (first | exact trivial | refine ⟨.same (congrArg dInt (wrap_up (by omega))), ?_⟩ | refine ⟨.same rfl, ?_⟩ | refine ⟨.any _, ?_⟩)) ⟨⟨rfl, rfl, rfl, .same rfl, rfl, .same rfl, rfl, .same rfl, rfl, trivial⟩, ⟨rfl, rfl, rfl, rfl⟩, ⟨rfl, rfl, rfl, rfl⟩, ⟨rfl, rfl, rfl, .same rfl, rfl, .same rfl, rfl, .same rfl, rfl, .same rfl, rfl, .same rfl, rfl, trivial⟩, trivial⟩ rfl rfl
  · conv => whnf
    repeat (first | (refine Conf.mk (by kernel_rfl) ?_; conv => whnf) | (refine SeqOk.go ?_; conv => whnf))
    refine .eff [2, 4] _ _ _ _ 1 (insertEntry_ok ws e (waitAt ws e.id) hple hs) rfl rfl rfl rfl rfl ?_
    conv => whnf
    repeat (first | (refine Conf.mk (by kernel_rfl) ?_; conv => whnf) | (refine SeqOk.go ?_; conv => whnf))
    exact .mk [] [0, 1, 2, 5] (.tup []) [(0, .vars 121 3 [dInt r, .row 1, .row 3] true), (1, .rows 28 5 (log.map Entry'.enc) true), (2, .dead), (3, .rows 28 5 ((putAt ws (waitAt ws e.id) e).map Entry'.enc) true)] rfl (.same rfl) ⟨⟨rfl, rfl, rfl, .same rfl, rfl, .same rfl, rfl, .same rfl, rfl, trivial⟩, ⟨rfl, rfl, rfl, rfl⟩, trivial, ⟨rfl, rfl, rfl, rfl⟩, trivial⟩ rfl rfl ⟨rfl, rfl, rfl⟩
end Go.Proofs.YtlioojekjnigiafGreat.AM
/- One less in the midst of a row of one's own, told as a call. -/
namespace Go.Proofs.YtlioojekjnigiafGreat.AM
open Go.RowKit
set_option linter.unusedVariables false
set_option linter.unusedSimpArgs false

theorem get_one' {e : Entry} {h : Nat} : Heap.get [(0, e)] h = if h = 0 then e else .dead := by
  match h with
  | 0 => rfl
  | h + 1 => rfl
theorem get_next {e : Entry} {h : Nat} : Heap.get [(0, .dead), (1, e)] h = if h = 1 then e else .dead := by
  match h with
  | 0 => rfl
  | 1 => rfl
  | h + 2 => rfl
theorem acall_delete {P : Program} {f T k : Nat} (hk0 : 0 < k) (hcall : callable P f = true) (es : List (List D)) (i : Nat) (hi : i < es.length) (hn : es.length ≤ 1000)
    (hdel : ∀ (g m cap i : Nat) (cs : List Value) (w : World), w.ownsRow 0 T k (.slice (some ⟨g, 0, none⟩) (m + 1) cap) (m + 1) cs → i ≤ m → (∀ u ∈ cs, u.oneCell' = true) → m ≤ 1000 →
      Calls P f #[.slice (some ⟨g, 0, none⟩) (m + 1) cap, .int .i64 i, .int .i64 ((i : Int) + 1)] w fun e w' => e = .returned (.slice (some ⟨g, 0, none⟩) m cap) ∧ w'.ownsRow 0 T k (.slice (some ⟨g, 0, none⟩) m cap) m (cs.take (i * k) ++ cs.drop (i * k + k)) ∧ w.grownBy w' (some g)) :
    ECall P f [.row 0, .dat (.int .i64 i), .dat (.int .i64 ((i : Int) + 1))] [(0, .rows T k es true)] 1 (.row 1) [(0, .dead), (1, .rows T k (es.take i ++ es.drop (i + 1)) true)] 1 := by
  refine ⟨hcall, fun r A w vs hr hc hs hv => ?_⟩
  obtain ⟨v0, v1, v2, rfl⟩ : ∃ v0 v1 v2, vs = #[v0, v1, v2] := by
    match vs, hs with
    | ⟨[v0, v1, v2]⟩, _ => exact ⟨v0, v1, v2, rfl⟩
  have h0 : VRel r A v0 (.row 0) := hv 0 _ rfl
  have h1 : VRel r A v1 (.dat (.int .i64 i)) := hv 1 _ rfl
  have h2 : VRel r A v2 (.dat (.int .i64 ((i : Int) + 1))) := hv 2 _ rfl
  obtain rfl : v1 = .int .i64 i := by
    cases h1 with | dat hr => cases hr; rfl
  obtain rfl : v2 = .int .i64 ((i : Int) + 1) := by
    cases h2 with | dat hr => cases hr; rfl
  have e0 := hc.ent 0
  rw [get_one', if_pos rfl] at e0
  obtain ⟨k0, ⟨q1, q2⟩ | ⟨g, cap, cur, a1, a2, a3, a4, a5, a6, a7⟩⟩ := e0
  · subst q2; simp at hi
  cases h0 with
  | rowNil _ a ha hb => rw [hb] at a1; cases a1
  | row _ b n cap' hb =>
  rw [hb] at a1
  simp only [Option.some.injEq, Loc.mk.injEq] at a1
  obtain ⟨rfl, rfl, rfl⟩ := a1
  obtain ⟨m, hm⟩ : ∃ m, es.length = m + 1 := ⟨es.length - 1, by omega⟩
  have hlen : es.length * k ≤ cur.size := by rw [a3]; exact Nat.mul_le_mul_right _ a5
  let cs := cur.toList.take (es.length * k)
  have hcsl : cs.length = es.length * k := by simp [cs]; omega
  have hown : w.ownsRow 0 T k (.slice (some ⟨b, 0, none⟩) (m + 1) cap') (m + 1) cs := by
    rw [← hm]
    exact ⟨hcsl, .inr ⟨b, cap', cur, rfl, Nat.zero_le _, a2, a5, a4, a3, rfl⟩⟩
  have hcl := hdel b m cap' i cs w hown (by omega) (fun u hu => row_cells k0 hlen a6 u hu) (by omega)
  rw [← hm] at hcl
  refine hcl.mono fun e w' he => ?_
  obtain ⟨rfl, ho, hgr⟩ := he
  obtain ⟨hol, ⟨q1, _⟩ | ⟨g2, cap4, cur', q1, _, hg', hle', hcm', hsz', ht'⟩⟩ := ho
  · cases q1
  simp only [Value.slice.injEq, Option.some.injEq, Addr.mk.injEq, and_true, true_and] at q1
  obtain ⟨rfl, rfl⟩ := q1
  have hr1 : r 1 = none := hr 1 (Nat.le_refl _)
  have hsub := Rho.set_sub (l := ⟨some b, m, cap'⟩) hr1
  have hlb : LiveB r (Heap.get [(0, .rows T k es true)]) b := ⟨0, rfl, by simp [Rho.blk, hb]⟩
  have hfr : Fr w A w' A (fun x => x = b) := ⟨hgr.os, hgr.tape, hgr.output, hgr.size, fun y hy hny => hgr.block y hy (by simpa using hny), Sub.refl A, fun _ _ _ => rfl⟩
  have hnew : (es.take i ++ es.drop (i + 1)).length = m := by simp; omega
  refine ⟨_, r.set 1 ⟨some b, m, cap'⟩, A, .row 1, _, 2, rfl, ⟨rfl, rfl, rfl⟩, by decide, fun h hh => Rho.set_ne (by omega), fun h hh => (Rho.set_ne (by omega)).trans (hr h (by omega)), ⟨fun b3 o v hA => ?_, fun h => ?_, fun h h' b3 hl hl' _ _ => ?_⟩, .row 1 b _ cap' Rho.set_same, hfr.weaken fun y hy => by rw [hy]; exact hlb, fun b3 hb3 => ?_⟩
  · have hv3 := hc.view b3 o v hA
    have hny : b3 ≠ b := fun e => by rw [e, a7] at hA; cases hA
    rw [← hv3]
    exact World.cell?_of_block (w := w) (hfr.block b3 (cell_lt' hv3) hny)
  · rw [get_next]
    by_cases hh : h = 1
    · subst hh
      rw [if_pos rfl]
      refine ⟨fun e he => ?_, .inr ⟨b, cap', cur', by rw [Rho.set_same, hnew], hg', hsz', hcm', by rw [hnew]; exact hle', fun i' e he j d hd => ?_, a7⟩⟩
      · rcases List.mem_append.1 he with he | he
        · exact k0 e (List.mem_of_mem_take he)
        · exact k0 e (List.mem_of_mem_drop he)
      · have hi' : i' < m := by rw [← hnew]; exact (List.getElem?_eq_some_iff.1 he).1
        have hel : e.length = k := by
          rcases List.mem_append.1 (List.mem_of_getElem? he) with he | he
          · exact k0 e (List.mem_of_mem_take he)
          · exact k0 e (List.mem_of_mem_drop he)
        have hj : j < k := by rw [← hel]; exact (List.getElem?_eq_some_iff.1 hd).1
        have hpos : i' * k + j < m * k := by
          have h5 : (i' + 1) * k ≤ m * k := Nat.mul_le_mul_right _ hi'
          rw [Nat.add_mul, Nat.one_mul] at h5
          omega
        have hcell : cur'.getD (i' * k + j) undef = ((cs.take (i * k) ++ cs.drop (i * k + k))[i' * k + j]?).getD undef := by
          rw [← ht', List.getElem?_take, if_pos hpos, Array.getElem?_toList, Array.getD_eq_getD_getElem?]
        rw [hcell]
        have hti : (cs.take (i * k)).length = i * k := by
          rw [List.length_take, hcsl]
          exact Nat.min_eq_left (Nat.mul_le_mul_right _ (by omega))
        have csg : ∀ p, p < es.length * k → cs[p]? = cur[p]? := fun p hp => by
          simp only [cs]
          rw [List.getElem?_take, if_pos hp, Array.getElem?_toList]
        by_cases hlt : i' < i
        · rw [List.getElem?_append_left (by simp; omega)] at he
          rw [List.getElem?_take, if_pos hlt] at he
          have hp1 : i' * k + j < i * k := by
            have h5 : (i' + 1) * k ≤ i * k := Nat.mul_le_mul_right _ hlt
            rw [Nat.add_mul, Nat.one_mul] at h5
            omega
          rw [List.getElem?_append_left (by rw [hti]; exact hp1), List.getElem?_take, if_pos hp1, csg _ (Nat.lt_of_lt_of_le hp1 (Nat.mul_le_mul_right _ (by omega))), ← Array.getD_eq_getD_getElem?]
          exact a6 i' e he j d hd
        · rw [List.getElem?_append_right (by simp; omega)] at he
          have hsub1 : i + 1 + (i' - (es.take i).length) = i' + 1 := by simp; omega
          rw [List.getElem?_drop, hsub1] at he
          have hp2 : i * k ≤ i' * k + j := by
            have h5 : i * k ≤ i' * k := Nat.mul_le_mul_right _ (by omega)
            omega
          have hp3 : i * k + k + (i' * k + j - i * k) = (i' + 1) * k + j := by
            rw [Nat.add_mul, Nat.one_mul]
            omega
          have h9 : (i' + 1) * k + j < es.length * k := by
            rw [hm, Nat.add_mul m, Nat.add_mul, Nat.one_mul]
            omega
          rw [List.getElem?_append_right (by rw [hti]; exact hp2), hti, List.getElem?_drop, hp3, csg _ h9, ← Array.getD_eq_getD_getElem?]
          exact a6 (i' + 1) e he j d hd
    · rw [if_neg hh]; trivial
  · rw [get_next] at hl hl'
    by_cases hh : h = 1
    · by_cases hh' : h' = 1
      · rw [hh, hh']
      · rw [if_neg hh'] at hl'; cases hl'
    · rw [if_neg hh] at hl; cases hl
  · obtain ⟨h, hl, hbb⟩ := hb3
    rw [get_next] at hl
    by_cases hh : h = 1
    · subst hh
      obtain rfl : b = b3 := by simpa [Rho.blk, Rho.set_same] using hbb
      exact .inl hlb
    · rw [if_neg hh] at hl; cases hl
end Go.Proofs.YtlioojekjnigiafGreat.AM
/- slices.Delete of one wait, of a row of one's own. -/
namespace Go.Proofs.YtlioojekjnigiafGreat.ID
open Go.RowKit

set_option maxHeartbeats 4000000 in
set_option maxRecDepth 100000 in
theorem delete_any (base g m cap i : Nat) (cs : List Value) (w : World) (hown : w.ownsRow base 28 5 (.slice (some ⟨g, 0, none⟩) (m + 1) cap) (m + 1) cs) (hi : i ≤ m) (h1c : ∀ u ∈ cs, u.oneCell' = true) (hm : m ≤ 1000) :
    Calls Tryz.prog 224 #[.slice (some ⟨g, 0, none⟩) (m + 1) cap, .int .i64 i, .int .i64 ((i : Int) + 1)] w fun e w' => e = .returned (.slice (some ⟨g, 0, none⟩) m cap) ∧ w'.ownsRow base 28 5 (.slice (some ⟨g, 0, none⟩) m cap) m (cs.take (i * 5) ++ cs.drop (i * 5 + 5)) ∧ w.grownBy w' (some g) := by
  obtain ⟨i0, hinf, hz0, hz1, hz2⟩ := info_parts IE.infoT
  rcases hown with ⟨hl, ⟨h0, _⟩ | ⟨g', cap', cur, hv, hbg, hg, hle, hcm, hcs, ht⟩⟩
  · cases h0
  cases hv
  have hcm' : cap ≤ 9223372036854775807 := by unfold maxLen at hcm; omega
  obtain ⟨R1, hR1⟩ : ∃ R1 : List Value, R1 = cur.toList.take (i * 5) ++ cs.drop (i * 5 + 5) ++ cur.toList.drop (i * 5 + ((m + 1) * 5 - (i * 5 + 5))) := ⟨_, rfl⟩
  obtain ⟨R2, hR2⟩ : ∃ R2 : List Value, R2 = R1.take (m * 5) ++ (Builtin.zeroCells (Value.agg #[.int .i64 0, .int .i64 0, .int .i64 0, .string ⟨#[]⟩, .slice none 0 0]).cells (0 + 1)).toList ++ R1.drop (m * 5 + 5) := ⟨_, rfl⟩
  have hcl : cur.toList.length = cap * 5 := by simpa using hcs
  have hzc : (Value.agg #[.int .i64 0, .int .i64 0, .int .i64 0, .string ⟨#[]⟩, .slice none 0 0]).cells.size = 5 := rfl
  have hzl : (Builtin.zeroCells (Value.agg #[.int .i64 0, .int .i64 0, .int .i64 0, .string ⟨#[]⟩, .slice none 0 0]).cells (0 + 1)).toList.length = 5 := by simp [size_zeroCells, hzc]
  have t2 : R2.take (m * 5) = cs.take (i * 5) ++ cs.drop (i * 5 + 5) := by
    have := row_cut (cur := cur.toList) (cs := cs) (I := i * 5) (N := (m + 1) * 5) (k := 5) (by omega) hzl (by omega) ht
    rw [show (m + 1) * 5 - 5 = m * 5 from by omega, ← hR1, ← hR2] at this
    exact this
  have s1 : R1.length = cap * 5 := by rw [hR1]; simp [hl, hcs]; omega
  have s2 : R2.length = cap * 5 := by
    rw [hR2]
    simp only [List.length_append, hzl, List.length_take, List.length_drop, s1]
    omega
  have hdl : (cs.drop (i * 5 + 5)).length = (m - i) * 5 := by rw [List.length_drop]; omega
  have hrz : ∀ ty A c, (i < m → A = ⟨g, (i + 1) * 5, none⟩) → (Builtin.append_ #[22, 22] ty #[.slice (some ⟨g, 0, none⟩) i cap, .slice (some A) (m - i) c]).run Tryz.prog w.drew = .ok (.slice (some ⟨g, 0, none⟩) m cap) (w.drew.setRow g R1.toArray) := fun ty A c hA => by
    have := run_append_room (P := Tryz.prog) w.drew 22 ty 28 i0 Tryz.underlying22 hinf g i cap cur hg A (m - i) c (cs.drop (i * 5 + 5)) (by rw [hz1, hdl])
      (fun j u hj => by
        have hlt : j < (cs.drop (i * 5 + 5)).length := (List.getElem?_eq_some_iff.1 hj).1
        rw [hA (by omega), add_at']
        rw [List.getElem?_drop, ← ht, List.getElem?_take] at hj
        split at hj
        · exact cell_of_block (w := w.drew) hg (by rw [show (i + 1) * 5 + j = i * 5 + 5 + j from by omega]; simpa using hj)
        · cases hj) (fun v hv => h1c v (List.mem_of_mem_drop hv)) (by omega) (by rw [hz1, hdl]; omega)
    rw [hz1, hdl, show i + (m - i) = m from by omega, show i * 5 + (m - i) * 5 = i * 5 + ((m + 1) * 5 - (i * 5 + 5)) from by omega, ← hR1] at this
    exact this
  have g1 : (w.drew.setRow g R1.toArray).heap[g]? = some (.cells R1.toArray 28 (0, 0)) := setRow_heap w.drew g _ R1.toArray 28 (0, 0) hg
  have gr1 : w.grownBy (w.drew.setRow g R1.toArray) (some g) := grownBy_trans (grownBy_drew w _) (grownBy_setRow (w := w.drew) hg)
  generalize w.drew.setRow g R1.toArray = W1 at *
  have hcr : ∀ ty c, (Builtin.clear_ #[22] ty #[.slice (some ⟨g, m * 5, none⟩) 1 c]).run Tryz.prog W1 = .ok (.tuple #[]) (W1.setRow g R2.toArray) := fun ty c => by
    have := run_clear_row (P := Tryz.prog) W1 22 28 ty (.agg #[.int .i64 0, .int .i64 0, .int .i64 0, .string ⟨#[]⟩, .slice none 0 0]) Tryz.underlying22 Tryz.zeroValue28 (by decide) g (m * 5) 0 c R1.toArray 28 g1 (by rw [hzc]; simp; omega)
    rw [hzc] at this
    simp only [Nat.zero_add, Nat.one_mul] at this
    rw [hR2]
    exact this
  have HG2 : Hid ((W1.setRow g R2.toArray).ownsRow base 28 5 (.slice (some ⟨g, 0, none⟩) m cap) m (cs.take (i * 5) ++ cs.drop (i * 5 + 5))) :=
    ⟨by simp [hl]; omega, .inr ⟨g, cap, R2.toArray, rfl, hbg, setRow_heap W1 g _ R2.toArray 28 (0, 0) g1, by omega, hcm, by simpa using s2, t2⟩⟩
  have HGR : Hid (w.grownBy (W1.setRow g R2.toArray) (some g)) := grownBy_trans gr1 (grownBy_setRow g1)
  generalize W1.setRow g R2.toArray = W2 at *
  clear hR1 hR2 t2 s1 s2 hzl hzc hdl g1 gr1 hcl ht h1c hg hcs hl
  have hcn : ¬ (cap = m) := by omega
  by_cases hc : cap = i + 1
  · obtain rfl : m = i := by omega
    subst hc
    have hr := fun ty A c => hrz ty A c (fun h => absurd h (Nat.lt_irrefl _))
    clear hrz
    simp only [Nat.sub_self] at hr
    go_enter Tryz.func224, Tryz.ntmps224
    go_wp2_with fail
    refine wp_region_path [(0, 0), (1, 0), (2, 2), (3, 0), (4, 0), (5, 2), (6, 3), (7, 0)] (by kernel_rfl) (by kernel_rfl) (by kernel_rfl) (by kernel_rfl) ?_
    simp only [parts, headed, headed2, List.getElem?_toArray, List.getElem?_cons_zero, List.getElem?_cons_succ]
    refine parts_step fun K HK => ?_
    go_wp2_with fail
    refine HK.out _ _ (Grow.refl _) ?_
    clear HK K
    refine parts_step2 (fun hw => by first | (cases hw; done) | (apply looks_run; intro w'; go_simp; try first | rfl | rw [if_neg (by omega)] | rw [if_pos (by omega)])) fun K HK => ?_
    go_wp2_with fail
    refine HK.out _ _ (Grow.refl _) ?_
    clear HK K
    refine parts_cut2 (fun hw => by first | (cases hw; done) | (apply looks_run; intro w'; go_simp; try first | rfl | rw [if_neg (by omega)] | rw [if_pos (by omega)])) fun K HK => ?_
    go_wp2_with (at_builtin; go_must (refine wpList_append_ran _ (by rfl) _ _ 22 22 (by rfl) _ _ (by rfl) (by rfl) (hr _ _ _) ?_))
    refine HK.out _ _ ?_
    clear HK K
    refine parts_step fun K HK => ?_
    go_wp2_with fail
    refine HK.out _ _ (Grow.refl _) ?_
    clear HK K
    refine parts_done ?_
    go_wp2_with (at_builtin; go_must (refine wpList_clear_run _ (by rfl) _ 22 (by rfl) _ (by rfl) (hcr _ _) ?_))
    go_ret
    exact ⟨rfl, HG2.out, HGR.out⟩
  · have hr := fun ty c => hrz ty ⟨g, (i + 1) * 5, none⟩ c (fun _ => rfl)
    clear hrz
    go_enter Tryz.func224, Tryz.ntmps224
    go_wp2_with fail
    refine wp_region_path [(0, 0), (1, 0), (2, 2), (3, 0), (4, 0), (5, 2), (6, 3), (7, 0)] (by kernel_rfl) (by kernel_rfl) (by kernel_rfl) (by kernel_rfl) ?_
    simp only [parts, headed, headed2, List.getElem?_toArray, List.getElem?_cons_zero, List.getElem?_cons_succ]
    refine parts_step fun K HK => ?_
    go_wp2_with fail
    refine HK.out _ _ (Grow.refl _) ?_
    clear HK K
    refine parts_step2 (fun hw => by first | (cases hw; done) | (apply looks_run; intro w'; go_simp; try first | rfl | rw [if_neg (by omega)] | rw [if_pos (by omega)])) fun K HK => ?_
    go_wp2_with fail
    refine HK.out _ _ (Grow.refl _) ?_
    clear HK K
    refine parts_cut2 (fun hw => by first | (cases hw; done) | (apply looks_run; intro w'; go_simp; try first | rfl | rw [if_neg (by omega)] | rw [if_pos (by omega)])) fun K HK => ?_
    go_wp2_with (at_builtin; go_must (refine wpList_append_ran _ (by rfl) _ _ 22 22 (by rfl) _ _ (by rfl) (by rfl) (hr _ _) ?_))
    refine HK.out _ _ ?_
    clear HK K
    refine parts_step fun K HK => ?_
    go_wp2_with fail
    refine HK.out _ _ (Grow.refl _) ?_
    clear HK K
    refine parts_done ?_
    go_wp2_with (at_builtin; go_must (refine wpList_clear_run _ (by rfl) _ 22 (by rfl) _ (by rfl) (hcr _ _) ?_))
    go_ret
    exact ⟨rfl, HG2.out, HGR.out⟩
end Go.Proofs.YtlioojekjnigiafGreat.ID
/- Sites: what waits settles. -/
namespace Go.Proofs.YtlioojekjnigiafGreat.AM
set_option linter.unusedVariables false
set_option linter.unusedSimpArgs false
theorem deleteEntry_ok (l : List Entry') (i : Nat) (hi : i < l.length) (hs : l.length ≤ 1000) : ECall Tryz.prog 224 [.row 0, dInt i, dInt (IntKind.i64.wrap ((i : Int) + 1))] [(0, .rows 28 5 (l.map Entry'.enc) true)] 1 (.row 1) [(0, .dead), (1, .rows 28 5 ((l.eraseIdx i).map Entry'.enc) true)] 1 := by
  have e : (l.eraseIdx i).map Entry'.enc = (l.map Entry'.enc).take i ++ (l.map Entry'.enc).drop (i + 1) := by
    rw [List.eraseIdx_eq_take_drop_succ, List.map_append, map_take', map_drop']
  rw [e, wrap_id (by omega) (by omega)]
  exact acall_delete (T := 28) (k := 5) (by decide) (by kernel_rfl) (l.map Entry'.enc) i (by simpa using hi) (by simpa using hs) fun g m cap i cs w h1 h2 h3 h4 => ID.delete_any 0 g m cap i cs w h1 h2 h3 h4
theorem settle1_ok (r : Int) (log : List Entry') (ds : List (List D)) (hl : log.length ≤ 1000) (e : Entry') (he : e.links.length ≤ 1000) : PCall Tryz.prog 223 [e.arg, .dat (.ptr [.ptr [.int .i64 r, .list (log.map Entry'.enc), .list ds]])] (dBool (readyP log e)) := by
  refine pcall_intro tab_all tab_mixed Tryz.func223 (by kernel_rfl) Tryz.ntmps223 rfl ?_
  conv => whnf
  refine .data _ _ (siteReady_ok log hl e (by omega)) rfl ?_
  conv => whnf
  repeat (first | (refine Conf.mk (by kernel_rfl) ?_; conv => whnf) | (refine SeqOk.go ?_; conv => whnf))
  exact Ret.bool rfl
set_option maxHeartbeats 0 in
theorem settle_ok (r : Int) (log ws : List Entry') (hlen : log.length + ws.length ≤ 1000) (hk : ∀ e ∈ ws, e.links.length ≤ 1000) : ACall Tryz.prog 149 [.ptr 0 0] [(0, .vars 121 3 [dInt r, .row 1, .row 2] true), (1, .rows 28 5 (log.map Entry'.enc) true), (2, .rows 28 5 (ws.map Entry'.enc) true)] 3 fun x H' n' => (x = .tup [] ∧ settle log ws = (log, ws) ∧ H' = [(0, .vars 121 3 [dInt r, .row 1, .row 2] true), (1, .rows 28 5 (log.map Entry'.enc) true), (2, .rows 28 5 (ws.map Entry'.enc) true)] ∧ n' = 3) ∨ (x = .tup [] ∧ H' = [(0, .vars 121 3 [dInt r, .row 3, .row 4] true), (1, .dead), (2, .dead), (3, .rows 28 5 ((settle log ws).1.map Entry'.enc) true), (4, .rows 28 5 ((settle log ws).2.map Entry'.enc) true)] ∧ n' = 5) := by
  refine acall_cut tab_all tab_mixed Tryz.func149 (by kernel_rfl) Tryz.ntmps149 rfl ?_
  conv => whnf
  refine LoopOk.hide fun Q1 hQ1 => ?_
  refine LoopOk.mk (fun m s => ∃ lg wt, wt.length = m ∧ lg.length + wt.length ≤ 1000 ∧ (∀ e ∈ wt, e.links.length ≤ 1000) ∧ settle log ws = settle lg wt ∧ ((lg = log ∧ wt = ws ∧ s = ⟨[(1, .ptr 3 0)], 4, [(0, .vars 121 3 [dInt r, .row 1, .row 2] true), (1, .rows 28 5 (log.map Entry'.enc) true), (2, .rows 28 5 (ws.map Entry'.enc) true), (3, .vars 211 1 [.ptr 0 0] true)]⟩) ∨ s = ⟨[(1, .ptr 5 0)], 6, [(0, .vars 121 3 [dInt r, .row 3, .row 4] true), (1, .dead), (2, .dead), (3, .rows 28 5 (lg.map Entry'.enc) true), (4, .rows 28 5 (wt.map Entry'.enc) true), (5, .vars 211 1 [.ptr 0 0] true)]⟩)) ws.length (Into.mono (Into.to [0, 1, 2, 3] [(1, .ptr 3 0)] [(0, .vars 121 3 [dInt r, .row 1, .row 2] true), (1, .rows 28 5 (log.map Entry'.enc) true), (2, .rows 28 5 (ws.map Entry'.enc) true), (3, .vars 211 1 [.ptr 0 0] true)] (by repeat (first | exact trivial | refine ⟨.same (congrArg dInt (wrap_up (by omega))), ?_⟩ | refine ⟨.same rfl, ?_⟩ | refine ⟨.any _, ?_⟩)) ⟨⟨rfl, rfl, rfl, .same rfl, rfl, .same rfl, rfl, .same rfl, rfl, trivial⟩, ⟨rfl, rfl, rfl, rfl⟩, ⟨rfl, rfl, rfl, rfl⟩, ⟨rfl, rfl, rfl, .same rfl, rfl, trivial⟩, trivial⟩ rfl rfl) fun s' h => ⟨log, ws, rfl, hlen, hk, rfl, .inl ⟨rfl, rfl, h⟩⟩) ?_
  rintro m s ⟨lg, wt, hm, hle, hkw, hst, hs⟩
  have hidx := indexFunc_entry (l := wt) (by omega) fun e he => settle1_ok r lg (wt.map Entry'.enc) (by omega) e (hkw e he)
  rcases hs with ⟨hA1, hA2, rfl⟩ | rfl
  · have hA1 := hA1.symm
    have hA2 := hA2.symm
    subst hA1 hA2
    cases hii : isIdx (readyP log) ws 0 with
    | none =>
      rw [hii] at hidx
      conv => whnf
      repeat (first | (refine Conf.mk (by kernel_rfl) ?_; conv => whnf) | (refine SeqOk.go ?_; conv => whnf))
      refine .look _ _ hidx rfl rfl ?_
      conv => whnf
      repeat (first | (refine Conf.mk (by kernel_rfl) ?_; conv => whnf) | (refine SeqOk.go ?_; conv => whnf))
      refine BoolCase.yes rfl ?_
      conv => whnf
      repeat (first | (refine Conf.mk (by kernel_rfl) ?_; conv => whnf) | (refine SeqOk.go ?_; conv => whnf))
      subst hQ1
      conv => whnf
      exact .mk [] [0, 1, 2] (.tup []) [(0, .vars 121 3 [dInt r, .row 1, .row 2] true), (1, .rows 28 5 (log.map Entry'.enc) true), (2, .rows 28 5 (ws.map Entry'.enc) true)] rfl (.same rfl) ⟨⟨rfl, rfl, rfl, .same rfl, rfl, .same rfl, rfl, .same rfl, rfl, trivial⟩, ⟨rfl, rfl, rfl, rfl⟩, ⟨rfl, rfl, rfl, rfl⟩, trivial⟩ rfl rfl (.inl ⟨rfl, settle_none hii, rfl, rfl⟩)
    | some i =>
      obtain ⟨k, hik, hiw, _⟩ := isIdx_some hii
      obtain rfl : i = k := by omega
      rw [hii] at hidx
      have hss := settle_some hii hiw
      have hlw : (ws.eraseIdx i).length = ws.length - 1 := List.length_eraseIdx_of_lt hiw
      conv => whnf
      repeat (first | (refine Conf.mk (by kernel_rfl) ?_; conv => whnf) | (refine SeqOk.go ?_; conv => whnf))
      refine .look _ _ hidx rfl rfl ?_
      conv => whnf
      repeat (first | (refine Conf.mk (by kernel_rfl) ?_; conv => whnf) | (refine SeqOk.go ?_; conv => whnf))
      refine BoolCase.no (decide_eq_false (by show ¬ ((i : Int) < 0); omega)) ?_
      conv => whnf
      repeat (first | (refine Conf.mk (by kernel_rfl) ?_; conv => whnf) | (refine SeqOk.go ?_; conv => whnf))
      refine AtIdx.ofMap hiw rfl ?_
      conv => whnf
      repeat (first | (refine Conf.mk (by kernel_rfl) ?_; conv => whnf) | (refine SeqOk.go ?_; conv => whnf))
      refine .mk _ (by rw [List.getElem?_map, List.getElem?_eq_getElem hiw]; rfl) ?_
      conv => whnf
      repeat (first | (refine Conf.mk (by kernel_rfl) ?_; conv => whnf) | (refine SeqOk.go ?_; conv => whnf))
      refine ⟨by simp [Entry'.enc], by simp; omega, ?_⟩
      conv => whnf
      repeat (first | (refine Conf.mk (by kernel_rfl) ?_; conv => whnf) | (refine SeqOk.go ?_; conv => whnf))
      refine .eff [2] _ _ _ _ 1 (deleteEntry_ok ws i hiw (by omega)) rfl rfl rfl rfl rfl ?_
      conv => whnf
      repeat (first | (refine Conf.mk (by kernel_rfl) ?_; conv => whnf) | (refine SeqOk.go ?_; conv => whnf))
      have hrow : (log ++ [ws[i]]).map Entry'.enc = log.map Entry'.enc ++ [ws[i].enc] := by rw [List.map_append]; rfl
      exact Into.mono (Into.to [0, 1, 2, 5, 6, 3] [(1, .ptr 5 0)] [(0, .vars 121 3 [dInt r, .row 3, .row 4] true), (1, .dead), (2, .dead), (3, .rows 28 5 ((log ++ [ws[i]]).map Entry'.enc) true), (4, .rows 28 5 ((ws.eraseIdx i).map Entry'.enc) true), (5, .vars 211 1 [.ptr 0 0] true)] (by repeat (first | exact trivial | refine ⟨.same (congrArg dInt (wrap_up (by omega))), ?_⟩ | refine ⟨.same rfl, ?_⟩ | refine ⟨.any _, ?_⟩)) ⟨⟨rfl, rfl, rfl, .same rfl, rfl, .same rfl, rfl, .same rfl, rfl, trivial⟩, trivial, trivial, ⟨rfl, rfl, rfl, hrow⟩, ⟨rfl, rfl, rfl, rfl⟩, ⟨rfl, rfl, rfl, .same rfl, rfl, trivial⟩, trivial⟩ rfl rfl) fun s' h => ⟨ws.length - 1, by omega, log ++ [ws[i]], ws.eraseIdx i, hlw, by rw [List.length_append, hlw]; simp; omega, fun e he => hkw e (List.mem_of_mem_eraseIdx he), by rw [hst, hss], .inr h⟩
  · cases hii : isIdx (readyP lg) wt 0 with
    | none =>
      rw [hii] at hidx
      conv => whnf
      repeat (first | (refine Conf.mk (by kernel_rfl) ?_; conv => whnf) | (refine SeqOk.go ?_; conv => whnf))
      refine .look _ _ hidx rfl rfl ?_
      conv => whnf
      repeat (first | (refine Conf.mk (by kernel_rfl) ?_; conv => whnf) | (refine SeqOk.go ?_; conv => whnf))
      refine BoolCase.yes rfl ?_
      conv => whnf
      repeat (first | (refine Conf.mk (by kernel_rfl) ?_; conv => whnf) | (refine SeqOk.go ?_; conv => whnf))
      subst hQ1
      conv => whnf
      exact .mk [] [0, 1, 2, 3, 4] (.tup []) [(0, .vars 121 3 [dInt r, .row 3, .row 4] true), (1, .dead), (2, .dead), (3, .rows 28 5 ((settle log ws).1.map Entry'.enc) true), (4, .rows 28 5 ((settle log ws).2.map Entry'.enc) true)] rfl (.same rfl) ⟨⟨rfl, rfl, rfl, .same rfl, rfl, .same rfl, rfl, .same rfl, rfl, trivial⟩, trivial, trivial, ⟨rfl, rfl, rfl, by rw [hst, settle_none hii]⟩, ⟨rfl, rfl, rfl, by rw [hst, settle_none hii]⟩, trivial⟩ rfl rfl (.inr ⟨rfl, rfl, rfl⟩)
    | some i =>
      obtain ⟨k, hik, hiw, _⟩ := isIdx_some hii
      obtain rfl : i = k := by omega
      rw [hii] at hidx
      have hss := settle_some hii hiw
      have hlw : (wt.eraseIdx i).length = wt.length - 1 := List.length_eraseIdx_of_lt hiw
      conv => whnf
      repeat (first | (refine Conf.mk (by kernel_rfl) ?_; conv => whnf) | (refine SeqOk.go ?_; conv => whnf))
      refine .look _ _ hidx rfl rfl ?_
      conv => whnf
      repeat (first | (refine Conf.mk (by kernel_rfl) ?_; conv => whnf) | (refine SeqOk.go ?_; conv => whnf))
      refine BoolCase.no (decide_eq_false (by show ¬ ((i : Int) < 0); omega)) ?_
      conv => whnf
      repeat (first | (refine Conf.mk (by kernel_rfl) ?_; conv => whnf) | (refine SeqOk.go ?_; conv => whnf))
      refine AtIdx.ofMap hiw rfl ?_
      conv => whnf
      repeat (first | (refine Conf.mk (by kernel_rfl) ?_; conv => whnf) | (refine SeqOk.go ?_; conv => whnf))
      refine .mk _ (by rw [List.getElem?_map, List.getElem?_eq_getElem hiw]; rfl) ?_
      conv => whnf
      repeat (first | (refine Conf.mk (by kernel_rfl) ?_; conv => whnf) | (refine SeqOk.go ?_; conv => whnf))
      refine ⟨by simp [Entry'.enc], by simp; omega, ?_⟩
      conv => whnf
      repeat (first | (refine Conf.mk (by kernel_rfl) ?_; conv => whnf) | (refine SeqOk.go ?_; conv => whnf))
      refine .eff [4] _ _ _ _ 1 (deleteEntry_ok wt i hiw (by omega)) rfl rfl rfl rfl rfl ?_
      conv => whnf
      repeat (first | (refine Conf.mk (by kernel_rfl) ?_; conv => whnf) | (refine SeqOk.go ?_; conv => whnf))
      have hrow : (lg ++ [wt[i]]).map Entry'.enc = lg.map Entry'.enc ++ [wt[i].enc] := by rw [List.map_append]; rfl
      exact Into.mono (Into.to [0, 1, 2, 7, 8, 5] [(1, .ptr 5 0)] [(0, .vars 121 3 [dInt r, .row 3, .row 4] true), (1, .dead), (2, .dead), (3, .rows 28 5 ((lg ++ [wt[i]]).map Entry'.enc) true), (4, .rows 28 5 ((wt.eraseIdx i).map Entry'.enc) true), (5, .vars 211 1 [.ptr 0 0] true)] (by repeat (first | exact trivial | refine ⟨.same (congrArg dInt (wrap_up (by omega))), ?_⟩ | refine ⟨.same rfl, ?_⟩ | refine ⟨.any _, ?_⟩)) ⟨⟨rfl, rfl, rfl, .same rfl, rfl, .same rfl, rfl, .same rfl, rfl, trivial⟩, trivial, trivial, ⟨rfl, rfl, rfl, hrow⟩, ⟨rfl, rfl, rfl, rfl⟩, ⟨rfl, rfl, rfl, .same rfl, rfl, trivial⟩, trivial⟩ rfl rfl) fun s' h => ⟨wt.length - 1, by omega, lg ++ [wt[i]], wt.eraseIdx i, hlw, by rw [List.length_append, hlw]; simp; omega, fun e he => hkw e (List.mem_of_mem_eraseIdx he), by rw [hst, hss], .inr h⟩
end Go.Proofs.YtlioojekjnigiafGreat.AM
/- A player: what it needs, who may be next, and its beginning. -/
namespace Go.Proofs.YtlioojekjnigiafGreat.AM
set_option linter.unusedVariables false
set_option linter.unusedSimpArgs false
/-- What is in the past of one and has one of some colors, as they stand. -/
def needsL (l : List Entry') (c : Int) (x : Id) : List Id := (l.filter fun e => bothOf e.colors c && (pastOfId l x).any (isId2 e.id)).map (·.id)
theorem needsL_all {l : List Entry'} (hr : Right l) {c : Int} (hc : 1 ≤ c ∧ c ≤ 7) (x : Id) (out : List Id) : (needsL l c x).all (hasId out) = (needs l c x).all (hasId out) := by
  have : ∀ y, y ∈ needsL l c x ↔ y ∈ needs l c x := fun y => by
    rw [mem_needs hr]
    unfold needsL
    simp only [List.mem_map, List.mem_filter, Bool.and_eq_true]
    constructor
    · rintro ⟨e, ⟨h1, h2, h3⟩, rfl⟩
      exact ⟨(mem_pastOfId hr).1 (any_isId2.1 h3), colored_iff.2 ⟨e, h1, rfl, by rw [← meets_bothOf (hr.colors h1) hc]; exact h2⟩⟩
    · rintro ⟨h1, h2⟩
      obtain ⟨e, he, rfl, hm⟩ := colored_iff.1 h2
      exact ⟨e, ⟨he, by rw [meets_bothOf (hr.colors he) hc]; exact hm, any_isId2.2 ((mem_pastOfId hr).2 h1)⟩, rfl⟩
  rw [Bool.eq_iff_iff, List.all_eq_true, List.all_eq_true]
  exact ⟨fun h y hy => h y ((this y).2 hy), fun h y hy => h y ((this y).1 hy)⟩
theorem needsL_len (l : List Entry') (c : Int) (x : Id) : (needsL l c x).length ≤ l.length := by
  unfold needsL
  rw [List.length_map]
  exact List.length_filter_le _ _
set_option maxHeartbeats 0 in
theorem needsOf_ok {l : List Entry'} (hr : Right l) (c : Int) (ts : List Turn) (x : Id) (hx : ∃ e ∈ l, e.id = x) : ECall Tryz.prog 177 [.ptr 0 0, .dat (.list (l.map Entry'.enc)), x.arg] [(0, .vars 151 3 [dInt c, .nil, .row 1] true), (1, .rows 235 3 (ts.map Turn.enc) true)] 2 (.dat (.list ((needsL l c x).map Id.enc))) [(0, .vars 151 3 [dInt c, .nil, .row 1] true), (1, .rows 235 3 (ts.map Turn.enc) true)] 0 := by
  have hlen := hr.len
  have hpl := pastOfId_len hr x
  refine acall_cut tab_all tab_mixed Tryz.func177 (by kernel_rfl) Tryz.ntmps177 rfl ?_
  conv => whnf
  conv => whnf
  repeat (first | (refine Conf.mk (by kernel_rfl) ?_; conv => whnf) | (refine SeqOk.go ?_; conv => whnf))
  refine .data _ _ (orderPast_in hr hx) rfl ?_
  conv => whnf
  repeat (first | (refine Conf.mk (by kernel_rfl) ?_; conv => whnf) | (refine SeqOk.go ?_; conv => whnf))
  refine LoopOk.hide fun Q1 hQ1 => ?_
  refine LoopOk.mk (fun m s => ∃ k, k + m = l.length ∧ s = ⟨[(16, dInt k), (15, dInt (l.map Entry'.enc).length), (14, .dat (.list (l.map Entry'.enc))), (0, .ptr 0 0), (1, .dat (.list (l.map Entry'.enc))), (7, .dat (.list ((pastOfId l x).map Id.enc))), (8, .row 2)], 3, [(0, .vars 151 3 [dInt c, .nil, .row 1] true), (1, .rows 235 3 (ts.map Turn.enc) true), (2, .rows 25 2 ((((l.take k).filter fun e => bothOf e.colors c && (pastOfId l x).any (isId2 e.id)).map (·.id)).map Id.enc) true)]⟩) l.length ((Into.row 8 25 2 rfl).trans fun s' hs' => by
    subst hs'
    exact Into.mono (Into.to [0, 1, 3] [(16, dInt (0 : Nat)), (15, dInt (l.map Entry'.enc).length), (14, .dat (.list (l.map Entry'.enc))), (0, .ptr 0 0), (1, .dat (.list (l.map Entry'.enc))), (7, .dat (.list ((pastOfId l x).map Id.enc))), (8, .row 2)] [(0, .vars 151 3 [dInt c, .nil, .row 1] true), (1, .rows 235 3 (ts.map Turn.enc) true), (2, .rows 25 2 ((((l.take 0).filter fun e => bothOf e.colors c && (pastOfId l x).any (isId2 e.id)).map (·.id)).map Id.enc) true)] (by repeat (first | exact trivial | refine ⟨.same (congrArg dInt (wrap_up (by omega))), ?_⟩ | refine ⟨.same rfl, ?_⟩ | refine ⟨.any _, ?_⟩)) ⟨⟨rfl, rfl, rfl, .same rfl, rfl, .same rfl, rfl, .same rfl, rfl, trivial⟩, ⟨rfl, rfl, rfl, rfl⟩, ⟨rfl, rfl, rfl, rfl⟩, trivial⟩ rfl rfl) fun s' h => ⟨0, by omega, h⟩) ?_
  rintro m s ⟨k, hk, rfl⟩
  conv => whnf
  repeat (first | (refine Conf.mk (by kernel_rfl) ?_; conv => whnf) | (refine SeqOk.go ?_; conv => whnf))
  refine ⟨fun h => ?_, fun h => ?_⟩
  · have hk' := lt_of_len h
    have hst := filter_snoc (fun e : Entry' => bothOf e.colors c && (pastOfId l x).any (isId2 e.id)) (List.getElem?_eq_getElem hk')
    have hfl := List.length_filter_le (fun e : Entry' => bothOf e.colors c && (pastOfId l x).any (isId2 e.id)) (l.take k)
    rw [List.length_take] at hfl
    conv => whnf
    repeat (first | (refine Conf.mk (by kernel_rfl) ?_; conv => whnf) | (refine SeqOk.go ?_; conv => whnf))
    refine AtIdx.ofMap hk' rfl ?_
    conv => whnf
    repeat (first | (refine Conf.mk (by kernel_rfl) ?_; conv => whnf) | (refine SeqOk.go ?_; conv => whnf))
    refine ⟨fun h2 => ?_, fun h2 => ?_⟩
    · have h2 : bothOf l[k].colors c = true := h2
      conv => whnf
      repeat (first | (refine Conf.mk (by kernel_rfl) ?_; conv => whnf) | (refine SeqOk.go ?_; conv => whnf))
      refine .look _ _ (containsId_ok l[k].id (pastOfId l x) (by omega)) rfl rfl ?_
      conv => whnf
      repeat (first | (refine Conf.mk (by kernel_rfl) ?_; conv => whnf) | (refine SeqOk.go ?_; conv => whnf))
      refine ⟨fun h3 => ?_, fun h3 => ?_⟩
      · conv => whnf
        repeat (first | (refine Conf.mk (by kernel_rfl) ?_; conv => whnf) | (refine SeqOk.go ?_; conv => whnf))
        refine ⟨by simp [Id.enc], by simp; omega, ?_⟩
        conv => whnf
        repeat (first | (refine Conf.mk (by kernel_rfl) ?_; conv => whnf) | (refine SeqOk.go ?_; conv => whnf))
        refine Into.mono (Into.to [0, 1, 5] [(16, dInt (k + 1 : Nat)), (15, dInt (l.map Entry'.enc).length), (14, .dat (.list (l.map Entry'.enc))), (0, .ptr 0 0), (1, .dat (.list (l.map Entry'.enc))), (7, .dat (.list ((pastOfId l x).map Id.enc))), (8, .row 2)] [(0, .vars 151 3 [dInt c, .nil, .row 1] true), (1, .rows 235 3 (ts.map Turn.enc) true), (2, .rows 25 2 ((((l.take (k + 1)).filter fun e => bothOf e.colors c && (pastOfId l x).any (isId2 e.id)).map (·.id)).map Id.enc) true)] (by repeat (first | exact trivial | refine ⟨.same (congrArg dInt (wrap_up (by omega))), ?_⟩ | refine ⟨.same rfl, ?_⟩ | refine ⟨.any _, ?_⟩)) ⟨⟨rfl, rfl, rfl, .same rfl, rfl, .same rfl, rfl, .same rfl, rfl, trivial⟩, ⟨rfl, rfl, rfl, rfl⟩, ⟨rfl, rfl, rfl, ?_⟩, trivial⟩ rfl rfl) fun s' h => ⟨m - 1, by omega, k + 1, by omega, h⟩
        rw [hst, if_pos (by rw [h2, h3]; rfl), List.map_append, List.map_append]
        rfl
      · have hno : (bothOf l[k].colors c && (pastOfId l x).any (isId2 l[k].id)) = false := by rw [h3, Bool.and_false]
        have hrow : ((((l.take (k + 1)).filter fun e => bothOf e.colors c && (pastOfId l x).any (isId2 e.id)).map (·.id)).map Id.enc) = ((((l.take k).filter fun e => bothOf e.colors c && (pastOfId l x).any (isId2 e.id)).map (·.id)).map Id.enc) := by rw [hst, if_neg (by simp [hno])]; simp
        conv => whnf
        repeat (first | (refine Conf.mk (by kernel_rfl) ?_; conv => whnf) | (refine SeqOk.go ?_; conv => whnf))
        exact Into.mono (Into.to [0, 1, 2] [(16, dInt (k + 1 : Nat)), (15, dInt (l.map Entry'.enc).length), (14, .dat (.list (l.map Entry'.enc))), (0, .ptr 0 0), (1, .dat (.list (l.map Entry'.enc))), (7, .dat (.list ((pastOfId l x).map Id.enc))), (8, .row 2)] [(0, .vars 151 3 [dInt c, .nil, .row 1] true), (1, .rows 235 3 (ts.map Turn.enc) true), (2, .rows 25 2 ((((l.take (k + 1)).filter fun e => bothOf e.colors c && (pastOfId l x).any (isId2 e.id)).map (·.id)).map Id.enc) true)] (by repeat (first | exact trivial | refine ⟨.same (congrArg dInt (wrap_up (by omega))), ?_⟩ | refine ⟨.same rfl, ?_⟩ | refine ⟨.any _, ?_⟩)) ⟨⟨rfl, rfl, rfl, .same rfl, rfl, .same rfl, rfl, .same rfl, rfl, trivial⟩, ⟨rfl, rfl, rfl, rfl⟩, ⟨rfl, rfl, rfl, hrow⟩, trivial⟩ rfl rfl) fun s' h => ⟨m - 1, by omega, k + 1, by omega, h⟩
    · have h2 : bothOf l[k].colors c = false := h2
      have hno : (bothOf l[k].colors c && (pastOfId l x).any (isId2 l[k].id)) = false := by rw [h2, Bool.false_and]
      have hrow : ((((l.take (k + 1)).filter fun e => bothOf e.colors c && (pastOfId l x).any (isId2 e.id)).map (·.id)).map Id.enc) = ((((l.take k).filter fun e => bothOf e.colors c && (pastOfId l x).any (isId2 e.id)).map (·.id)).map Id.enc) := by rw [hst, if_neg (by simp [hno])]; simp
      conv => whnf
      repeat (first | (refine Conf.mk (by kernel_rfl) ?_; conv => whnf) | (refine SeqOk.go ?_; conv => whnf))
      exact Into.mono (Into.to [0, 1, 2] [(16, dInt (k + 1 : Nat)), (15, dInt (l.map Entry'.enc).length), (14, .dat (.list (l.map Entry'.enc))), (0, .ptr 0 0), (1, .dat (.list (l.map Entry'.enc))), (7, .dat (.list ((pastOfId l x).map Id.enc))), (8, .row 2)] [(0, .vars 151 3 [dInt c, .nil, .row 1] true), (1, .rows 235 3 (ts.map Turn.enc) true), (2, .rows 25 2 ((((l.take (k + 1)).filter fun e => bothOf e.colors c && (pastOfId l x).any (isId2 e.id)).map (·.id)).map Id.enc) true)] (by repeat (first | exact trivial | refine ⟨.same (congrArg dInt (wrap_up (by omega))), ?_⟩ | refine ⟨.same rfl, ?_⟩ | refine ⟨.any _, ?_⟩)) ⟨⟨rfl, rfl, rfl, .same rfl, rfl, .same rfl, rfl, .same rfl, rfl, trivial⟩, ⟨rfl, rfl, rfl, rfl⟩, ⟨rfl, rfl, rfl, hrow⟩, trivial⟩ rfl rfl) fun s' h => ⟨m - 1, by omega, k + 1, by omega, h⟩
  · have hk' := ge_of_len h
    conv => whnf
    repeat (first | (refine Conf.mk (by kernel_rfl) ?_; conv => whnf) | (refine SeqOk.go ?_; conv => whnf))
    subst hQ1
    conv => whnf
    exact .mk [2] [0, 1] (.dat (.list ((needsL l c x).map Id.enc))) [(0, .vars 151 3 [dInt c, .nil, .row 1] true), (1, .rows 235 3 (ts.map Turn.enc) true)] rfl (.data (by rw [List.take_of_length_le hk']; rfl)) ⟨⟨rfl, rfl, rfl, .same rfl, rfl, .same rfl, rfl, .same rfl, rfl, trivial⟩, ⟨rfl, rfl, rfl, rfl⟩, trivial⟩ rfl rfl ⟨rfl, rfl, rfl⟩
def mayT (played : List Id) (t : Turn) : Bool := !hasId played t.id && t.needs.all (hasId played)
theorem any_hasId (l : List Id) (x : Id) : l.any (isId2 x) = hasId l x := by rw [Bool.eq_iff_iff, any_isId2, hasId_iff]
set_option maxHeartbeats 0 in
theorem mayBeNext_ok (c : Int) (played : List Id) (ds : List (List D)) (t : Turn) (h1 : played.length ≤ 1000) (h2 : t.needs.length ≤ 1000) : PCall Tryz.prog 178 [.dat (.ptr [.int .i64 c, .list (played.map Id.enc), .list ds]), t.arg] (dBool (mayT played t)) := by
  refine pcall_cut tab_all tab_mixed Tryz.func178 (by kernel_rfl) Tryz.ntmps178 rfl ?_
  conv => whnf
  conv => whnf
  repeat (first | (refine Conf.mk (by kernel_rfl) ?_; conv => whnf) | (refine SeqOk.go ?_; conv => whnf))
  refine .look _ _ (containsId_ok t.id played (by omega)) rfl rfl ?_
  conv => whnf
  repeat (first | (refine Conf.mk (by kernel_rfl) ?_; conv => whnf) | (refine SeqOk.go ?_; conv => whnf))
  refine ⟨fun h => ?_, fun h => ?_⟩
  · conv => whnf
    repeat (first | (refine Conf.mk (by kernel_rfl) ?_; conv => whnf) | (refine SeqOk.go ?_; conv => whnf))
    exact Ret.bool (by unfold mayT; rw [← any_hasId, h]; rfl)
  · have hm : mayT played t = (t.needs.drop 0).all (hasId played) := by unfold mayT; rw [← any_hasId, h]; rfl
    conv => whnf
    repeat (first | (refine Conf.mk (by kernel_rfl) ?_; conv => whnf) | (refine SeqOk.go ?_; conv => whnf))
    refine LoopOk.hide fun Q1 hQ1 => ?_
    refine LoopOk.mk (fun m s => ∃ k, k + m = t.needs.length ∧ mayT played t = (t.needs.drop k).all (hasId played) ∧ s = ⟨[(18, dInt k), (17, dInt (t.needs.map Id.enc).length), (16, .dat (.list (t.needs.map Id.enc))), (0, .dat (.ptr [.int .i64 c, .list (played.map Id.enc), .list ds]))], 0, []⟩) t.needs.length (Into.mono (Into.to [] [(18, dInt (0 : Nat)), (17, dInt (t.needs.map Id.enc).length), (16, .dat (.list (t.needs.map Id.enc))), (0, .dat (.ptr [.int .i64 c, .list (played.map Id.enc), .list ds]))] [] (by repeat (first | exact trivial | refine ⟨.same (congrArg dInt (wrap_up (by omega))), ?_⟩ | refine ⟨.same rfl, ?_⟩ | refine ⟨.any _, ?_⟩)) trivial rfl rfl) fun s' h => ⟨0, by omega, hm, h⟩) ?_
    rintro m s ⟨k, hk, hq, rfl⟩
    conv => whnf
    repeat (first | (refine Conf.mk (by kernel_rfl) ?_; conv => whnf) | (refine SeqOk.go ?_; conv => whnf))
    refine ⟨fun h3 => ?_, fun h3 => ?_⟩
    · have hk' := lt_of_len h3
      rw [List.drop_eq_getElem_cons hk', List.all_cons] at hq
      conv => whnf
      repeat (first | (refine Conf.mk (by kernel_rfl) ?_; conv => whnf) | (refine SeqOk.go ?_; conv => whnf))
      refine AtIdx.ofMap hk' rfl ?_
      conv => whnf
      repeat (first | (refine Conf.mk (by kernel_rfl) ?_; conv => whnf) | (refine SeqOk.go ?_; conv => whnf))
      refine .look _ _ (containsId_ok t.needs[k] played (by omega)) rfl rfl ?_
      conv => whnf
      repeat (first | (refine Conf.mk (by kernel_rfl) ?_; conv => whnf) | (refine SeqOk.go ?_; conv => whnf))
      refine ⟨fun h4 => ?_, fun h4 => ?_⟩
      · have h4 : hasId played t.needs[k] = false := by rw [← any_hasId]; exact (Bool.not_eq_true' _).mp h4
        conv => whnf
        repeat (first | (refine Conf.mk (by kernel_rfl) ?_; conv => whnf) | (refine SeqOk.go ?_; conv => whnf))
        subst hQ1
        conv => whnf
        exact Ret.bool (by rw [hq, h4]; rfl)
      · have h4 : hasId played t.needs[k] = true := by rw [← any_hasId]; exact (Bool.not_eq_false' (b := played.any (isId2 t.needs[k]))).mp h4
        conv => whnf
        repeat (first | (refine Conf.mk (by kernel_rfl) ?_; conv => whnf) | (refine SeqOk.go ?_; conv => whnf))
        exact Into.mono (Into.to [] [(18, dInt (k + 1 : Nat)), (17, dInt (t.needs.map Id.enc).length), (16, .dat (.list (t.needs.map Id.enc))), (0, .dat (.ptr [.int .i64 c, .list (played.map Id.enc), .list ds]))] [] (by repeat (first | exact trivial | refine ⟨.same (congrArg dInt (wrap_up (by omega))), ?_⟩ | refine ⟨.same rfl, ?_⟩ | refine ⟨.any _, ?_⟩)) trivial rfl rfl) fun s' h => ⟨m - 1, by omega, k + 1, by omega, by rw [hq, h4, Bool.true_and], h⟩
    · conv => whnf
      repeat (first | (refine Conf.mk (by kernel_rfl) ?_; conv => whnf) | (refine SeqOk.go ?_; conv => whnf))
      subst hQ1
      conv => whnf
      exact Ret.bool (by rw [hq, List.drop_eq_nil_of_le (ge_of_len h3)]; rfl)
end Go.Proofs.YtlioojekjnigiafGreat.AM
/- A player's beginning, and its plays. -/
namespace Go.Proofs.YtlioojekjnigiafGreat.AM
set_option linter.unusedVariables false
set_option linter.unusedSimpArgs false
def turnStep (l : List Entry') (c : Int) (ts : List Turn) (e : Entry') : List Turn := if bothOf e.colors c = true then insT ts ⟨e.id, needsL l c e.id⟩ else ts
def turnsTo (l : List Entry') (c : Int) (k : Nat) : List Turn := (l.take k).foldl (turnStep l c) []
def turnsOf (l : List Entry') (c : Int) : List Turn := turnsTo l c l.length
theorem turnsTo_snoc {l : List Entry'} {c : Int} {k : Nat} (hk : k < l.length) : turnsTo l c (k + 1) = turnStep l c (turnsTo l c k) l[k] := by
  unfold turnsTo
  rw [take_snoc hk, List.foldl_append]
  rfl
theorem putAt_len {α : Type} {l : List α} {i : Nat} (h : i ≤ l.length) (x : α) : (putAt l i x).length = l.length + 1 := by simp [putAt]; omega
theorem mem_putAt {α : Type} {l : List α} {i : Nat} {x y : α} : y ∈ putAt l i x ↔ y = x ∨ y ∈ l := by
  unfold putAt
  rw [List.mem_append, List.mem_cons]
  constructor
  · rintro (h | h | h)
    · exact .inr (List.mem_of_mem_take h)
    · exact .inl h
    · exact .inr (List.mem_of_mem_drop h)
  · rintro (h | h)
    · exact .inr (.inl h)
    · rw [← List.take_append_drop i l, List.mem_append] at h
      exact h.elim .inl fun h => .inr (.inr h)
theorem turnsTo_len {l : List Entry'} {c : Int} : ∀ {k : Nat}, k ≤ l.length → (turnsTo l c k).length ≤ k
  | 0, _ => by simp [turnsTo]
  | k + 1, h => by
    rw [turnsTo_snoc h]
    have := turnsTo_len (l := l) (c := c) (k := k) (by omega)
    unfold turnStep
    split
    · unfold insT
      rw [putAt_len (placeOf_le _ _)]
      omega
    · omega
set_option maxHeartbeats 0 in
theorem newPlayer_ok {l : List Entry'} (hr : Right l) (c : Int) : ECall Tryz.prog 92 [.dat (.list (l.map Entry'.enc)), dInt c] [] 0 (.agg [dInt c, .nil, .dat (.list ((turnsOf l c).map Turn.enc))]) [] 0 := by
  have hlen := hr.len
  refine acall_cut tab_all tab_mixed Tryz.func92 (by kernel_rfl) Tryz.ntmps92 rfl ?_
  conv => whnf
  conv => whnf
  repeat (first | (refine Conf.mk (by kernel_rfl) ?_; conv => whnf) | (refine SeqOk.go ?_; conv => whnf))
  refine LoopOk.hide fun Q1 hQ1 => ?_
  refine LoopOk.mk (fun m s => ∃ k, k + m = l.length ∧ s = ⟨[(13, dInt k), (12, dInt (l.map Entry'.enc).length), (11, .dat (.list (l.map Entry'.enc))), (0, .dat (.list (l.map Entry'.enc))), (4, .ptr 0 0), (5, .ptr 1 0)], 3, [(0, .vars 151 3 [dInt 0, .nil, .nil] true), (1, .vars 151 3 [dInt c, .nil, .row 2] true), (2, .rows 235 3 ((turnsTo l c k).map Turn.enc) true)]⟩) l.length ((Into.rowAt 1 151 3 [dInt c, .nil, .nil] 2 235 3 rfl (Nat.lt_succ_self 1) rfl).trans fun s' hs' => by
    subst hs'
    exact Into.mono (Into.to [0, 1, 2] [(13, dInt (0 : Nat)), (12, dInt (l.map Entry'.enc).length), (11, .dat (.list (l.map Entry'.enc))), (0, .dat (.list (l.map Entry'.enc))), (4, .ptr 0 0), (5, .ptr 1 0)] [(0, .vars 151 3 [dInt 0, .nil, .nil] true), (1, .vars 151 3 [dInt c, .nil, .row 2] true), (2, .rows 235 3 ((turnsTo l c 0).map Turn.enc) true)] (by repeat (first | exact trivial | refine ⟨.same (congrArg dInt (wrap_up (by omega))), ?_⟩ | refine ⟨.same rfl, ?_⟩ | refine ⟨.any _, ?_⟩)) ⟨⟨rfl, rfl, rfl, .same rfl, rfl, .same rfl, rfl, .same rfl, rfl, trivial⟩, ⟨rfl, rfl, rfl, .same rfl, rfl, .same rfl, rfl, .same rfl, rfl, trivial⟩, ⟨rfl, rfl, rfl, rfl⟩, trivial⟩ rfl rfl) fun s' h => ⟨0, by omega, h⟩) ?_
  rintro m s ⟨k, hk, rfl⟩
  conv => whnf
  repeat (first | (refine Conf.mk (by kernel_rfl) ?_; conv => whnf) | (refine SeqOk.go ?_; conv => whnf))
  refine ⟨fun h => ?_, fun h => ?_⟩
  · have hk' := lt_of_len h
    have hst := turnsTo_snoc (c := c) hk'
    have htl := turnsTo_len (l := l) (c := c) (k := k) (by omega)
    conv => whnf
    repeat (first | (refine Conf.mk (by kernel_rfl) ?_; conv => whnf) | (refine SeqOk.go ?_; conv => whnf))
    refine AtIdx.ofMap hk' rfl ?_
    conv => whnf
    repeat (first | (refine Conf.mk (by kernel_rfl) ?_; conv => whnf) | (refine SeqOk.go ?_; conv => whnf))
    refine ⟨fun h2 => ?_, fun h2 => ?_⟩
    · have h2 : bothOf l[k].colors c = true := h2
      conv => whnf
      repeat (first | (refine Conf.mk (by kernel_rfl) ?_; conv => whnf) | (refine SeqOk.go ?_; conv => whnf))
      refine .eff [1, 2] _ _ _ _ 0 (needsOf_ok hr c (turnsTo l c k) l[k].id ⟨_, List.getElem_mem hk', rfl⟩) rfl rfl rfl rfl rfl ?_
      conv => whnf
      repeat (first | (refine Conf.mk (by kernel_rfl) ?_; conv => whnf) | (refine SeqOk.go ?_; conv => whnf))
      refine .eff [1, 2] _ _ _ _ 1 (add_ok c (turnsTo l c k) ⟨l[k].id, needsL l c l[k].id⟩ (by omega)) rfl rfl rfl rfl rfl ?_
      conv => whnf
      repeat (first | (refine Conf.mk (by kernel_rfl) ?_; conv => whnf) | (refine SeqOk.go ?_; conv => whnf))
      refine Into.mono (Into.to [0, 1, 4] [(13, dInt (k + 1 : Nat)), (12, dInt (l.map Entry'.enc).length), (11, .dat (.list (l.map Entry'.enc))), (0, .dat (.list (l.map Entry'.enc))), (4, .ptr 0 0), (5, .ptr 1 0)] [(0, .vars 151 3 [dInt 0, .nil, .nil] true), (1, .vars 151 3 [dInt c, .nil, .row 2] true), (2, .rows 235 3 ((turnsTo l c (k + 1)).map Turn.enc) true)] (by repeat (first | exact trivial | refine ⟨.same (congrArg dInt (wrap_up (by omega))), ?_⟩ | refine ⟨.same rfl, ?_⟩ | refine ⟨.any _, ?_⟩)) ⟨⟨rfl, rfl, rfl, .same rfl, rfl, .same rfl, rfl, .same rfl, rfl, trivial⟩, ⟨rfl, rfl, rfl, .same rfl, rfl, .same rfl, rfl, .same rfl, rfl, trivial⟩, ⟨rfl, rfl, rfl, ?_⟩, trivial⟩ rfl rfl) fun s' h => ⟨m - 1, by omega, k + 1, by omega, h⟩
      rw [hst, turnStep, if_pos h2]
    · have h2 : bothOf l[k].colors c = false := h2
      conv => whnf
      repeat (first | (refine Conf.mk (by kernel_rfl) ?_; conv => whnf) | (refine SeqOk.go ?_; conv => whnf))
      refine Into.mono (Into.to [0, 1, 2] [(13, dInt (k + 1 : Nat)), (12, dInt (l.map Entry'.enc).length), (11, .dat (.list (l.map Entry'.enc))), (0, .dat (.list (l.map Entry'.enc))), (4, .ptr 0 0), (5, .ptr 1 0)] [(0, .vars 151 3 [dInt 0, .nil, .nil] true), (1, .vars 151 3 [dInt c, .nil, .row 2] true), (2, .rows 235 3 ((turnsTo l c (k + 1)).map Turn.enc) true)] (by repeat (first | exact trivial | refine ⟨.same (congrArg dInt (wrap_up (by omega))), ?_⟩ | refine ⟨.same rfl, ?_⟩ | refine ⟨.any _, ?_⟩)) ⟨⟨rfl, rfl, rfl, .same rfl, rfl, .same rfl, rfl, .same rfl, rfl, trivial⟩, ⟨rfl, rfl, rfl, .same rfl, rfl, .same rfl, rfl, .same rfl, rfl, trivial⟩, ⟨rfl, rfl, rfl, ?_⟩, trivial⟩ rfl rfl) fun s' h => ⟨m - 1, by omega, k + 1, by omega, h⟩
      rw [hst, turnStep, if_neg (by simp [h2])]
  · have hk' : k = l.length := by have := ge_of_len h; omega
    subst hk'
    conv => whnf
    repeat (first | (refine Conf.mk (by kernel_rfl) ?_; conv => whnf) | (refine SeqOk.go ?_; conv => whnf))
    subst hQ1
    conv => whnf
    exact .mk [2] [] (.agg [dInt c, .nil, .dat (.list ((turnsOf l c).map Turn.enc))]) [] rfl (.aggs ⟨.same rfl, .same rfl, .data rfl, trivial⟩) trivial rfl rfl ⟨rfl, rfl, rfl⟩
end Go.Proofs.YtlioojekjnigiafGreat.AM
/- Sites: one comes in. -/
namespace Go.Proofs.YtlioojekjnigiafGreat.AM
set_option linter.unusedVariables false
set_option linter.unusedSimpArgs false
def roomErr (p : List Entry' × List Entry') : Int := if 20 < p.2.length ∨ 40 < p.1.length then 2 else 0
theorem checkRoom_ok (r : Int) (log ws : List Entry') : PCall Tryz.prog 150 [.dat (.ptr [.int .i64 r, .list (log.map Entry'.enc), .list (ws.map Entry'.enc)])] (dInt (roomErr (log, ws))) := by
  refine pcall_intro tab_all tab_mixed Tryz.func150 (by kernel_rfl) Tryz.ntmps150 rfl ?_
  conv => whnf
  conv => whnf
  repeat (first | (refine Conf.mk (by kernel_rfl) ?_; conv => whnf) | (refine SeqOk.go ?_; conv => whnf))
  refine ⟨fun h => ?_, fun h => ?_⟩
  · have h : 20 < ws.length := by simp at h; omega
    conv => whnf
    repeat (first | (refine Conf.mk (by kernel_rfl) ?_; conv => whnf) | (refine SeqOk.go ?_; conv => whnf))
    exact Ret.int (by unfold roomErr; rw [if_pos (.inl h)])
  · have h : ¬ 20 < ws.length := by simp at h; omega
    conv => whnf
    repeat (first | (refine Conf.mk (by kernel_rfl) ?_; conv => whnf) | (refine SeqOk.go ?_; conv => whnf))
    refine ⟨fun h2 => ?_, fun h2 => ?_⟩
    · have h2 : 40 < log.length := by simp at h2; omega
      conv => whnf
      repeat (first | (refine Conf.mk (by kernel_rfl) ?_; conv => whnf) | (refine SeqOk.go ?_; conv => whnf))
      exact Ret.int (by unfold roomErr; rw [if_pos (.inr h2)])
    · have h2 : ¬ 40 < log.length := by simp at h2; omega
      conv => whnf
      repeat (first | (refine Conf.mk (by kernel_rfl) ?_; conv => whnf) | (refine SeqOk.go ?_; conv => whnf))
      exact Ret.int (by unfold roomErr; rw [if_neg (by simp only [not_or]; exact ⟨h, h2⟩)])
/-- The waits, with one more. -/
def putW (ws : List Entry') (e : Entry') : List Entry' := putAt ws (waitAt ws e.id) e
set_option maxHeartbeats 0 in
theorem receive_ok (r : Int) (log ws : List Entry') (e : Entry') (hlen : log.length + ws.length ≤ 500) (hk : ∀ e ∈ ws, e.links.length ≤ 1000) (he : e.links.length ≤ 1000) : ACall Tryz.prog 65 [.ptr 0 0, e.arg] [(0, .vars 121 3 [dInt r, .row 1, .row 2] true), (1, .rows 28 5 (log.map Entry'.enc) true), (2, .rows 28 5 (ws.map Entry'.enc) true)] 3 fun x H' n' =>
    ((log.any (isThe e.id) || ws.any (isThe e.id)) = true ∧ x = dInt 0 ∧ H' = [(0, .vars 121 3 [dInt r, .row 1, .row 2] true), (1, .rows 28 5 (log.map Entry'.enc) true), (2, .rows 28 5 (ws.map Entry'.enc) true)] ∧ n' = 3)
    ∨ ((log.any (isThe e.id) || ws.any (isThe e.id)) = false ∧ e.id.r = r ∧ x = dInt 4 ∧ H' = [(0, .vars 121 3 [dInt r, .row 1, .row 2] true), (1, .rows 28 5 (log.map Entry'.enc) true), (2, .rows 28 5 (ws.map Entry'.enc) true)] ∧ n' = 3)
    ∨ ((log.any (isThe e.id) || ws.any (isThe e.id)) = false ∧ e.id.r ≠ r ∧ x = dInt (roomErr (settle log (putW ws e))) ∧
        ((settle log (putW ws e) = (log, putW ws e) ∧ H' = [(0, .vars 121 3 [dInt r, .row 1, .row 3] true), (1, .rows 28 5 (log.map Entry'.enc) true), (2, .dead), (3, .rows 28 5 ((putW ws e).map Entry'.enc) true)] ∧ n' = 4)
        ∨ (H' = [(0, .vars 121 3 [dInt r, .row 4, .row 5] true), (1, .dead), (2, .dead), (3, .dead), (4, .rows 28 5 ((settle log (putW ws e)).1.map Entry'.enc) true), (5, .rows 28 5 ((settle log (putW ws e)).2.map Entry'.enc) true)] ∧ n' = 6))) := by
  have hple := waitAt_le e.id ws
  have hpl : (putW ws e).length = ws.length + 1 := putAt_len hple e
  have hpk : ∀ x ∈ putW ws e, x.links.length ≤ 1000 := fun x hx => by
    rcases mem_putAt.1 hx with rfl | hx
    · exact he
    · exact hk x hx
  refine acall_intro tab_all tab_mixed Tryz.func65 (by kernel_rfl) Tryz.ntmps65 rfl ?_
  conv => whnf
  conv => whnf
  repeat (first | (refine Conf.mk (by kernel_rfl) ?_; conv => whnf) | (refine SeqOk.go ?_; conv => whnf))
  refine .look _ _ (siteHas_ok e.id log (by omega)) rfl rfl ?_
  conv => whnf
  repeat (first | (refine Conf.mk (by kernel_rfl) ?_; conv => whnf) | (refine SeqOk.go ?_; conv => whnf))
  refine ⟨fun h1 => ?_, fun h1 => ?_⟩
  · have hth : (log.any (isThe e.id) || ws.any (isThe e.id)) = true := by rw [show log.any (isThe e.id) = true from h1]; rfl
    conv => whnf
    repeat (first | (refine Conf.mk (by kernel_rfl) ?_; conv => whnf) | (refine SeqOk.go ?_; conv => whnf))
    exact .mk [] [0, 1, 2] (dInt 0) [(0, .vars 121 3 [dInt r, .row 1, .row 2] true), (1, .rows 28 5 (log.map Entry'.enc) true), (2, .rows 28 5 (ws.map Entry'.enc) true)] rfl (.same rfl) ⟨⟨rfl, rfl, rfl, .same rfl, rfl, .same rfl, rfl, .same rfl, rfl, trivial⟩, ⟨rfl, rfl, rfl, rfl⟩, ⟨rfl, rfl, rfl, rfl⟩, trivial⟩ rfl rfl (.inl ⟨hth, rfl, rfl, rfl⟩)
  · have h1 : log.any (isThe e.id) = false := h1
    conv => whnf
    repeat (first | (refine Conf.mk (by kernel_rfl) ?_; conv => whnf) | (refine SeqOk.go ?_; conv => whnf))
    refine .look _ _ (siteHas_ok e.id ws (by omega)) rfl rfl ?_
    conv => whnf
    repeat (first | (refine Conf.mk (by kernel_rfl) ?_; conv => whnf) | (refine SeqOk.go ?_; conv => whnf))
    refine ⟨fun h2 => ?_, fun h2 => ?_⟩
    · have hth : (log.any (isThe e.id) || ws.any (isThe e.id)) = true := by rw [h1, show ws.any (isThe e.id) = true from h2]; rfl
      conv => whnf
      repeat (first | (refine Conf.mk (by kernel_rfl) ?_; conv => whnf) | (refine SeqOk.go ?_; conv => whnf))
      exact .mk [] [0, 1, 2] (dInt 0) [(0, .vars 121 3 [dInt r, .row 1, .row 2] true), (1, .rows 28 5 (log.map Entry'.enc) true), (2, .rows 28 5 (ws.map Entry'.enc) true)] rfl (.same rfl) ⟨⟨rfl, rfl, rfl, .same rfl, rfl, .same rfl, rfl, .same rfl, rfl, trivial⟩, ⟨rfl, rfl, rfl, rfl⟩, ⟨rfl, rfl, rfl, rfl⟩, trivial⟩ rfl rfl (.inl ⟨hth, rfl, rfl, rfl⟩)
    · have hth : (log.any (isThe e.id) || ws.any (isThe e.id)) = false := by rw [h1, show ws.any (isThe e.id) = false from h2]; rfl
      conv => whnf
      repeat (first | (refine Conf.mk (by kernel_rfl) ?_; conv => whnf) | (refine SeqOk.go ?_; conv => whnf))
      refine ⟨fun h3 => ?_, fun h3 => ?_⟩
      · have h3 : e.id.r = r := by simpa using h3
        conv => whnf
        repeat (first | (refine Conf.mk (by kernel_rfl) ?_; conv => whnf) | (refine SeqOk.go ?_; conv => whnf))
        exact .mk [] [0, 1, 2] (dInt 4) [(0, .vars 121 3 [dInt r, .row 1, .row 2] true), (1, .rows 28 5 (log.map Entry'.enc) true), (2, .rows 28 5 (ws.map Entry'.enc) true)] rfl (.same rfl) ⟨⟨rfl, rfl, rfl, .same rfl, rfl, .same rfl, rfl, .same rfl, rfl, trivial⟩, ⟨rfl, rfl, rfl, rfl⟩, ⟨rfl, rfl, rfl, rfl⟩, trivial⟩ rfl rfl (.inr (.inl ⟨hth, h3, rfl, rfl, rfl⟩))
      · have h3 : e.id.r ≠ r := by simpa using h3
        conv => whnf
        repeat (first | (refine Conf.mk (by kernel_rfl) ?_; conv => whnf) | (refine SeqOk.go ?_; conv => whnf))
        refine .data _ _ (copyEntry_ok e he) rfl ?_
        conv => whnf
        repeat (first | (refine Conf.mk (by kernel_rfl) ?_; conv => whnf) | (refine SeqOk.go ?_; conv => whnf))
        refine .eff [0, 1, 2] _ _ _ _ 1 (await_ok r log ws e (by omega)) rfl rfl rfl rfl rfl ?_
        conv => whnf
        repeat (first | (refine Conf.mk (by kernel_rfl) ?_; conv => whnf) | (refine SeqOk.go ?_; conv => whnf))
        refine .some [0, 1, 4] _ _ _ rfl (settle_ok r log (putW ws e) (by omega) hpk) rfl rfl rfl rfl rfl ?_
        rintro x Hc' m' (⟨rfl, hst, rfl, hm'⟩ | ⟨rfl, rfl, hm'⟩)
        · obtain rfl : m' = 0 := by simp at hm'; omega
          have hro := checkRoom_ok r log (putW ws e)
          conv => whnf
          repeat (first | (refine Conf.mk (by kernel_rfl) ?_; conv => whnf) | (refine SeqOk.go ?_; conv => whnf))
          refine .look _ _ hro rfl rfl ?_
          conv => whnf
          repeat (first | (refine Conf.mk (by kernel_rfl) ?_; conv => whnf) | (refine SeqOk.go ?_; conv => whnf))
          exact .mk [] [0, 1, 2, 4] (dInt (roomErr (log, putW ws e))) [(0, .vars 121 3 [dInt r, .row 1, .row 3] true), (1, .rows 28 5 (log.map Entry'.enc) true), (2, .dead), (3, .rows 28 5 ((putW ws e).map Entry'.enc) true)] rfl (.same rfl) ⟨⟨rfl, rfl, rfl, .same rfl, rfl, .same rfl, rfl, .same rfl, rfl, trivial⟩, ⟨rfl, rfl, rfl, rfl⟩, trivial, ⟨rfl, rfl, rfl, rfl⟩, trivial⟩ rfl rfl (.inr (.inr ⟨hth, h3, by rw [hst], .inl ⟨hst, rfl, rfl⟩⟩))
        · obtain rfl : m' = 2 := by simp at hm'; omega
          have hro := checkRoom_ok r (settle log (putW ws e)).1 (settle log (putW ws e)).2
          conv => whnf
          repeat (first | (refine Conf.mk (by kernel_rfl) ?_; conv => whnf) | (refine SeqOk.go ?_; conv => whnf))
          refine .look _ _ hro rfl rfl ?_
          conv => whnf
          repeat (first | (refine Conf.mk (by kernel_rfl) ?_; conv => whnf) | (refine SeqOk.go ?_; conv => whnf))
          exact .mk [] [0, 1, 2, 4, 5, 6] (dInt (roomErr (settle log (putW ws e)))) [(0, .vars 121 3 [dInt r, .row 4, .row 5] true), (1, .dead), (2, .dead), (3, .dead), (4, .rows 28 5 ((settle log (putW ws e)).1.map Entry'.enc) true), (5, .rows 28 5 ((settle log (putW ws e)).2.map Entry'.enc) true)] rfl (.same rfl) ⟨⟨rfl, rfl, rfl, .same rfl, rfl, .same rfl, rfl, .same rfl, rfl, trivial⟩, trivial, trivial, trivial, ⟨rfl, rfl, rfl, rfl⟩, ⟨rfl, rfl, rfl, rfl⟩, trivial⟩ rfl rfl (.inr (.inr ⟨hth, h3, rfl, .inr ⟨rfl, rfl⟩⟩))
end Go.Proofs.YtlioojekjnigiafGreat.AM
