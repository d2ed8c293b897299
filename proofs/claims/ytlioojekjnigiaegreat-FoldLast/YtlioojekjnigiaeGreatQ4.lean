/- What is leaned on: part 4. -/
import Derived.Test.YtlioojekjnigiaeGreatQ3
import Derived.WalkKit
import Derived.Shelf.SlSortCmp.NoneTotal
import Derived.Lib.ConvBytes
import Derived.Lib.Bytealg
/- Logs: what the document says of a whole one. -/
namespace Go.Proofs.YtlioojekjnigiaeGreat.AM
set_option linter.unusedVariables false
set_option linter.unusedSimpArgs false


theorem entryAt_iff {l : List Entry'} {x : Id} : entryAt l x ≥ 0 ↔ l.any (isThe x) = true := idx_any' _ _ _
set_option maxHeartbeats 0 in
theorem checkLog_ok (l : List Entry') (hl : LogOk l) : PCall Tryz.prog 8 [.dat (.list (l.map Entry'.enc))] (dInt (logErr l)) := by
  refine pcall_intro tab_all tab_mixed Tryz.func8 (by kernel_rfl) Tryz.ntmps8 rfl ?_
  conv => whnf
  (first | (refine SeqOk.go ?_; conv => whnf) | skip)
  refine ⟨fun h1 => ?_, fun h1 => ?_⟩
  · have h1 : 40 < l.length := by simp at h1; omega
    conv => whnf
    exact Ret.int (by simp [logErr, h1])
  · have h1 : ¬ 40 < l.length := by simp at h1; omega
    have he : logErr l = logLoop [] l := by simp [logErr, h1]
    conv => whnf
    refine LoopOk.hide fun Q1 hQ1 => ?_
    refine LoopOk.mk (fun m s => ∃ i, i + m = l.length ∧ logErr l = logLoop (l.take i) (l.drop i) ∧ (∀ e ∈ l.take i, e.id.r = 0 ∨ e.id.r = 1) ∧ s = ⟨[(3, dInt i), (0, .dat (.list (l.map Entry'.enc)))], 0, []⟩) l.length (Into.mono (Into.to [] [(3, dInt (0 : Nat)), (0, .dat (.list (l.map Entry'.enc)))] [] (by repeat (first | exact trivial | refine ⟨.same (congrArg dInt (wrap_up (by omega))), ?_⟩ | refine ⟨.same rfl, ?_⟩ | refine ⟨.any _, ?_⟩)) trivial rfl rfl) fun s' h => ⟨0, by omega, he, by simp, h⟩) ?_
    rintro m s ⟨i, hi, hp, hr, rfl⟩
    conv => whnf
    (first | (refine SeqOk.go ?_; conv => whnf) | skip)
    refine ⟨fun h => ?_, fun h => ?_⟩
    · conv => whnf
      have hi' : i < l.length := by simpa using h
      rw [List.drop_eq_getElem_cons hi', logLoop] at hp
      refine AtIdx.ofMap hi' rfl ?_
      conv => whnf
      refine .look _ _ (checkEntry_ok l[i] (hl.links _ (List.getElem_mem hi'))) rfl rfl ?_
      conv => whnf
      (first | (refine SeqOk.go ?_; conv => whnf) | skip)
      refine ⟨fun h2 => ?_, fun h2 => ?_⟩
      · have h2 : l[i].err ≠ 0 := by simpa using h2
        conv => whnf
        subst hQ1
        conv => whnf
        refine Ret.int ?_
        have : behindErr (l.take i) l[i] = l[i].err := by simp [behindErr, h2]
        rw [hp, if_pos (by rw [this]; exact h2), this]
      · have h2 : l[i].err = 0 := by simpa using h2
        conv => whnf
        refine .mk 0 i rfl rfl (Nat.zero_le _) (by simp; omega) ?_
        rw [fits_take]
        conv => whnf
        refine AtIdx.ofMap hi' rfl ?_
        conv => whnf
        refine .look _ _ (entryAt_ok l[i].id (l.take i) (hl.take i).len) rfl rfl ?_
        conv => whnf
        refine ⟨by kernel_rfl, ?_⟩
        conv => whnf
        (first | (refine SeqOk.go ?_; conv => whnf) | skip)
        refine ⟨fun h3 => ?_, fun h3 => ?_⟩
        · have h3 : (l.take i).any (isThe l[i].id) = true := entryAt_iff.1 (by simpa using h3)
          conv => whnf
          subst hQ1
          conv => whnf
          refine Ret.int ?_
          have : behindErr (l.take i) l[i] = 6 := by simp [behindErr, h2, h3]
          rw [hp, if_pos (by rw [this]; decide), this]
        · have h3 : (l.take i).any (isThe l[i].id) = false := by
            rw [Bool.eq_false_iff]
            intro hh
            have := entryAt_iff.2 hh
            simp at h3
            omega
          have hreg := r_of_ok (ok_of_err h2)
          have hc := cnt_le 0 (l.take i)
          have hc1 := cnt_le 1 (l.take i)
          have hlen := (hl.take i).len
          conv => whnf
          refine .mk 0 i rfl rfl (Nat.zero_le _) (by simp; omega) ?_
          rw [fits_take]
          conv => whnf
          refine .look _ _ (countOf_ok (l.take i) (hl.take i).len hr) rfl rfl ?_
          conv => whnf
          refine AtIdx.ofMap hi' rfl ?_
          conv => whnf
          rcases hreg with hreg | hreg
          · refine .mk 0 hreg (by decide) ?_
            conv => whnf
            refine AtIdx.ofMap hi' rfl ?_
            conv => whnf
            refine ⟨by kernel_rfl, ?_⟩
            conv => whnf
            (first | (refine SeqOk.go ?_; conv => whnf) | skip)
            refine ⟨fun h4 => ?_, fun h4 => ?_⟩
            · conv => whnf
              subst hQ1
              conv => whnf
              refine Ret.int ?_
              have h4 : l[i].id.n ≠ (cnt l[i].id.r (l.take i) : Int) + 1 := by
                rw [hreg]
                rw [wrap_id (by omega) (by omega)] at h4
                simp at h4
                omega
              have : behindErr (l.take i) l[i] = 4 := by simp [behindErr, h2, h3, h4]
              rw [hp, if_pos (by rw [this]; decide), this]
            · have h4 : l[i].id.n = (cnt l[i].id.r (l.take i) : Int) + 1 := by
                rw [hreg]
                rw [wrap_id (by omega) (by omega)] at h4
                simp at h4
                omega
              have hd := behind_links h2 h3 h4
              conv => whnf
              refine LoopOk.hide fun Q2 hQ2 => ?_
              refine LoopOk.mk (fun m' s => ∃ k, k + m' = l[i].links.length ∧ behindErr (l.take i) l[i] = (if (l[i].links.drop k).all (fun x => (l.take i).any (isThe x)) = true then 0 else 5) ∧ s = ⟨[(5, dInt k), (3, dInt i), (0, .dat (.list (l.map Entry'.enc)))], 0, []⟩) l[i].links.length (Into.mono (Into.to [] [(5, dInt (0 : Nat)), (3, dInt i), (0, .dat (.list (l.map Entry'.enc)))] [] (by repeat (first | exact trivial | refine ⟨.same (congrArg dInt (wrap_up (by omega))), ?_⟩ | refine ⟨.same rfl, ?_⟩ | refine ⟨.any _, ?_⟩)) trivial rfl rfl) fun s' h => ⟨0, by omega, hd, h⟩) ?_
              rintro m' s ⟨k, hk, hq, rfl⟩
              conv => whnf
              refine AtIdx.ofMap hi' rfl ?_
              conv => whnf
              (first | (refine SeqOk.go ?_; conv => whnf) | skip)
              refine ⟨fun h5 => ?_, fun h5 => ?_⟩
              · have hk' : k < l[i].links.length := by simpa using h5
                rw [List.drop_eq_getElem_cons hk', List.all_cons] at hq
                conv => whnf
                refine .mk 0 i rfl rfl (Nat.zero_le _) (by simp; omega) ?_
                rw [fits_take]
                conv => whnf
                refine AtIdx.ofMap hi' rfl ?_
                conv => whnf
                refine AtIdx.ofMap hk' rfl ?_
                conv => whnf
                refine .look _ _ (entryAt_ok l[i].links[k] (l.take i) (hl.take i).len) rfl rfl ?_
                conv => whnf
                refine ⟨by kernel_rfl, ?_⟩
                conv => whnf
                (first | (refine SeqOk.go ?_; conv => whnf) | skip)
                refine ⟨fun h6 => ?_, fun h6 => ?_⟩
                · have h6 : (l.take i).any (isThe l[i].links[k]) = false := by
                    rw [Bool.eq_false_iff]
                    intro hh
                    have := entryAt_iff.2 hh
                    simp at h6
                    omega
                  conv => whnf
                  subst hQ2
                  conv => whnf
                  subst hQ1
                  conv => whnf
                  refine Ret.int ?_
                  rw [h6] at hq
                  have hq : behindErr (l.take i) l[i] = 5 := hq
                  rw [hp, if_pos (by rw [hq]; decide), hq]
                · have h6 : (l.take i).any (isThe l[i].links[k]) = true := entryAt_iff.1 (by simpa using h6)
                  have hlk := hl.links _ (List.getElem_mem hi')
                  conv => whnf
                  refine Into.mono (Into.to [] [(5, dInt (k + 1 : Nat)), (3, dInt i), (0, .dat (.list (l.map Entry'.enc)))] [] (by repeat (first | exact trivial | refine ⟨.same (congrArg dInt (wrap_up (by omega))), ?_⟩ | refine ⟨.same rfl, ?_⟩ | refine ⟨.any _, ?_⟩)) trivial rfl rfl) fun s' h => ⟨m' - 1, by omega, k + 1, by omega, ?_, h⟩
                  rw [hq, h6, Bool.true_and]
              · conv => whnf
                have hk' : l[i].links.length ≤ k := by simpa using h5
                rw [List.drop_eq_nil_of_le hk'] at hq
                have hz : behindErr (l.take i) l[i] = 0 := hq
                subst hQ2
                conv => whnf
                refine Into.mono (Into.to [] [(3, dInt (i + 1 : Nat)), (0, .dat (.list (l.map Entry'.enc)))] [] (by repeat (first | exact trivial | refine ⟨.same (congrArg dInt (wrap_up (by omega))), ?_⟩ | refine ⟨.same rfl, ?_⟩ | refine ⟨.any _, ?_⟩)) trivial rfl rfl) fun s' h => ⟨m - 1, by omega, i + 1, by omega, ?_, regs_snoc hi' hr hz, h⟩
                rw [hp, if_neg (by simp [hz]), take_snoc hi']
          · refine .mk 1 hreg (by decide) ?_
            conv => whnf
            refine AtIdx.ofMap hi' rfl ?_
            conv => whnf
            refine ⟨by kernel_rfl, ?_⟩
            conv => whnf
            (first | (refine SeqOk.go ?_; conv => whnf) | skip)
            refine ⟨fun h4 => ?_, fun h4 => ?_⟩
            · conv => whnf
              subst hQ1
              conv => whnf
              refine Ret.int ?_
              have h4 : l[i].id.n ≠ (cnt l[i].id.r (l.take i) : Int) + 1 := by
                rw [hreg]
                rw [wrap_id (by omega) (by omega)] at h4
                simp at h4
                omega
              have : behindErr (l.take i) l[i] = 4 := by simp [behindErr, h2, h3, h4]
              rw [hp, if_pos (by rw [this]; decide), this]
            · have h4 : l[i].id.n = (cnt l[i].id.r (l.take i) : Int) + 1 := by
                rw [hreg]
                rw [wrap_id (by omega) (by omega)] at h4
                simp at h4
                omega
              have hd := behind_links h2 h3 h4
              conv => whnf
              refine LoopOk.hide fun Q2 hQ2 => ?_
              refine LoopOk.mk (fun m' s => ∃ k, k + m' = l[i].links.length ∧ behindErr (l.take i) l[i] = (if (l[i].links.drop k).all (fun x => (l.take i).any (isThe x)) = true then 0 else 5) ∧ s = ⟨[(5, dInt k), (3, dInt i), (0, .dat (.list (l.map Entry'.enc)))], 0, []⟩) l[i].links.length (Into.mono (Into.to [] [(5, dInt (0 : Nat)), (3, dInt i), (0, .dat (.list (l.map Entry'.enc)))] [] (by repeat (first | exact trivial | refine ⟨.same (congrArg dInt (wrap_up (by omega))), ?_⟩ | refine ⟨.same rfl, ?_⟩ | refine ⟨.any _, ?_⟩)) trivial rfl rfl) fun s' h => ⟨0, by omega, hd, h⟩) ?_
              rintro m' s ⟨k, hk, hq, rfl⟩
              conv => whnf
              refine AtIdx.ofMap hi' rfl ?_
              conv => whnf
              (first | (refine SeqOk.go ?_; conv => whnf) | skip)
              refine ⟨fun h5 => ?_, fun h5 => ?_⟩
              · have hk' : k < l[i].links.length := by simpa using h5
                rw [List.drop_eq_getElem_cons hk', List.all_cons] at hq
                conv => whnf
                refine .mk 0 i rfl rfl (Nat.zero_le _) (by simp; omega) ?_
                rw [fits_take]
                conv => whnf
                refine AtIdx.ofMap hi' rfl ?_
                conv => whnf
                refine AtIdx.ofMap hk' rfl ?_
                conv => whnf
                refine .look _ _ (entryAt_ok l[i].links[k] (l.take i) (hl.take i).len) rfl rfl ?_
                conv => whnf
                refine ⟨by kernel_rfl, ?_⟩
                conv => whnf
                (first | (refine SeqOk.go ?_; conv => whnf) | skip)
                refine ⟨fun h6 => ?_, fun h6 => ?_⟩
                · have h6 : (l.take i).any (isThe l[i].links[k]) = false := by
                    rw [Bool.eq_false_iff]
                    intro hh
                    have := entryAt_iff.2 hh
                    simp at h6
                    omega
                  conv => whnf
                  subst hQ2
                  conv => whnf
                  subst hQ1
                  conv => whnf
                  refine Ret.int ?_
                  rw [h6] at hq
                  have hq : behindErr (l.take i) l[i] = 5 := hq
                  rw [hp, if_pos (by rw [hq]; decide), hq]
                · have h6 : (l.take i).any (isThe l[i].links[k]) = true := entryAt_iff.1 (by simpa using h6)
                  have hlk := hl.links _ (List.getElem_mem hi')
                  conv => whnf
                  refine Into.mono (Into.to [] [(5, dInt (k + 1 : Nat)), (3, dInt i), (0, .dat (.list (l.map Entry'.enc)))] [] (by repeat (first | exact trivial | refine ⟨.same (congrArg dInt (wrap_up (by omega))), ?_⟩ | refine ⟨.same rfl, ?_⟩ | refine ⟨.any _, ?_⟩)) trivial rfl rfl) fun s' h => ⟨m' - 1, by omega, k + 1, by omega, ?_, h⟩
                  rw [hq, h6, Bool.true_and]
              · conv => whnf
                have hk' : l[i].links.length ≤ k := by simpa using h5
                rw [List.drop_eq_nil_of_le hk'] at hq
                have hz : behindErr (l.take i) l[i] = 0 := hq
                subst hQ2
                conv => whnf
                refine Into.mono (Into.to [] [(3, dInt (i + 1 : Nat)), (0, .dat (.list (l.map Entry'.enc)))] [] (by repeat (first | exact trivial | refine ⟨.same (congrArg dInt (wrap_up (by omega))), ?_⟩ | refine ⟨.same rfl, ?_⟩ | refine ⟨.any _, ?_⟩)) trivial rfl rfl) fun s' h => ⟨m - 1, by omega, i + 1, by omega, ?_, regs_snoc hi' hr hz, h⟩
                rw [hp, if_neg (by simp [hz]), take_snoc hi']
    · conv => whnf
      have hi' : l.length ≤ i := by simpa using h
      subst hQ1
      conv => whnf
      refine Ret.int ?_
      rw [hp, List.drop_eq_nil_of_le hi']
      rfl
end Go.Proofs.YtlioojekjnigiaeGreat.AM
/- Ids: is one among some. -/
namespace Go.Proofs.YtlioojekjnigiaeGreat.AM
set_option linter.unusedVariables false
set_option linter.unusedSimpArgs false

def isId2 (x y : Id) : Bool := x.r == y.r && (x.n == y.n && true)
theorem isId2_iff {x y : Id} : isId2 x y = true ↔ x = y := by
  simp only [isId2, Bool.and_eq_true, beq_iff_eq, and_true]
  exact ⟨fun h => Id.ext' h.1 h.2, fun h => by rw [h]; exact ⟨rfl, rfl⟩⟩
set_option maxHeartbeats 0 in
theorem indexId_ok (x : Id) (l : List Id) (hl : l.length ≤ 140737488355328) : PCall Tryz.prog 77 [.dat (.list (l.map Id.enc)), x.arg] (dInt (idxOf (isIdx (isId2 x) l 0))) := by
  refine pcall_intro tab_all tab_mixed Tryz.func77 (by kernel_rfl) Tryz.ntmps77 rfl ?_
  conv => whnf
  refine LoopOk.mk (fun m s => ∃ i, i + m = l.length ∧ isIdx (isId2 x) l 0 = isIdx (isId2 x) (l.drop i) i ∧ s = ⟨[(8, dInt i), (7, dInt (l.map Id.enc).length), (0, .dat (.list (l.map Id.enc))), (3, .ptr 0 0)], 1, [(0, .vars 45 2 [dInt x.r, dInt x.n] true)]⟩) l.length (Into.mono (Into.to [0] [(8, dInt (0 : Nat)), (7, dInt (l.map Id.enc).length), (0, .dat (.list (l.map Id.enc))), (3, .ptr 0 0)] [(0, .vars 45 2 [dInt x.r, dInt x.n] true)] (by repeat (first | exact trivial | refine ⟨.same (congrArg dInt (wrap_up (by omega))), ?_⟩ | refine ⟨.same rfl, ?_⟩ | refine ⟨.any _, ?_⟩)) ⟨⟨rfl, rfl, rfl, .same rfl, rfl, .same rfl, rfl, trivial⟩, trivial⟩ rfl rfl) fun s' h => ⟨0, by omega, rfl, h⟩) ?_
  rintro m s ⟨i, hi, hp, rfl⟩
  conv => whnf
  (first | (refine SeqOk.go ?_; conv => whnf) | skip)
  refine ⟨fun h => ?_, fun h => ?_⟩
  · conv => whnf
    have hi' : i < l.length := by simpa using h
    rw [List.drop_eq_getElem_cons hi'] at hp
    refine AtIdx.ofMap hi' rfl ?_
    conv => whnf
    refine ⟨by kernel_rfl, ?_⟩
    conv => whnf
    (first | (refine SeqOk.go ?_; conv => whnf) | skip)
    refine ⟨fun h1 => ?_, fun h1 => ?_⟩
    · have h1 : isId2 x l[i] = true := h1
      conv => whnf
      refine Ret.int ?_
      rw [hp]
      simp [isIdx, h1, idxOf]
    · have h1 : isId2 x l[i] = false := h1
      conv => whnf
      refine Into.mono (Into.to [0] [(8, dInt (i + 1 : Nat)), (7, dInt (l.map Id.enc).length), (0, .dat (.list (l.map Id.enc))), (3, .ptr 0 0)] [(0, .vars 45 2 [dInt x.r, dInt x.n] true)] (by repeat (first | exact trivial | refine ⟨.same (congrArg dInt (wrap_up (by omega))), ?_⟩ | refine ⟨.same rfl, ?_⟩ | refine ⟨.any _, ?_⟩)) ⟨⟨rfl, rfl, rfl, .same rfl, rfl, .same rfl, rfl, trivial⟩, trivial⟩ rfl rfl) fun s' h => ⟨m - 1, by omega, i + 1, by omega, ?_, h⟩
      rw [hp]
      simp [isIdx, h1]
  · conv => whnf
    have hi' : l.length ≤ i := by simpa using h
    refine Ret.int ?_
    rw [hp, List.drop_eq_nil_of_le hi']
    rfl
theorem containsId_ok (x : Id) (l : List Id) (hl : l.length ≤ 140737488355328) : PCall Tryz.prog 49 [.dat (.list (l.map Id.enc)), x.arg] (dBool (l.any (isId2 x))) := by
  refine pcall_intro tab_all tab_mixed Tryz.func49 (by kernel_rfl) Tryz.ntmps49 rfl ?_
  conv => whnf
  refine .look _ _ (indexId_ok x l hl) rfl rfl ?_
  conv => whnf
  exact Ret.bool (by rw [← idx_any (isId2 x) l 0])
def hasId (l : List Id) (x : Id) : Bool := l.any fun y => isId2 y x
end Go.Proofs.YtlioojekjnigiaeGreat.AM
/- Ids: are two rows of them the same. -/
namespace Go.Proofs.YtlioojekjnigiaeGreat.AM
set_option linter.unusedVariables false
set_option linter.unusedSimpArgs false

def sameIds : List Id → List Id → Bool
  | [], [] => true
  | a :: t, b :: u => isId2 a b && sameIds t u
  | _, _ => false
theorem sameIds_iff : ∀ {a b : List Id}, sameIds a b = true ↔ a = b
  | [], [] => by simp [sameIds]
  | a :: t, b :: u => by simp [sameIds, isId2_iff, sameIds_iff (a := t) (b := u)]
  | [], _ :: _ => by simp [sameIds]
  | _ :: _, [] => by simp [sameIds]
set_option maxHeartbeats 0 in
theorem sameIds_ok (a b : List Id) (hl : a.length ≤ 140737488355328) : PCall Tryz.prog 37 [.dat (.list (a.map Id.enc)), .dat (.list (b.map Id.enc))] (dBool (sameIds a b)) := by
  refine pcall_intro tab_all tab_mixed Tryz.func37 (by kernel_rfl) Tryz.ntmps37 rfl ?_
  conv => whnf
  (first | (refine SeqOk.go ?_; conv => whnf) | skip)
  refine ⟨fun h0 => ?_, fun h0 => ?_⟩
  · have h0 : a.length ≠ b.length := by simp at h0; omega
    conv => whnf
    refine Ret.bool ?_
    have : ¬ sameIds a b = true := fun h => h0 (by rw [sameIds_iff.1 h])
    simp [this]
  · have h0 : a.length = b.length := by simp at h0; omega
    conv => whnf
    refine LoopOk.mk (fun m s => ∃ i, i + m = a.length ∧ sameIds a b = sameIds (a.drop i) (b.drop i) ∧ s = ⟨[(5, dInt i), (0, .dat (.list (a.map Id.enc))), (1, .dat (.list (b.map Id.enc)))], 0, []⟩) a.length (Into.mono (Into.to [] [(5, dInt (0 : Nat)), (0, .dat (.list (a.map Id.enc))), (1, .dat (.list (b.map Id.enc)))] [] (by repeat (first | exact trivial | refine ⟨.same (congrArg dInt (wrap_up (by omega))), ?_⟩ | refine ⟨.same rfl, ?_⟩ | refine ⟨.any _, ?_⟩)) trivial rfl rfl) fun s' h => ⟨0, by omega, rfl, h⟩) ?_
    rintro m s ⟨i, hi, hp, rfl⟩
    conv => whnf
    (first | (refine SeqOk.go ?_; conv => whnf) | skip)
    refine ⟨fun h => ?_, fun h => ?_⟩
    · conv => whnf
      have hi' : i < a.length := by simpa using h
      have hj' : i < b.length := by omega
      rw [List.drop_eq_getElem_cons hi', List.drop_eq_getElem_cons hj', sameIds] at hp
      refine AtIdx.ofMap hi' rfl ?_
      conv => whnf
      refine AtIdx.ofMap hj' rfl ?_
      conv => whnf
      refine ⟨by kernel_rfl, ?_⟩
      conv => whnf
      (first | (refine SeqOk.go ?_; conv => whnf) | skip)
      refine ⟨fun h1 => ?_, fun h1 => ?_⟩
      · have h1 : isId2 a[i] b[i] = false := (Bool.not_eq_true' _).mp h1
        conv => whnf
        refine Ret.bool ?_
        rw [hp, h1]
        rfl
      · have h1 : isId2 a[i] b[i] = true := (Bool.not_eq_false' (b := isId2 a[i] b[i])).mp h1
        conv => whnf
        refine Into.mono (Into.to [] [(5, dInt (i + 1 : Nat)), (0, .dat (.list (a.map Id.enc))), (1, .dat (.list (b.map Id.enc)))] [] (by repeat (first | exact trivial | refine ⟨.same (congrArg dInt (wrap_up (by omega))), ?_⟩ | refine ⟨.same rfl, ?_⟩ | refine ⟨.any _, ?_⟩)) trivial rfl rfl) fun s' h => ⟨m - 1, by omega, i + 1, by omega, ?_, h⟩
        rw [hp, h1, Bool.true_and]
    · conv => whnf
      have hi' : a.length ≤ i := by simpa using h
      refine Ret.to ?_
      rw [hp, List.drop_eq_nil_of_le hi', List.drop_eq_nil_of_le (by omega)]
      rfl
end Go.Proofs.YtlioojekjnigiaeGreat.AM
/- Plain: right logs, and what is in the past of what. -/
namespace Go.Proofs.YtlioojekjnigiaeGreat.AM
set_option linter.unusedVariables false
set_option linter.unusedSimpArgs false

theorem any_isId2 {l : List Id} {x : Id} : l.any (isId2 x) = true ↔ x ∈ l := by
  rw [List.any_eq_true]
  exact ⟨fun ⟨y, h1, h2⟩ => by rw [isId2_iff.1 h2]; exact h1, fun h => ⟨x, h, isId2_iff.2 rfl⟩⟩
theorem any_isThe {l : List Entry'} {x : Id} : l.any (isThe x) = true ↔ ∃ e ∈ l, e.id = x := by
  rw [List.any_eq_true]
  exact ⟨fun ⟨e, h1, h2⟩ => ⟨e, h1, isThe_iff.1 h2⟩, fun ⟨e, h1, h2⟩ => ⟨e, h1, isThe_iff.2 h2⟩⟩
theorem hasId_iff {l : List Id} {x : Id} : hasId l x = true ↔ x ∈ l := by
  unfold hasId
  rw [List.any_eq_true]
  exact ⟨fun ⟨y, h1, h2⟩ => by rw [← isId2_iff.1 h2]; exact h1, fun h => ⟨x, h, isId2_iff.2 rfl⟩⟩

structure Behind (a : List Entry') (e : Entry') : Prop where
  err : e.err = 0
  new : ∀ x ∈ a, x.id ≠ e.id
  num : e.id.n = (cnt e.id.r a : Int) + 1
  links : ∀ y ∈ e.links, ∃ x ∈ a, x.id = y
theorem behindErr_iff {a : List Entry'} {e : Entry'} : behindErr a e = 0 ↔ Behind a e := by
  unfold behindErr
  by_cases h1 : e.err = 0
  · rw [if_neg (by simp [h1])]
    by_cases h2 : a.any (isThe e.id) = true
    · rw [if_pos h2]
      refine ⟨fun h => by simp at h, fun h => ?_⟩
      obtain ⟨x, hx, hxe⟩ := any_isThe.1 h2
      exact absurd hxe (h.new x hx)
    · rw [if_neg h2]
      have h2' : ∀ x ∈ a, x.id ≠ e.id := fun x hx he => h2 (any_isThe.2 ⟨x, hx, he⟩)
      by_cases h3 : e.id.n = (cnt e.id.r a : Int) + 1
      · rw [if_neg (by simp [← h3])]
        by_cases h4 : e.links.all (fun x => a.any (isThe x)) = true
        · rw [if_pos h4]
          refine ⟨fun _ => ⟨h1, h2', h3, fun y hy => any_isThe.1 (List.all_eq_true.1 h4 y hy)⟩, fun _ => rfl⟩
        · rw [if_neg h4]
          refine ⟨fun h => by simp at h, fun h => absurd ?_ h4⟩
          exact List.all_eq_true.2 fun y hy => any_isThe.2 (h.links y hy)
      · rw [if_pos h3]
        exact ⟨fun h => by simp at h, fun h => absurd h.num h3⟩
  · rw [if_pos h1]
    exact ⟨fun h => absurd h h1, fun h => absurd h.err h1⟩
/-- A log of which Check has nothing to say. -/
structure Right (l : List Entry') : Prop where
  len : l.length ≤ 40
  at' : ∀ a e b, l = a ++ e :: b → Behind a e
theorem logLoop_iff : ∀ (t ahead : List Entry'), logLoop ahead t = 0 ↔ ∀ a e b, t = a ++ e :: b → Behind (ahead ++ a) e
  | [], ahead => ⟨fun _ a e b h => by simp at h, fun _ => rfl⟩
  | x :: t, ahead => by
    unfold logLoop
    by_cases h : behindErr ahead x = 0
    · rw [if_neg (by simp [h]), logLoop_iff t]
      refine ⟨fun k a e b hh => ?_, fun k a e b hh => ?_⟩
      · cases a with
        | nil =>
          simp only [List.nil_append, List.cons.injEq] at hh
          rw [← hh.1, List.append_nil]
          exact behindErr_iff.1 h
        | cons y a =>
          simp only [List.cons_append, List.cons.injEq] at hh
          obtain ⟨rfl, hh⟩ := hh
          have := k a e b hh
          rwa [List.append_assoc] at this
      · have := k (x :: a) e b (by rw [hh]; rfl)
        rwa [List.append_cons] at this
    · rw [if_pos h]
      refine ⟨fun k => absurd k h, fun k => ?_⟩
      have := k [] x t rfl
      rw [List.append_nil] at this
      exact behindErr_iff.2 this
theorem right_iff {l : List Entry'} : logErr l = 0 ↔ Right l := by
  unfold logErr
  by_cases h : 40 < l.length
  · rw [if_pos h]
    exact ⟨fun h => by simp at h, fun k => by have := k.len; omega⟩
  · rw [if_neg h, logLoop_iff]
    exact ⟨fun k => ⟨by omega, fun a e b hh => by simpa using k a e b hh⟩, fun k a e b hh => by simpa using k.at' a e b hh⟩
theorem Right.of_append {a b : List Entry'} (h : Right (a ++ b)) : Right a :=
  ⟨by have := h.len; simp at this; omega, fun c e d hh => h.at' c e (d ++ b) (by rw [hh]; simp)⟩
theorem Right.take {l : List Entry'} (h : Right l) (n : Nat) : Right (l.take n) := by
  refine Right.of_append (b := l.drop n) ?_
  rw [List.take_append_drop]; exact h
theorem Right.get {l : List Entry'} (h : Right l) {i : Nat} (hi : i < l.length) : Behind (l.take i) l[i] :=
  h.at' _ _ (l.drop (i + 1)) (by rw [← List.drop_eq_getElem_cons hi, List.take_append_drop])
theorem Right.mem {l : List Entry'} (h : Right l) {e : Entry'} (he : e ∈ l) : e.err = 0 := by
  obtain ⟨a, b, rfl⟩ := List.append_of_mem he
  exact (h.at' a e b rfl).err
theorem Right.regs {l : List Entry'} (h : Right l) : ∀ e ∈ l, e.id.r = 0 ∨ e.id.r = 1 := fun e he => r_of_ok (ok_of_err (h.mem he))
theorem Right.links {l : List Entry'} (h : Right l) {e : Entry'} (he : e ∈ l) {y : Id} (hy : y ∈ e.links) : ∃ x ∈ l, x.id = y := by
  obtain ⟨a, b, rfl⟩ := List.append_of_mem he
  obtain ⟨x, hx, h1⟩ := (h.at' a e b rfl).links y hy
  exact ⟨x, by simp [hx], h1⟩
theorem Right.inj {l : List Entry'} (h : Right l) {i j : Nat} (hi : i < l.length) (hj : j < l.length) (e : l[i].id = l[j].id) : i = j := by
  have key : ∀ i j (hi : i < l.length) (hj : j < l.length), i < j → l[i].id ≠ l[j].id := fun i j hi hj hij => by
    have := (h.get hj).new l[i] (by rw [List.mem_take_iff_getElem]; exact ⟨i, by omega, rfl⟩)
    exact this
  rcases Nat.lt_trichotomy i j with h1 | h1 | h1
  · exact absurd e (key i j hi hj h1)
  · exact h1
  · exact absurd e.symm (key j i hj hi h1)
theorem Right.ent {l : List Entry'} (h : Right l) {x y : Entry'} (hx : x ∈ l) (hy : y ∈ l) (e : x.id = y.id) : x = y := by
  obtain ⟨i, hi, rfl⟩ := List.getElem_of_mem hx
  obtain ⟨j, hj, rfl⟩ := List.getElem_of_mem hy
  obtain rfl := h.inj hi hj e
  rfl
theorem Right.ok {l : List Entry'} (h : Right l) {e : Entry'} (he : e ∈ l) : e.id.ok = true := ok_of_err (h.mem he)

/-- In the past of. -/
inductive Anc (l : List Entry') : Id → Id → Prop
  | link {e : Entry'} (he : e ∈ l) {y : Id} (hy : y ∈ e.links) : Anc l e.id y
  | step {e : Entry'} (he : e ∈ l) {z y : Id} (hz : z ∈ e.links) (h : Anc l z y) : Anc l e.id y
theorem Anc.trans {l : List Entry'} {x y z : Id} (h : Anc l x y) (k : Anc l y z) : Anc l x z := by
  induction h with
  | link he hy => exact .step he hy k
  | step he hz _ ih => exact .step he hz (ih k)
theorem Anc.mono {l l' : List Entry'} (hl : ∀ e ∈ l, e ∈ l') {x y : Id} (h : Anc l x y) : Anc l' x y := by
  induction h with
  | link he hy => exact .link (hl _ he) hy
  | step he hz _ ih => exact .step (hl _ he) hz ih
theorem Anc.left {l : List Entry'} {x y : Id} (h : Anc l x y) : ∃ e ∈ l, e.id = x := by
  cases h with
  | link he _ => exact ⟨_, he, rfl⟩
  | step he _ _ => exact ⟨_, he, rfl⟩
theorem Anc.right {l : List Entry'} (hr : Right l) {x y : Id} (h : Anc l x y) : ∃ e ∈ l, e.id = y := by
  induction h with
  | link he hy => exact hr.links he hy
  | step _ _ _ ih => exact ih
theorem Anc.inv {l : List Entry'} (hr : Right l) {e : Entry'} (he : e ∈ l) {y : Id} (h : Anc l e.id y) : y ∈ e.links ∨ ∃ z ∈ e.links, Anc l z y := by
  generalize hx : e.id = x at h
  cases h with
  | link he' hy =>
    obtain rfl := hr.ent he he' hx
    exact .inl hy
  | step he' hz h =>
    obtain rfl := hr.ent he he' hx
    exact .inr ⟨_, hz, h⟩
/-- What is past stands ahead. -/
theorem Anc.ahead {l : List Entry'} (hr : Right l) {x y : Id} (h : Anc l x y) : ∀ i (hi : i < l.length), l[i].id = x → ∃ j, ∃ hj : j < l.length, j < i ∧ l[j].id = y ∧ Anc (l.take (i + 1)) x y := by
  have one : ∀ {e : Entry'} (he : e ∈ l) {y : Id} (hy : y ∈ e.links) i (hi : i < l.length), l[i].id = e.id → l[i] = e ∧ ∃ j, ∃ hj : j < l.length, j < i ∧ l[j].id = y := fun {e} he {y} hy i hi hx => by
    have hie : l[i] = e := hr.ent (List.getElem_mem hi) he hx
    subst hie
    obtain ⟨x, hx1, hx2⟩ := (hr.get hi).links y hy
    rw [List.mem_take_iff_getElem] at hx1
    obtain ⟨j, hj, rfl⟩ := hx1
    exact ⟨rfl, j, by omega, by omega, hx2⟩
  induction h with
  | link he hy =>
    intro i hi hx
    obtain ⟨h1, j, hj, h2, h3⟩ := one he hy i hi hx
    refine ⟨j, hj, h2, h3, ?_⟩
    subst h1
    exact .link (List.mem_take_iff_getElem.2 ⟨i, by omega, rfl⟩) hy
  | step he hz _ ih =>
    intro i hi hx
    obtain ⟨h1, j, hj, h2, h3⟩ := one he hz i hi hx
    obtain ⟨k, hk, k1, k2, k3⟩ := ih j hj h3
    refine ⟨k, hk, by omega, k2, ?_⟩
    subst h1
    exact .step (List.mem_take_iff_getElem.2 ⟨i, by omega, rfl⟩) hz (k3.mono fun e he => (List.take_subset_take_left l (by omega)) he)
theorem Anc.irrefl {l : List Entry'} (hr : Right l) {x : Id} (h : Anc l x x) : False := by
  obtain ⟨e, he, rfl⟩ := h.left
  obtain ⟨i, hi, rfl⟩ := List.getElem_of_mem he
  obtain ⟨j, hj, h1, h2, _⟩ := h.ahead hr i hi rfl
  have := hr.inj hj hi h2
  omega

/-- Ids, each once. -/
def joinIds (ids more : List Id) : List Id := more.foldl (fun acc x => if acc.any (isId2 x) then acc else acc ++ [x]) ids
theorem mem_joinIds : ∀ {more ids : List Id} {y : Id}, y ∈ joinIds ids more ↔ y ∈ ids ∨ y ∈ more
  | [], ids, y => by simp [joinIds]
  | x :: t, ids, y => by
    show y ∈ joinIds (if ids.any (isId2 x) then ids else ids ++ [x]) t ↔ _
    rw [mem_joinIds]
    by_cases h : ids.any (isId2 x) = true
    · rw [if_pos h]
      have := any_isId2.1 h
      simp only [List.mem_cons]
      exact ⟨fun k => k.elim .inl (fun k => .inr (.inr k)), fun k => k.elim .inl (fun k => k.elim (fun k => .inl (k ▸ this)) .inr)⟩
    · rw [if_neg h]
      simp only [List.mem_append, List.mem_cons, List.not_mem_nil, or_false, or_assoc]
theorem nodup_joinIds : ∀ {more ids : List Id}, ids.Nodup → (joinIds ids more).Nodup
  | [], ids, h => h
  | x :: t, ids, h => by
    show (joinIds (if ids.any (isId2 x) then ids else ids ++ [x]) t).Nodup
    refine nodup_joinIds ?_
    by_cases k : ids.any (isId2 x) = true
    · rw [if_pos k]; exact h
    · rw [if_neg k]
      rw [List.nodup_append]
      exact ⟨h, by simp, fun a ha b hb e => k (any_isId2.2 (by simp at hb; rw [← hb, ← e]; exact ha))⟩
/-- What the program gathers, from the end on. -/
def pastFold (p : Entry' → Bool) : List Entry' → List Id
  | [] => []
  | e :: t => if p e || (pastFold p t).any (isId2 e.id) then joinIds (pastFold p t) e.links else pastFold p t
theorem nodup_pastFold (p : Entry' → Bool) : ∀ l, (pastFold p l).Nodup
  | [] => List.nodup_nil
  | e :: t => by
    unfold pastFold
    split
    · exact nodup_joinIds (nodup_pastFold p t)
    · exact nodup_pastFold p t
theorem pastFold_more (p : Entry' → Bool) (b : List Entry') {y : Id} (h : y ∈ pastFold p b) : ∀ a, y ∈ pastFold p (a ++ b)
  | [] => h
  | e :: t => by
    rw [List.cons_append]
    unfold pastFold
    split
    · exact mem_joinIds.2 (.inl (pastFold_more p b h t))
    · exact pastFold_more p b h t
theorem pastFold_sound (p : Entry' → Bool) (l : List Entry') : ∀ (s : List Entry'), (∀ e ∈ s, e ∈ l) → ∀ y ∈ pastFold p s, ∃ e ∈ s, p e = true ∧ Anc l e.id y
  | [], _, y, h => by simp [pastFold] at h
  | e :: t, hs, y, h => by
    have ih := pastFold_sound p l t fun x hx => hs x (by simp [hx])
    have up : ∀ {y}, y ∈ pastFold p t → ∃ x ∈ e :: t, p x = true ∧ Anc l x.id y := fun h => by
      obtain ⟨x, h1, h2, h3⟩ := ih _ h
      exact ⟨x, by simp [h1], h2, h3⟩
    unfold pastFold at h
    split at h
    · rename_i hc
      rcases mem_joinIds.1 h with h | h
      · exact up h
      · simp only [Bool.or_eq_true] at hc
        rcases hc with hc | hc
        · exact ⟨e, by simp, hc, .link (hs e (by simp)) h⟩
        · obtain ⟨x, h1, h2, h3⟩ := up (any_isId2.1 hc)
          exact ⟨x, h1, h2, h3.trans (.link (hs e (by simp)) h)⟩
    · exact up h
theorem pastFold_full (p : Entry' → Bool) {l : List Entry'} (hr : Right l) {x y : Id} (h : Anc l x y) : ∀ a e b, l = a ++ e :: b → e.id = x → (p e = true ∨ e.id ∈ pastFold p b) → y ∈ pastFold p l := by
  have head : ∀ e b z, (p e = true ∨ e.id ∈ pastFold p b) → z ∈ e.links → z ∈ pastFold p (e :: b) := fun e b z hc hz => by
    unfold pastFold
    rw [if_pos (by simp only [Bool.or_eq_true]; exact hc.imp id any_isId2.2)]
    exact mem_joinIds.2 (.inr hz)
  induction h with
  | link he hy =>
    intro a e b hl hx hc
    have hel : e ∈ l := by rw [hl]; simp
    obtain rfl := hr.ent hel he hx
    rw [hl]
    exact pastFold_more p _ (head _ b _ hc hy) a
  | step he hz _ ih =>
    intro a e b hl hx hc
    have hel : e ∈ l := by rw [hl]; simp
    obtain rfl := hr.ent hel he hx
    obtain ⟨e', he', hid⟩ := (hr.at' a _ b hl).links _ hz
    obtain ⟨a1, a2, rfl⟩ := List.append_of_mem he'
    refine ih a1 e' (a2 ++ e :: b) (by rw [hl]; simp) hid (.inr ?_)
    rw [hid]
    exact pastFold_more p _ (head _ b _ hc hz) a2
theorem mem_pastFold (p : Entry' → Bool) {l : List Entry'} (hr : Right l) {y : Id} : y ∈ pastFold p l ↔ ∃ e ∈ l, p e = true ∧ Anc l e.id y := by
  refine ⟨pastFold_sound p l l (fun _ h => h) y, fun ⟨e, he, hp, h⟩ => ?_⟩
  obtain ⟨a, b, hl⟩ := List.append_of_mem he
  exact pastFold_full p hr h a e b hl rfl (.inl hp)
theorem mem_pastThe {l : List Entry'} (hr : Right l) {x y : Id} : y ∈ pastFold (isThe x) l ↔ Anc l x y := by
  rw [mem_pastFold _ hr]
  refine ⟨fun ⟨e, _, h1, h2⟩ => by rw [← isThe_iff.1 h1]; exact h2, fun h => ?_⟩
  obtain ⟨e, he, rfl⟩ := h.left
  exact ⟨e, he, isThe_iff.2 rfl, h⟩

/-- Rising. -/
def lessLe (x y : Id) : Bool := !(y.less x)
theorem less_iff {x y : Id} : x.less y = true ↔ x.r < y.r ∨ (x.r = y.r ∧ x.n < y.n) := by
  unfold Id.less
  split
  · rename_i h; simp [h]
  · rename_i h; simp [h]
theorem less_irrefl (x : Id) : x.less x = false := by simp [Id.less]
theorem less_trans {x y z : Id} (h : x.less y = true) (k : y.less z = true) : x.less z = true := by
  rw [less_iff] at *; omega
theorem less_total {x y : Id} (h : x.less y = false) (k : y.less x = false) : x = y := by
  have h1 : ¬ x.less y = true := by simp [h]
  have h2 : ¬ y.less x = true := by simp [k]
  rw [less_iff] at h1 h2
  exact Id.ext' (by omega) (by omega)
theorem less_asymm {x y : Id} (h : x.less y = true) : y.less x = false := by
  rw [Bool.eq_false_iff]
  intro k
  rw [less_iff] at *; omega
theorem sorted_ext : ∀ {a b : List Id}, a.Pairwise (fun x y => x.less y = true) → b.Pairwise (fun x y => x.less y = true) → (∀ x, x ∈ a ↔ x ∈ b) → a = b
  | [], [], _, _, _ => rfl
  | [], y :: u, _, _, h => by have := (h y).2 (by simp); simp at this
  | x :: t, [], _, _, h => by have := (h x).1 (by simp); simp at this
  | x :: t, y :: u, ha, hb, h => by
    rw [List.pairwise_cons] at ha hb
    have hxy : x = y := by
      have h1 := (h x).1 (by simp)
      have h2 := (h y).2 (by simp)
      rcases List.mem_cons.1 h1 with h1 | h1
      · exact h1
      · rcases List.mem_cons.1 h2 with h2 | h2
        · exact h2.symm
        · have k1 := hb.1 x h1
          have k2 := ha.1 y h2
          rw [less_asymm k1] at k2
          cases k2
    subst hxy
    rw [sorted_ext ha.2 hb.2 fun z => ?_]
    refine ⟨fun hz => ?_, fun hz => ?_⟩
    · rcases List.mem_cons.1 ((h z).1 (by simp [hz])) with k | k
      · subst k; have := ha.1 z hz; rw [less_irrefl] at this; cases this
      · exact k
    · rcases List.mem_cons.1 ((h z).2 (by simp [hz])) with k | k
      · subst k; have := hb.1 z hz; rw [less_irrefl] at this; cases this
      · exact k
def insId (x : Id) : List Id → List Id
  | [] => [x]
  | y :: t => if y.less x = true then y :: insId x t else x :: y :: t
def sortIds (l : List Id) : List Id := l.foldr insId []
theorem insId_perm (x : Id) : ∀ l, List.Perm (insId x l) (x :: l)
  | [] => .refl _
  | y :: t => by
    unfold insId
    split
    · exact ((insId_perm x t).cons y).trans (List.Perm.swap x y t)
    · exact .refl _
theorem sortIds_perm : ∀ l, List.Perm (sortIds l) l
  | [] => .refl _
  | x :: t => (insId_perm x (sortIds t)).trans ((sortIds_perm t).cons x)
theorem lessLe_iff {x y : Id} : lessLe x y = true ↔ ¬ y.less x = true := by simp [lessLe]
theorem insId_sorted (x : Id) : ∀ l : List Id, l.Pairwise (fun x y => lessLe x y = true) → (insId x l).Pairwise (fun x y => lessLe x y = true)
  | [], _ => by simp [insId]
  | y :: t, h => by
    rw [List.pairwise_cons] at h
    unfold insId
    split
    · rename_i hyx
      rw [List.pairwise_cons]
      refine ⟨fun z hz => ?_, insId_sorted x t h.2⟩
      rcases List.mem_cons.1 ((insId_perm x t).mem_iff.1 hz) with rfl | hz
      · rw [lessLe_iff, less_asymm hyx]; simp
      · exact h.1 z hz
    · rename_i hyx
      rw [List.pairwise_cons]
      refine ⟨fun z hz => ?_, List.pairwise_cons.2 h⟩
      rcases List.mem_cons.1 hz with rfl | hz
      · exact lessLe_iff.2 hyx
      · have := h.1 z hz
        rw [lessLe_iff, less_iff] at *
        omega
theorem sortIds_pairwise : ∀ l, (sortIds l).Pairwise (fun x y => lessLe x y = true)
  | [] => .nil
  | x :: t => insId_sorted x _ (sortIds_pairwise t)
theorem mergeSort_eq (l : List Id) : l.mergeSort lessLe = sortIds l := by
  refine List.Perm.eq_of_pairwise (le := fun x y => lessLe x y = true) (fun a b _ _ h1 h2 => ?_) (List.pairwise_mergeSort (fun a b c h k => ?_) (fun a b => ?_) l) (sortIds_pairwise l) ((List.mergeSort_perm l lessLe).trans (sortIds_perm l).symm)
  · rw [lessLe_iff, Bool.not_eq_true] at *
    exact less_total h2 h1
  · rw [lessLe_iff, less_iff] at *
    omega
  · rw [Bool.or_eq_true, lessLe_iff, lessLe_iff, less_iff, less_iff]
    omega
theorem mem_sortIds {l : List Id} {x : Id} : x ∈ sortIds l ↔ x ∈ l := (sortIds_perm l).mem_iff
theorem sortIds_sorted {l : List Id} (hn : l.Nodup) : (sortIds l).Pairwise (fun x y => x.less y = true) := by
  refine ((sortIds_pairwise l).and ((sortIds_perm l).nodup_iff.2 hn)).imp fun {x y} ⟨k1, k2⟩ => ?_
  cases h : x.less y
  · rw [lessLe_iff, Bool.not_eq_true] at k1
    exact absurd (less_total h k1) k2
  · rfl
theorem sortIds_len (l : List Id) : (sortIds l).length = l.length := (sortIds_perm l).length_eq
end Go.Proofs.YtlioojekjnigiaeGreat.AM
/- Plain: pasts and heads as the document reckons them, and as the program does. -/
namespace Go.Proofs.YtlioojekjnigiaeGreat.AM
set_option linter.unusedVariables false
set_option linter.unusedSimpArgs false

def idx (l : List Entry') (x : Id) : Option Nat := isIdx (isThe x) l 0
theorem isIdx_some {α : Type} {p : α → Bool} : ∀ {l : List α} {i j : Nat}, isIdx p l i = some j → ∃ k, j = i + k ∧ ∃ h : k < l.length, p l[k] = true
  | [], i, j, h => by simp [isIdx] at h
  | a :: t, i, j, h => by
    unfold isIdx at h
    split at h
    · rename_i hp
      obtain rfl : i = j := by simpa using h
      exact ⟨0, rfl, by simp, hp⟩
    · obtain ⟨k, h1, h2, h3⟩ := isIdx_some h
      exact ⟨k + 1, by omega, by simp; omega, by simpa using h3⟩
theorem isIdx_none {α : Type} {p : α → Bool} : ∀ {l : List α} {i : Nat}, isIdx p l i = none ↔ ∀ a ∈ l, p a = false
  | [], i => by simp [isIdx]
  | a :: t, i => by
    unfold isIdx
    by_cases h : p a = true
    · simp [h]
    · simp [h, isIdx_none (l := t)]
theorem idx_some {l : List Entry'} {x : Id} {j : Nat} (h : idx l x = some j) : ∃ hj : j < l.length, l[j].id = x := by
  obtain ⟨k, h1, h2, h3⟩ := isIdx_some h
  rw [Nat.zero_add] at h1
  subst h1
  exact ⟨h2, isThe_iff.1 h3⟩
theorem idx_none {l : List Entry'} {x : Id} : idx l x = none ↔ ∀ e ∈ l, e.id ≠ x := by
  unfold idx
  rw [isIdx_none]
  exact ⟨fun h e he hx => (by have := h e he; rw [isThe_iff.2 hx] at this; cases this), fun h e he => by rw [Bool.eq_false_iff]; exact fun k => h e he (isThe_iff.1 k)⟩
theorem idx_of {l : List Entry'} (hr : Right l) {j : Nat} (hj : j < l.length) : idx l l[j].id = some j := by
  cases h : idx l l[j].id with
  | none => exact absurd rfl (idx_none.1 h _ (List.getElem_mem hj))
  | some k =>
    obtain ⟨hk, h1⟩ := idx_some h
    rw [hr.inj hk hj h1]
theorem entryAt_eq (l : List Entry') (x : Id) : entryAt l x = idxOf (idx l x) := rfl
theorem idxOf_nonneg {o : Option Nat} : 0 ≤ idxOf o ↔ o.isSome = true := by cases o <;> simp [idxOf]

def tick (l : List Entry') (bs : List Bool) (y : Id) : List Bool := match idx l y with
  | some j => bs.set j true
  | none => bs
def setLinks (l : List Entry') (bs : List Bool) (ys : List Id) : List Bool := ys.foldl (tick l) bs
/-- A place that is told. -/
def isIn (bs : List Bool) (j : Nat) : Bool := bs[j]?.getD false
theorem isIn_set {bs : List Bool} {j k : Nat} (hj : j < bs.length) : isIn (bs.set j true) k = true ↔ k = j ∨ isIn bs k = true := by
  unfold isIn
  by_cases h : j = k
  · subst h; simp [hj]
  · rw [List.getElem?_set_ne h]
    exact ⟨.inr, fun k => k.elim (fun e => absurd e.symm h) id⟩
theorem setLinks_length (l : List Entry') : ∀ (ys : List Id) (bs : List Bool), (setLinks l bs ys).length = bs.length
  | [], bs => rfl
  | y :: t, bs => by
    show (setLinks l (tick l bs y) t).length = _
    rw [setLinks_length l t]
    unfold tick
    split <;> simp
theorem isIn_setLinks (l : List Entry') : ∀ (ys : List Id) (bs : List Bool) (k : Nat), bs.length = l.length → (isIn (setLinks l bs ys) k = true ↔ isIn bs k = true ∨ ∃ y ∈ ys, idx l y = some k)
  | [], bs, k, _ => by simp [setLinks]
  | y :: t, bs, k, hb => by
    show isIn (setLinks l (tick l bs y) t) k = true ↔ _
    have hl : (tick l bs y).length = l.length := by unfold tick; split <;> simp [hb]
    rw [isIn_setLinks l t _ k hl]
    unfold tick
    cases h : idx l y with
    | none => simp [h]
    | some j =>
      obtain ⟨hj, _⟩ := idx_some h
      rw [isIn_set (by omega)]
      simp only [List.mem_cons, exists_eq_or_imp, h, Option.some.injEq]
      exact ⟨fun k => k.elim (fun k => k.elim (fun e => .inr (.inl e.symm)) .inl) (fun k => .inr (.inr k)), fun k => k.elim (fun k => .inl (.inr k)) (fun k => k.elim (fun e => .inl (.inl e.symm)) .inr)⟩
def pastB (l : List Entry') (at' : Nat) : Nat → List Bool
  | 0 => List.replicate l.length false
  | k + 1 => match l[at' - k]? with
    | none => pastB l at' k
    | some e => if (decide (at' - k = at') || isIn (pastB l at' k) (at' - k)) = true then setLinks l (pastB l at' k) e.links else pastB l at' k
def pastBs (l : List Entry') (at' : Nat) : List Bool := pastB l at' (at' + 1)
theorem pastB_length (l : List Entry') (at' : Nat) : ∀ k, (pastB l at' k).length = l.length
  | 0 => by simp [pastB]
  | k + 1 => by
    unfold pastB
    split
    · exact pastB_length l at' k
    · split
      · rw [setLinks_length]; exact pastB_length l at' k
      · exact pastB_length l at' k
theorem pastB_more {l : List Entry'} {at' j : Nat} : ∀ {k m : Nat}, k ≤ m → isIn (pastB l at' k) j = true → isIn (pastB l at' m) j = true
  | k, 0, h, hj => by obtain rfl : k = 0 := by omega
                      exact hj
  | k, m + 1, h, hj => by
    by_cases hk : k = m + 1
    · subst hk; exact hj
    · have ih := pastB_more (m := m) (by omega) hj
      unfold pastB
      split
      · exact ih
      · split
        · exact (isIn_setLinks l _ _ j (pastB_length l at' m)).2 (.inl ih)
        · exact ih
theorem pastB_sound {l : List Entry'} (hr : Right l) {at' : Nat} (hat : at' < l.length) : ∀ (k j : Nat) (hj : j < l.length), k ≤ at' + 1 → isIn (pastB l at' k) j = true → Anc l l[at'].id l[j].id
  | 0, j, hj, _, h => by simp [pastB, isIn, hj] at h
  | k + 1, j, hj, hk, h => by
    unfold pastB at h
    rw [List.getElem?_eq_getElem (by omega)] at h
    simp only at h
    split at h
    · rename_i hc
      rcases (isIn_setLinks l _ _ j (pastB_length l at' k)).1 h with h | ⟨y, hy, h⟩
      · exact pastB_sound hr hat k j hj (by omega) h
      · obtain ⟨_, rfl⟩ := idx_some h
        simp only [Bool.or_eq_true, decide_eq_true_eq] at hc
        rcases hc with hc | hc
        · refine .link (List.getElem_mem hat) ?_
          simpa only [hc] using hy
        · exact (pastB_sound hr hat k (at' - k) (by omega) (by omega) hc).trans (.link (List.getElem_mem _) hy)
    · exact pastB_sound hr hat k j hj (by omega) h
theorem pastB_full {l : List Entry'} (hr : Right l) {at' : Nat} (hat : at' < l.length) {x y : Id} (h : Anc l x y) : ∀ i (hi : i < l.length), i ≤ at' → l[i].id = x → (i = at' ∨ isIn (pastB l at' (at' - i)) i = true) → ∀ j (hj : j < l.length), l[j].id = y → isIn (pastBs l at') j = true := by
  have one : ∀ {e : Entry'} (he : e ∈ l) {z : Id} (hz : z ∈ e.links) i (hi : i < l.length), i ≤ at' → l[i].id = e.id → (i = at' ∨ isIn (pastB l at' (at' - i)) i = true) → ∀ j (hj : j < l.length), l[j].id = z → isIn (pastB l at' (at' - i + 1)) j = true ∧ j < i := fun {e} he {z} hz i hi hia hx hc j hj hz' => by
    have hie : l[i] = e := hr.ent (List.getElem_mem hi) he hx
    subst hie
    refine ⟨?_, ?_⟩
    · unfold pastB
      rw [show at' - (at' - i) = i by omega, List.getElem?_eq_getElem hi]
      simp only
      rw [if_pos (by simp only [Bool.or_eq_true, decide_eq_true_eq]; exact hc)]
      refine (isIn_setLinks l _ _ j (pastB_length l at' _)).2 (.inr ⟨z, hz, ?_⟩)
      rw [← hz']; exact idx_of hr hj
    · obtain ⟨w, hw, hwz⟩ := (hr.get hi).links z hz
      rw [List.mem_take_iff_getElem] at hw
      obtain ⟨k, hk, rfl⟩ := hw
      have := hr.inj (by omega) hj (hwz.trans hz'.symm)
      omega
  induction h with
  | link he hy =>
    intro i hi hia hx hc j hj hy'
    exact pastB_more (by omega) (one he hy i hi hia hx hc j hj hy').1
  | step he hz _ ih =>
    intro i hi hia hx hc j hj hy'
    obtain ⟨e', he', hid⟩ := hr.links he hz
    obtain ⟨k, hk, rfl⟩ := List.getElem_of_mem he'
    obtain ⟨h1, h2⟩ := one he hz i hi hia hx hc k hk hid
    exact ih k hk (by omega) hid (.inr (pastB_more (by omega) h1)) j hj hy'
theorem pastBs_iff {l : List Entry'} (hr : Right l) {at' j : Nat} (hat : at' < l.length) (hj : j < l.length) : isIn (pastBs l at') j = true ↔ Anc l l[at'].id l[j].id :=
  ⟨pastB_sound hr hat _ j hj (Nat.le_refl _), fun h => pastB_full hr hat h at' hat (Nat.le_refl _) rfl (.inl rfl) j hj rfl⟩

def allIds : List Id := (List.range 20).map (fun i => ⟨0, ((i + 1 : Nat) : Int)⟩) ++ (List.range 20).map (fun i => ⟨1, ((i + 1 : Nat) : Int)⟩)
theorem allIds_length : allIds.length = 40 := by simp [allIds]
theorem mem_allIds {x : Id} : x ∈ allIds ↔ x.ok = true := by
  unfold allIds Id.ok
  simp only [List.mem_append, List.mem_map, List.mem_range, Bool.and_eq_true, decide_eq_true_eq]
  refine ⟨fun h => ?_, fun h => ?_⟩
  · rcases h with ⟨i, hi, rfl⟩ | ⟨i, hi, rfl⟩ <;> simp <;> omega
  · obtain ⟨⟨h1, h2⟩, h3, h4⟩ := h
    by_cases h0 : x.r = 0
    · exact .inl ⟨(x.n - 1).toNat, by omega, Id.ext' h0.symm (by simp only; omega)⟩
    · exact .inr ⟨(x.n - 1).toNat, by omega, Id.ext' (by simp only; omega) (by simp only; omega)⟩
theorem allIds_get {r k : Nat} (hr : r < 2) (hk : k < 20) : allIds[20 * r + k]? = some ⟨r, ((k + 1 : Nat) : Int)⟩ := by
  unfold allIds
  rcases (by omega : r = 0 ∨ r = 1) with rfl | rfl
  · rw [List.getElem?_append_left (by simp; omega)]
    simp [hk]
  · rw [List.getElem?_append_right (by simp)]
    simp [hk]
theorem allIds_sorted : allIds.Pairwise (fun x y => x.less y = true) := by
  unfold allIds
  rw [List.pairwise_append]
  refine ⟨?_, ?_, ?_⟩
  · rw [List.pairwise_map]
    refine List.pairwise_lt_range.imp fun {a b} h => ?_
    rw [less_iff]; simp; omega
  · rw [List.pairwise_map]
    refine List.pairwise_lt_range.imp fun {a b} h => ?_
    rw [less_iff]; simp; omega
  · intro x hx y hy
    simp only [List.mem_map, List.mem_range] at hx hy
    obtain ⟨i, _, rfl⟩ := hx
    obtain ⟨j, _, rfl⟩ := hy
    rw [less_iff]; simp
def inAt (l : List Entry') (bs : List Bool) (x : Id) : Bool := match idx l x with
  | some i => isIn bs i
  | none => false
def rising (l : List Entry') (bs : List Bool) : List Id := allIds.filter (inAt l bs)
theorem rising_sorted (l : List Entry') (bs : List Bool) : (rising l bs).Pairwise (fun x y => x.less y = true) := allIds_sorted.filter _
theorem mem_rising {l : List Entry'} (hr : Right l) {bs : List Bool} {x : Id} : x ∈ rising l bs ↔ ∃ j, ∃ hj : j < l.length, l[j].id = x ∧ isIn bs j = true := by
  unfold rising
  rw [List.mem_filter, mem_allIds]
  unfold inAt
  refine ⟨fun ⟨_, h⟩ => ?_, fun ⟨j, hj, h1, h2⟩ => ?_⟩
  · split at h
    · rename_i j hj
      obtain ⟨h1, h2⟩ := idx_some hj
      exact ⟨j, h1, h2, h⟩
    · cases h
  · subst h1
    refine ⟨hr.ok (List.getElem_mem hj), ?_⟩
    rw [idx_of hr hj]
    exact h2
theorem rising_eq {l : List Entry'} (hr : Right l) {bs : List Bool} {ids : List Id} (hn : ids.Nodup) (h : ∀ x, (∃ j, ∃ hj : j < l.length, l[j].id = x ∧ isIn bs j = true) ↔ x ∈ ids) : rising l bs = sortIds ids :=
  sorted_ext (rising_sorted l bs) (sortIds_sorted hn) fun x => by rw [mem_rising hr, mem_sortIds, h]
/-- The past of an entry, rising. -/
def pastOfId (l : List Entry') (x : Id) : List Id := sortIds (pastFold (isThe x) l)
theorem mem_pastOfId {l : List Entry'} (hr : Right l) {x y : Id} : y ∈ pastOfId l x ↔ Anc l x y := by
  unfold pastOfId
  rw [mem_sortIds, mem_pastThe hr]
theorem pastOfId_sorted (l : List Entry') (x : Id) : (pastOfId l x).Pairwise (fun x y => x.less y = true) := sortIds_sorted (nodup_pastFold _ _)
theorem rising_past {l : List Entry'} (hr : Right l) {i : Nat} (hi : i < l.length) : rising l (pastBs l i) = pastOfId l l[i].id :=
  rising_eq hr (nodup_pastFold _ _) fun x => by
    rw [mem_pastThe hr]
    refine ⟨fun ⟨j, hj, h1, h2⟩ => by subst h1; exact (pastBs_iff hr hi hj).1 h2, fun h => ?_⟩
    obtain ⟨e, he, rfl⟩ := h.right hr
    obtain ⟨j, hj, rfl⟩ := List.getElem_of_mem he
    exact ⟨j, hj, rfl, (pastBs_iff hr hi hj).2 h⟩

/-- Colors: have they one in common? As the document says it, and as the program reckons it. -/
def isOf (c : Int) (i : Nat) : Bool := (IntKind.i64.wrap (c.tdiv (2 ^ i))).tmod 2 == 1
def meets (a b : Int) : Bool := (isOf a 0 && isOf b 0) || ((isOf a 1 && isOf b 1) || (isOf a 2 && isOf b 2))
def bothOf (a b : Int) : Bool := IntKind.i64.wrap (BitVec.ofInt 64 a &&& BitVec.ofInt 64 b).toNat != 0
theorem meets_bothOf {a b : Int} (ha : 1 ≤ a ∧ a ≤ 7) (hb : 1 ≤ b ∧ b ≤ 7) : bothOf a b = meets a b := by
  have key : ∀ m < 8, ∀ n < 8, bothOf (m : Nat) (n : Nat) = meets (m : Nat) (n : Nat) := by decide
  have := key a.toNat (by omega) b.toNat (by omega)
  rwa [Int.toNat_of_nonneg (by omega), Int.toNat_of_nonneg (by omega)] at this
theorem Right.colors {l : List Entry'} (hr : Right l) {e : Entry'} (he : e ∈ l) : 1 ≤ e.colors ∧ e.colors ≤ 7 := by
  have := hr.mem he
  unfold Entry'.err at this
  split at this
  · simp at this
  · rename_i h
    simp only [not_or, Int.not_lt] at h
    exact h.2
theorem six_of {e : Entry'} (h : e.err = 0) : e.text.size ≤ 12 ∧ e.links.length ≤ 6 := by
  unfold Entry'.err at h
  split at h
  · simp at h
  · split at h
    · simp at h
    · rename_i h2
      simp only [not_or, Nat.not_lt] at h2
      exact h2
theorem Right.six {l : List Entry'} (hr : Right l) {e : Entry'} (he : e ∈ l) : e.links.length ≤ 6 := (six_of (hr.mem he)).2
theorem Right.logOk {l : List Entry'} (hr : Right l) : LogOk l := ⟨by have := hr.len; omega, fun e he => by have := hr.six he; omega⟩
/-- Heads, as the document reckons them. -/
def headB (l : List Entry') (c : Int) : Nat → List Bool
  | 0 => l.map fun e => meets e.colors c
  | k + 1 => match l[k]? with
    | none => headB l c k
    | some e => if meets e.colors c = true then List.zipWith (fun a b => a && !b) (headB l c k) (pastBs l k) else headB l c k
theorem headB_length (l : List Entry') (c : Int) : ∀ k, (headB l c k).length = l.length
  | 0 => by simp [headB]
  | k + 1 => by
    unfold headB
    split
    · exact headB_length l c k
    · split
      · simp [headB_length l c k, pastBs, pastB_length]
      · exact headB_length l c k
theorem isIn_headB (l : List Entry') (c : Int) (j : Nat) (hj : j < l.length) : ∀ k, k ≤ l.length → (isIn (headB l c k) j = true ↔ meets l[j].colors c = true ∧ ∀ i (hi : i < l.length), i < k → meets l[i].colors c = true → isIn (pastBs l i) j = false)
  | 0, _ => by
    simp [headB, isIn, hj]
  | k + 1, hk => by
    have ih := isIn_headB l c j hj k (by omega)
    have hkl : k < l.length := by omega
    unfold headB
    rw [List.getElem?_eq_getElem hkl]
    simp only
    split
    · rename_i hc
      have h1 : j < (headB l c k).length := by rw [headB_length]; exact hj
      have h2 : j < (pastBs l k).length := by rw [pastBs, pastB_length]; exact hj
      have : isIn (List.zipWith (fun a b => a && !b) (headB l c k) (pastBs l k)) j = (isIn (headB l c k) j && !isIn (pastBs l k) j) := by
        simp only [isIn]
        rw [List.getElem?_zipWith, List.getElem?_eq_getElem h1, List.getElem?_eq_getElem h2]
        rfl
      rw [this, Bool.and_eq_true, ih]
      refine ⟨fun ⟨⟨a, b⟩, d⟩ => ⟨a, fun i hi hik hm => ?_⟩, fun ⟨a, b⟩ => ⟨⟨a, fun i hi hik hm => b i hi (by omega) hm⟩, by simpa using b k hkl (by omega) hc⟩⟩
      by_cases h : i = k
      · subst h; simpa using d
      · exact b i hi (by omega) hm
    · rename_i hc
      rw [ih]
      refine ⟨fun ⟨a, b⟩ => ⟨a, fun i hi hik hm => ?_⟩, fun ⟨a, b⟩ => ⟨a, fun i hi hik hm => b i hi (by omega) hm⟩⟩
      by_cases h : i = k
      · subst h; exact absurd hm hc
      · exact b i hi (by omega) hm
/-- Heads, as the program reckons them. -/
def headIds (p : Entry' → Bool) (l : List Entry') : List Id := (l.filter fun e => p e && !(pastFold p l).any (isId2 e.id)).map (·.id)
def headsOf (c : Int) (l : List Entry') : List Id := sortIds (headIds (fun e => bothOf e.colors c) l)
theorem nodup_ids {l : List Entry'} (hr : Right l) : (l.map (·.id)).Nodup := by
  unfold List.Nodup
  rw [List.pairwise_iff_getElem]
  intro i j hi hj hij h
  simp only [List.getElem_map] at h
  have := hr.inj (by simpa using hi) (by simpa using hj) h
  omega
theorem nodup_headIds (p : Entry' → Bool) {l : List Entry'} (hr : Right l) : (headIds p l).Nodup :=
  (nodup_ids hr).sublist (List.filter_sublist.map _)
theorem mem_headIds (p : Entry' → Bool) {l : List Entry'} (hr : Right l) {x : Id} : x ∈ headIds p l ↔ ∃ e ∈ l, e.id = x ∧ p e = true ∧ ∀ f ∈ l, p f = true → ¬ Anc l f.id x := by
  unfold headIds
  simp only [List.mem_map, List.mem_filter, Bool.and_eq_true, Bool.not_eq_true']
  refine ⟨fun ⟨e, ⟨h1, h2, h3⟩, h4⟩ => ⟨e, h1, h4, h2, fun f hf hp ha => ?_⟩, fun ⟨e, h1, h2, h3, h4⟩ => ⟨e, ⟨h1, h3, ?_⟩, h2⟩⟩
  · subst h4
    have := any_isId2.2 ((mem_pastFold p hr).2 ⟨f, hf, hp, ha⟩)
    rw [h3] at this; cases this
  · rw [Bool.eq_false_iff]
    intro k
    obtain ⟨f, hf, hp, ha⟩ := (mem_pastFold p hr).1 (any_isId2.1 k)
    rw [h2] at ha
    exact h4 f hf hp ha
theorem rising_heads {l : List Entry'} (hr : Right l) {c : Int} (hc : 1 ≤ c ∧ c ≤ 7) : rising l (headB l c l.length) = headsOf c l :=
  rising_eq hr (nodup_headIds _ hr) fun x => by
    rw [mem_headIds _ hr]
    refine ⟨fun ⟨j, hj, h1, h2⟩ => ?_, fun ⟨e, he, h1, h2, h3⟩ => ?_⟩
    · subst h1
      obtain ⟨k1, k2⟩ := (isIn_headB l c j hj _ (Nat.le_refl _)).1 h2
      refine ⟨l[j], List.getElem_mem hj, rfl, by rw [meets_bothOf (hr.colors (List.getElem_mem hj)) hc]; exact k1, fun f hf hp ha => ?_⟩
      obtain ⟨i, hi, rfl⟩ := List.getElem_of_mem hf
      rw [meets_bothOf (hr.colors hf) hc] at hp
      have := k2 i hi hi hp
      rw [(pastBs_iff hr hi hj).2 ha] at this
      cases this
    · subst h1
      obtain ⟨j, hj, rfl⟩ := List.getElem_of_mem he
      refine ⟨j, hj, rfl, (isIn_headB l c j hj _ (Nat.le_refl _)).2 ⟨by rw [← meets_bothOf (hr.colors he) hc]; exact h2, fun i hi _ hm => ?_⟩⟩
      rw [Bool.eq_false_iff]
      intro k
      exact h3 _ (List.getElem_mem hi) (by rw [meets_bothOf (hr.colors (List.getElem_mem hi)) hc]; exact hm) ((pastBs_iff hr hi hj).1 k)
end Go.Proofs.YtlioojekjnigiaeGreat.AM
/- Plain: orders. -/
namespace Go.Proofs.YtlioojekjnigiaeGreat.AM
set_option linter.unusedVariables false
set_option linter.unusedSimpArgs false

theorem hasId_append {a b : List Id} {x : Id} : hasId (a ++ b) x = (hasId a x || hasId b x) := by simp [hasId]
theorem Right.idx_mem {l : List Entry'} {x : Id} : (∃ e ∈ l, e.id = x) ↔ ∃ j, ∃ hj : j < l.length, l[j].id = x :=
  ⟨fun ⟨e, he, h⟩ => by obtain ⟨j, hj, rfl⟩ := List.getElem_of_mem he; exact ⟨j, hj, h⟩, fun ⟨j, hj, h⟩ => ⟨_, List.getElem_mem hj, h⟩⟩
/-- Is it there, and has it one of some colors? -/
def colored (l : List Entry') (c : Int) (x : Id) : Bool := l.any fun e => isThe x e && meets e.colors c
theorem colored_iff {l : List Entry'} {c : Int} {x : Id} : colored l c x = true ↔ ∃ e ∈ l, e.id = x ∧ meets e.colors c = true := by
  unfold colored
  rw [List.any_eq_true]
  constructor
  · rintro ⟨e, he, h⟩
    rw [Bool.and_eq_true] at h
    exact ⟨e, he, isThe_iff.1 h.1, h.2⟩
  · rintro ⟨e, he, h1, h2⟩
    exact ⟨e, he, by rw [isThe_iff.2 h1, h2]; rfl⟩
def colIds (l : List Entry') (c : Int) : List Id := allIds.filter (colored l c)
theorem mem_colIds {l : List Entry'} (hr : Right l) {c : Int} {x : Id} : x ∈ colIds l c ↔ colored l c x = true := by
  unfold colIds
  rw [List.mem_filter, mem_allIds]
  refine ⟨fun h => h.2, fun h => ⟨?_, h⟩⟩
  obtain ⟨e, he, rfl, _⟩ := colored_iff.1 h
  exact hr.ok he
theorem sorted_nodup {l : List Id} (h : l.Pairwise (fun x y => x.less y = true)) : l.Nodup := h.imp fun {a b} h e => by subst e; rw [less_irrefl] at h; cases h
theorem nodup_colIds (l : List Entry') (c : Int) : (colIds l c).Nodup := sorted_nodup (allIds_sorted.filter _)
/-- What is in the past of one, and has one of some colors. -/
def needs (l : List Entry') (c : Int) (x : Id) : List Id := (pastOfId l x).filter (colored l c)
theorem mem_needs {l : List Entry'} (hr : Right l) {c : Int} {x y : Id} : y ∈ needs l c x ↔ Anc l x y ∧ colored l c y = true := by
  unfold needs
  rw [List.mem_filter, mem_pastOfId hr]
def mayP (l : List Entry') (c : Int) (out : List Id) (x : Id) : Bool := !hasId out x && (needs l c x).all (hasId out)
theorem mayP_iff {l : List Entry'} (hr : Right l) {c : Int} {out : List Id} {x : Id} : mayP l c out x = true ↔ x ∉ out ∧ ∀ y, Anc l x y → colored l c y = true → y ∈ out := by
  unfold mayP
  rw [Bool.and_eq_true, List.all_eq_true, Bool.not_eq_true']
  refine ⟨fun ⟨h1, h2⟩ => ⟨fun h => (by rw [hasId_iff.2 h] at h1; cases h1), fun y ha hc => hasId_iff.1 (h2 y ((mem_needs hr).2 ⟨ha, hc⟩))⟩, fun ⟨h1, h2⟩ => ⟨?_, fun y hy => ?_⟩⟩
  · rw [Bool.eq_false_iff]; exact fun h => h1 (hasId_iff.1 h)
  · obtain ⟨ha, hc⟩ := (mem_needs hr).1 hy
    exact hasId_iff.2 (h2 y ha hc)
/-- Who is next. -/
def nextOf (l : List Entry') (c : Int) (out : List Id) : Option Id := (colIds l c).find? (mayP l c out)
def moreN (l : List Entry') (c : Int) : Nat → List Id → List Id
  | 0, out => out
  | n + 1, out => match nextOf l c out with
    | none => out
    | some x => moreN l c n (out ++ [x])
/-- How many are not there yet. -/
def left (l : List Entry') (c : Int) (out : List Id) : Nat := ((colIds l c).filter fun x => !hasId out x).length
def moreOf (l : List Entry') (c : Int) (out : List Id) : List Id := moreN l c (left l c out) out
theorem nextOf_some {l : List Entry'} {c : Int} {out : List Id} {x : Id} (h : nextOf l c out = some x) : x ∈ colIds l c ∧ mayP l c out x = true :=
  ⟨List.mem_of_find?_eq_some h, List.find?_some h⟩
theorem left_step {l : List Entry'} {c : Int} {out : List Id} {x : Id} (hx : x ∈ colIds l c) (hn : x ∉ out) : left l c (out ++ [x]) + 1 = left l c out := by
  unfold left
  have h1 : ((colIds l c).filter fun y => !hasId (out ++ [x]) y) = ((colIds l c).filter fun y => !hasId out y).erase x := by
    rw [(((nodup_colIds l c)).sublist List.filter_sublist).erase_eq_filter, List.filter_filter]
    refine List.filter_congr fun y _ => ?_
    rw [hasId_append]
    have : hasId [x] y = (y == x) := by
      rw [Bool.eq_iff_iff, hasId_iff]
      simp
    rw [this]
    cases hasId out y <;> cases h : (y == x) <;> simp [bne, h]
  have hm : x ∈ (colIds l c).filter fun y => !hasId out y := by
    rw [List.mem_filter]
    refine ⟨hx, ?_⟩
    rw [Bool.not_eq_true', Bool.eq_false_iff]
    exact fun h => hn (hasId_iff.1 h)
  rw [h1, List.length_erase_of_mem hm]
  have := List.length_pos_of_mem hm
  omega
theorem nextOf_left {l : List Entry'} {c : Int} {out : List Id} {x : Id} (h : nextOf l c out = some x) : left l c (out ++ [x]) + 1 = left l c out := by
  obtain ⟨h1, h2⟩ := nextOf_some h
  refine left_step h1 fun k => ?_
  unfold mayP at h2
  rw [hasId_iff.2 k] at h2
  simp at h2
theorem moreOf_none {l : List Entry'} {c : Int} {out : List Id} (h : nextOf l c out = none) : moreOf l c out = out := by
  unfold moreOf
  cases left l c out with
  | zero => rfl
  | succ n => simp only [moreN, h]
theorem moreOf_some {l : List Entry'} {c : Int} {out : List Id} {x : Id} (h : nextOf l c out = some x) : moreOf l c out = moreOf l c (out ++ [x]) := by
  unfold moreOf
  rw [← nextOf_left h]
  simp only [moreN, h]
/-- What holds of what is gone on from, and goes on, holds of all. -/
theorem moreOf_ind {l : List Entry'} {c : Int} {p : List Id → Prop} (hs : ∀ out x, p out → nextOf l c out = some x → p (out ++ [x])) : ∀ out, p out → p (moreOf l c out) ∧ nextOf l c (moreOf l c out) = none := by
  intro out
  generalize hn : left l c out = n
  induction n generalizing out with
  | zero =>
    intro hp
    cases h : nextOf l c out with
    | none => rw [moreOf_none h]; exact ⟨hp, h⟩
    | some x => have := nextOf_left h; omega
  | succ n ih =>
    intro hp
    cases h : nextOf l c out with
    | none => rw [moreOf_none h]; exact ⟨hp, h⟩
    | some x =>
      rw [moreOf_some h]
      exact ih _ (by have := nextOf_left h; omega) (hs out x hp h)
theorem moreOf_prefix (l : List Entry') (c : Int) (out : List Id) : out <+: moreOf l c out :=
  (moreOf_ind (p := fun o => out <+: o) (fun o x h _ => h.trans (List.prefix_append o [x])) out (List.prefix_refl _)).1
/-- All of some colors are there where nobody is next. -/
theorem all_there {l : List Entry'} (hr : Right l) {c : Int} {out : List Id} (h : nextOf l c out = none) {x : Id} (hx : colored l c x = true) : x ∈ out := by
  have key : ∀ i (hi : i < l.length), colored l c l[i].id = true → l[i].id ∈ out := fun i => by
    induction i using Nat.strongRecOn with
    | _ i ih =>
      intro hi hx
      refine Classical.byContradiction fun hn => ?_
      unfold nextOf at h
      rw [List.find?_eq_none] at h
      refine h _ ((mem_colIds hr).2 hx) ((mayP_iff hr).2 ⟨hn, fun y ha hc => ?_⟩)
      obtain ⟨j, hj, h1, rfl, _⟩ := ha.ahead hr i hi rfl
      exact ih j h1 hj hc
  obtain ⟨e, he, h1, _⟩ := colored_iff.1 hx
  obtain ⟨i, hi, rfl⟩ := List.getElem_of_mem he
  subst h1
  exact key i hi hx

/-- Ids that can be played one by one. -/
def playOk (l : List Entry') (c : Int) : List Id → List Id → Bool
  | _, [] => true
  | out, x :: t => (colored l c x && mayP l c out x) && playOk l c (out ++ [x]) t
theorem playOk_append {l : List Entry'} {c : Int} : ∀ {a b out : List Id}, playOk l c out (a ++ b) = (playOk l c out a && playOk l c (out ++ a) b)
  | [], b, out => by simp [playOk]
  | x :: t, b, out => by
    simp only [List.cons_append, playOk, playOk_append (a := t), Bool.and_assoc, List.append_assoc, List.singleton_append, List.nil_append]
theorem playOk_more {l : List Entry'} (hr : Right l) {c : Int} {ids : List Id} (h : playOk l c [] ids = true) : playOk l c [] (moreOf l c ids) = true := by
  refine (moreOf_ind (p := fun o => playOk l c [] o = true) (fun o x h1 h2 => ?_) ids h).1
  obtain ⟨k1, k2⟩ := nextOf_some h2
  rw [playOk_append, h1]
  simp [playOk, k2, (mem_colIds hr).1 k1]
theorem playOk_take {l : List Entry'} {c : Int} {ids : List Id} (h : playOk l c [] ids = true) (n : Nat) : playOk l c [] (ids.take n) = true := by
  rw [← List.take_append_drop n ids, playOk_append, Bool.and_eq_true] at h
  exact h.1
/-- What was played: each of the colors, once, behind all of its past that has the colors. -/
theorem playOk_iff {l : List Entry'} (hr : Right l) {c : Int} : ∀ {ids : List Id}, playOk l c [] ids = true ↔ ids.Nodup ∧ ∀ a x b, ids = a ++ x :: b → colored l c x = true ∧ ∀ y, Anc l x y → colored l c y = true → y ∈ a := by
  have key : ∀ (ids out : List Id), playOk l c out ids = true ↔ (ids.Nodup ∧ ∀ x ∈ ids, x ∉ out) ∧ ∀ a x b, ids = a ++ x :: b → colored l c x = true ∧ ∀ y, Anc l x y → colored l c y = true → y ∈ out ++ a := by
    intro ids
    induction ids with
    | nil => intro out; simp [playOk]
    | cons x t ih =>
      intro out
      simp only [playOk, Bool.and_eq_true, ih, mayP_iff hr]
      constructor
      · rintro ⟨⟨h1, h2, h3⟩, ⟨h4, h5⟩, h6⟩
        refine ⟨⟨?_, ?_⟩, ?_⟩
        · rw [List.nodup_cons]
          exact ⟨fun hx => h5 x hx (by simp), h4⟩
        · intro y hy
          rcases List.mem_cons.1 hy with rfl | hy
          · exact h2
          · exact fun k => h5 y hy (by simp [k])
        · intro a y b hh
          cases a with
          | nil =>
            simp only [List.nil_append, List.cons.injEq] at hh
            obtain ⟨rfl, rfl⟩ := hh
            exact ⟨h1, by simpa using h3⟩
          | cons z a =>
            simp only [List.cons_append, List.cons.injEq] at hh
            obtain ⟨rfl, rfl⟩ := hh
            have := h6 a y b rfl
            simpa using this
      · rintro ⟨⟨h1, h2⟩, h3⟩
        rw [List.nodup_cons] at h1
        obtain ⟨k1, k2⟩ := h3 [] x t rfl
        refine ⟨⟨k1, h2 x (by simp), by simpa using k2⟩, ⟨h1.2, fun y hy hm => ?_⟩, fun a y b hh => ?_⟩
        · rcases List.mem_append.1 hm with hm | hm
          · exact h2 y (by simp [hy]) hm
          · simp only [List.mem_singleton] at hm
            subst hm
            exact h1.1 hy
        · have := h3 (x :: a) y b (by rw [hh]; rfl)
          simpa using this
  intro ids
  rw [key]
  simp
/-- Is it an order: nothing stands ahead of what is in its past. -/
def isOrder (l : List Entry') : List Id → Bool
  | [] => true
  | x :: t => t.all (fun y => !hasId (pastOfId l x) y) && isOrder l t
theorem isOrder_iff {l : List Entry'} (hr : Right l) : ∀ {ids : List Id}, isOrder l ids = true ↔ ids.Pairwise fun x y => ¬ Anc l x y
  | [] => by simp [isOrder]
  | x :: t => by
    simp only [isOrder, Bool.and_eq_true, List.pairwise_cons, isOrder_iff hr (ids := t), List.all_eq_true, Bool.not_eq_true']
    refine and_congr ⟨fun h y hy ha => ?_, fun h y hy => ?_⟩ Iff.rfl
    · have := h y hy
      rw [hasId_iff.2 ((mem_pastOfId hr).2 ha)] at this
      cases this
    · rw [Bool.eq_false_iff]
      exact fun k => h y hy ((mem_pastOfId hr).1 (hasId_iff.1 k))
/-- What the document asks of what is begun. -/
def begunOk (l : List Entry') (c : Int) (ids : List Id) : Bool := ids.all (fun x => colored l c x && (needs l c x).all (hasId ids)) && isOrder l ids
theorem begun_play {l : List Entry'} (hr : Right l) {c : Int} {ids : List Id} (hn : ids.Nodup) : begunOk l c ids = playOk l c [] ids := by
  rw [Bool.eq_iff_iff, playOk_iff hr]
  unfold begunOk
  simp only [Bool.and_eq_true, List.all_eq_true, isOrder_iff hr]
  have hneed : ∀ x, (∀ y ∈ needs l c x, hasId ids y = true) ↔ ∀ y, Anc l x y → colored l c y = true → y ∈ ids := fun x =>
    ⟨fun h y ha hc => hasId_iff.1 (h y ((mem_needs hr).2 ⟨ha, hc⟩)), fun h y hy => hasId_iff.2 (h y ((mem_needs hr).1 hy).1 ((mem_needs hr).1 hy).2)⟩
  constructor
  · rintro ⟨h1, h2⟩
    refine ⟨hn, fun a x b hh => ?_⟩
    obtain ⟨k1, k2⟩ := h1 x (by rw [hh]; simp)
    refine ⟨k1, fun y ha hc => ?_⟩
    have := (hneed x).1 k2 y ha hc
    rw [hh] at this h2
    rcases List.mem_append.1 this with h | h
    · exact h
    · rcases List.mem_cons.1 h with rfl | h
      · exact (ha.irrefl hr).elim
      · rw [List.pairwise_append] at h2
        exact absurd ha ((List.pairwise_cons.1 h2.2.1).1 y h)
  · rintro ⟨_, h⟩
    refine ⟨fun x hx => ?_, ?_⟩
    · obtain ⟨a, b, hab⟩ := List.append_of_mem hx
      obtain ⟨k1, k2⟩ := h a x b hab
      exact ⟨k1, (hneed x).2 fun y ha hc => by rw [hab]; exact List.mem_append_left _ (k2 y ha hc)⟩
    · rw [List.pairwise_iff_getElem]
      intro i j hi hj hij ha
      have hc := (h (ids.take j) ids[j] (ids.drop (j + 1)) (by rw [← List.drop_eq_getElem_cons hj, List.take_append_drop])).1
      have := (h (ids.take i) ids[i] (ids.drop (i + 1)) (by rw [← List.drop_eq_getElem_cons hi, List.take_append_drop])).2 _ ha hc
      rw [List.mem_take_iff_getElem] at this
      obtain ⟨k, hk, he⟩ := this
      unfold List.Nodup at hn
      rw [List.pairwise_iff_getElem] at hn
      exact hn k j (by omega) hj (by omega) he
/-- It goes on to the same from each of its beginnings. -/
theorem moreOf_take {l : List Entry'} {c : Int} (out : List Id) : ∀ n, out.length ≤ n → moreOf l c ((moreOf l c out).take n) = moreOf l c out := by
  generalize hn : left l c out = m
  induction m generalizing out with
  | zero =>
    intro n h
    cases hx : nextOf l c out with
    | none => rw [moreOf_none hx, List.take_of_length_le h, moreOf_none hx]
    | some x => have := nextOf_left hx; omega
  | succ m ih =>
    intro n h
    cases hx : nextOf l c out with
    | none => rw [moreOf_none hx, List.take_of_length_le h, moreOf_none hx]
    | some x =>
      by_cases hlt : n = out.length
      · subst hlt
        obtain ⟨t, ht⟩ := moreOf_prefix l c out
        rw [← ht, List.take_left, ht]
      · rw [moreOf_some hx]
        exact ih _ (by have := nextOf_left hx; omega) n (by simp; omega)
end Go.Proofs.YtlioojekjnigiaeGreat.AM
/- Colors, pasts and rising ids, as the document reckons them. -/
namespace Go.Proofs.YtlioojekjnigiaeGreat.AM
set_option linter.unusedVariables false
set_option linter.unusedSimpArgs false

def Bool.encB (b : Bool) : List D := [.bool b]
set_option maxHeartbeats 0 in
theorem isOf_ok (c : Int) (i : Nat) (hi : i < 3) : PCall Tryz.prog 56 [dInt c, dInt i] (dBool (isOf c i)) := by
  refine pcall_intro tab_all tab_mixed Tryz.func56 (by kernel_rfl) Tryz.ntmps56 rfl ?_
  conv => whnf
  rcases (by omega : i = 0 ∨ i = 1 ∨ i = 2) with rfl | rfl | rfl
  · refine .mk 0 _ rfl rfl rfl ?_
    conv => whnf
    refine .mk _ rfl ?_
    conv => whnf
    refine ⟨by decide, ?_⟩
    conv => whnf
    refine ⟨by decide, ?_⟩
    conv => whnf
    exact Ret.bool rfl
  · refine .mk 1 _ rfl rfl rfl ?_
    conv => whnf
    refine .mk _ rfl ?_
    conv => whnf
    refine ⟨by decide, ?_⟩
    conv => whnf
    refine ⟨by decide, ?_⟩
    conv => whnf
    exact Ret.bool rfl
  · refine .mk 2 _ rfl rfl rfl ?_
    conv => whnf
    refine .mk _ rfl ?_
    conv => whnf
    refine ⟨by decide, ?_⟩
    conv => whnf
    refine ⟨by decide, ?_⟩
    conv => whnf
    exact Ret.bool rfl
set_option maxHeartbeats 0 in
theorem meets_ok (a b : Int) : PCall Tryz.prog 31 [dInt a, dInt b] (dBool (meets a b)) := by
  refine pcall_intro tab_all tab_mixed Tryz.func31 (by kernel_rfl) Tryz.ntmps31 rfl ?_
  conv => whnf
  refine LoopOk.hide fun Q1 hQ1 => ?_
  refine LoopOk.mk (fun m s => ∃ i, i + m = 3 ∧ (meets a b = if i = 0 then meets a b else if i = 1 then ((isOf a 1 && isOf b 1) || (isOf a 2 && isOf b 2)) else if i = 2 then (isOf a 2 && isOf b 2) else false) ∧ s = ⟨[(5, dInt i), (0, dInt a), (1, dInt b)], 0, []⟩) 3 (Into.mono (Into.to [] [(5, dInt (0 : Nat)), (0, dInt a), (1, dInt b)] [] (by repeat (first | exact trivial | refine ⟨.same (congrArg dInt (wrap_up (by omega))), ?_⟩ | refine ⟨.same rfl, ?_⟩ | refine ⟨.any _, ?_⟩)) trivial rfl rfl) fun s' h => ⟨0, by omega, by simp, h⟩) ?_
  rintro m s ⟨i, hi, hp, rfl⟩
  conv => whnf
  (first | (refine SeqOk.go ?_; conv => whnf) | skip)
  refine ⟨fun h => ?_, fun h => ?_⟩
  · conv => whnf
    repeat (first | (refine Conf.mk (by kernel_rfl) ?_; conv => whnf) | (refine SeqOk.go ?_; conv => whnf))
    have hi' : i < 3 := by simp at h; omega
    refine .look _ _ (isOf_ok a i hi') rfl rfl ?_
    conv => whnf
    repeat (first | (refine Conf.mk (by kernel_rfl) ?_; conv => whnf) | (refine SeqOk.go ?_; conv => whnf))
    refine ⟨fun h1 => ?_, fun h1 => ?_⟩
    · conv => whnf
      repeat (first | (refine Conf.mk (by kernel_rfl) ?_; conv => whnf) | (refine SeqOk.go ?_; conv => whnf))
      refine .look _ _ (isOf_ok b i hi') rfl rfl ?_
      conv => whnf
      repeat (first | (refine Conf.mk (by kernel_rfl) ?_; conv => whnf) | (refine SeqOk.go ?_; conv => whnf))
      refine ⟨fun h2 => ?_, fun h2 => ?_⟩
      · conv => whnf
        repeat (first | (refine Conf.mk (by kernel_rfl) ?_; conv => whnf) | (refine SeqOk.go ?_; conv => whnf))
        subst hQ1
        conv => whnf
        refine Ret.bool ?_
        rw [hp]
        rcases (by omega : i = 0 ∨ i = 1 ∨ i = 2) with rfl | rfl | rfl <;> simp_all [meets]
      · conv => whnf
        repeat (first | (refine Conf.mk (by kernel_rfl) ?_; conv => whnf) | (refine SeqOk.go ?_; conv => whnf))
        refine Into.mono (Into.to [] [(5, dInt (i + 1 : Nat)), (0, dInt a), (1, dInt b)] [] (by repeat (first | exact trivial | refine ⟨.same (congrArg dInt (wrap_up (by omega))), ?_⟩ | refine ⟨.same rfl, ?_⟩ | refine ⟨.any _, ?_⟩)) trivial rfl rfl) fun s' h' => ⟨m - 1, by omega, i + 1, by omega, ?_, h'⟩
        rw [hp]
        rcases (by omega : i = 0 ∨ i = 1 ∨ i = 2) with rfl | rfl | rfl <;> simp_all [meets]
    · conv => whnf
      repeat (first | (refine Conf.mk (by kernel_rfl) ?_; conv => whnf) | (refine SeqOk.go ?_; conv => whnf))
      refine Into.mono (Into.to [] [(5, dInt (i + 1 : Nat)), (0, dInt a), (1, dInt b)] [] (by repeat (first | exact trivial | refine ⟨.same (congrArg dInt (wrap_up (by omega))), ?_⟩ | refine ⟨.same rfl, ?_⟩ | refine ⟨.any _, ?_⟩)) trivial rfl rfl) fun s' h' => ⟨m - 1, by omega, i + 1, by omega, ?_, h'⟩
      rw [hp]
      rcases (by omega : i = 0 ∨ i = 1 ∨ i = 2) with rfl | rfl | rfl <;> simp_all [meets]
  · conv => whnf
    repeat (first | (refine Conf.mk (by kernel_rfl) ?_; conv => whnf) | (refine SeqOk.go ?_; conv => whnf))
    subst hQ1
    conv => whnf
    refine Ret.bool ?_
    have : i = 3 := by simp at h; omega
    subst this
    simpa using hp.symm
theorem setLinks_snoc (l : List Entry') (bs : List Bool) (ys : List Id) {j : Nat} (hj : j < ys.length) : setLinks l bs (ys.take (j + 1)) = tick l (setLinks l bs (ys.take j)) ys[j] := by
  unfold setLinks
  rw [take_snoc hj, List.foldl_append]
  rfl
set_option maxHeartbeats 0 in
theorem pastOfB_ok (l : List Entry') (hr : Right l) (at' : Nat) (hat : at' < l.length) : PCall Tryz.prog 32 [.dat (.list (l.map Entry'.enc)), dInt at'] (.dat (.list ((pastBs l at').map Bool.encB))) := by
  have hlen := hr.len
  refine pcall_intro tab_all tab_mixed Tryz.func32 (by kernel_rfl) Tryz.ntmps32 rfl ?_
  conv => whnf
  refine .mk l.length (by simp) ?_
  conv => whnf
  repeat (first | (refine Conf.mk (by kernel_rfl) ?_; conv => whnf) | (refine SeqOk.go ?_; conv => whnf))
  refine ⟨Nat.le_trans (Nat.mul_le_mul_right 2 hlen) (by decide), ?_⟩
  conv => whnf
  repeat (first | (refine Conf.mk (by kernel_rfl) ?_; conv => whnf) | (refine SeqOk.go ?_; conv => whnf))
  refine LoopOk.hide fun Q1 hQ1 => ?_
  refine LoopOk.mk (fun m s => ∃ k, k + m = at' + 1 ∧ s = ⟨[(6, dInt ((at' : Int) - k)), (0, .dat (.list (l.map Entry'.enc))), (1, dInt at'), (5, .row 0)], 1, [(0, .rows 4 1 ((pastB l at' k).map Bool.encB) true)]⟩) (at' + 1) (Into.mono (Into.to [0] [(6, dInt ((at' : Int) - (0 : Nat))), (0, .dat (.list (l.map Entry'.enc))), (1, dInt at'), (5, .row 0)] [(0, .rows 4 1 ((pastB l at' 0).map Bool.encB) true)] ⟨.same (congrArg dInt (by simp)), .same rfl, .same rfl, .same rfl, trivial⟩ ⟨⟨rfl, rfl, rfl, by simp [pastB, Bool.encB]⟩, trivial⟩ rfl rfl) fun s' h => ⟨0, by omega, h⟩) ?_
  rintro m s ⟨k, hk, rfl⟩
  conv => whnf
  repeat (first | (refine Conf.mk (by kernel_rfl) ?_; conv => whnf) | (refine SeqOk.go ?_; conv => whnf))
  refine ⟨fun h => ?_, fun h => ?_⟩
  · have hk' : k ≤ at' := by simp at h; omega
    have hsub : ((at' : Int) - k) = ((at' - k : Nat) : Int) := by omega
    have hlt : at' - k < l.length := by omega
    conv => whnf
    repeat (first | (refine Conf.mk (by kernel_rfl) ?_; conv => whnf) | (refine SeqOk.go ?_; conv => whnf))
    refine ⟨fun h1 => ?_, fun h1 => ?_⟩
    · have hc : (decide (at' - k = at') || isIn (pastB l at' k) (at' - k)) = true := by
        have : at' - k = at' := by simp at h1; omega
        simp [this]
      conv => whnf
      repeat (first | (refine Conf.mk (by kernel_rfl) ?_; conv => whnf) | (refine SeqOk.go ?_; conv => whnf))
      have hstep : pastB l at' (k + 1) = setLinks l (pastB l at' k) l[at' - k].links := by
        simp only [pastB]
        rw [List.getElem?_eq_getElem hlt]
        simp only
        rw [if_pos hc]
      refine LoopOk.hide fun Q2 hQ2 => ?_
      refine LoopOk.mk (fun m' s => ∃ j, j + m' = l[at' - k].links.length ∧ s = ⟨[(7, dInt j), (6, dInt ((at' : Int) - k)), (0, .dat (.list (l.map Entry'.enc))), (1, dInt at'), (5, .row 0)], 1, [(0, .rows 4 1 ((setLinks l (pastB l at' k) (l[at' - k].links.take j)).map Bool.encB) true)]⟩) l[at' - k].links.length (Into.mono (Into.to [0] [(7, dInt (0 : Nat)), (6, dInt ((at' : Int) - k)), (0, .dat (.list (l.map Entry'.enc))), (1, dInt at'), (5, .row 0)] [(0, .rows 4 1 ((setLinks l (pastB l at' k) (l[at' - k].links.take 0)).map Bool.encB) true)] ⟨.same rfl, .same rfl, .same rfl, .same rfl, .same rfl, trivial⟩ ⟨⟨rfl, rfl, rfl, rfl⟩, trivial⟩ rfl rfl) fun s' h => ⟨0, by omega, h⟩) ?_
      rintro m' s ⟨j, hj, rfl⟩
      conv => whnf
      repeat (first | (refine Conf.mk (by kernel_rfl) ?_; conv => whnf) | (refine SeqOk.go ?_; conv => whnf))
      refine AtIdx.ofMap' (at' - k) hsub hlt rfl ?_
      conv => whnf
      repeat (first | (refine Conf.mk (by kernel_rfl) ?_; conv => whnf) | (refine SeqOk.go ?_; conv => whnf))
      refine ⟨fun h2 => ?_, fun h2 => ?_⟩
      · have hj' : j < l[at' - k].links.length := by simp at h2; omega
        conv => whnf
        repeat (first | (refine Conf.mk (by kernel_rfl) ?_; conv => whnf) | (refine SeqOk.go ?_; conv => whnf))
        refine AtIdx.ofMap' (at' - k) hsub hlt rfl ?_
        conv => whnf
        repeat (first | (refine Conf.mk (by kernel_rfl) ?_; conv => whnf) | (refine SeqOk.go ?_; conv => whnf))
        refine AtIdx.ofMap hj' rfl ?_
        conv => whnf
        repeat (first | (refine Conf.mk (by kernel_rfl) ?_; conv => whnf) | (refine SeqOk.go ?_; conv => whnf))
        refine .look _ _ (entryAt_ok l[at' - k].links[j] l (by omega)) rfl rfl ?_
        conv => whnf
        repeat (first | (refine Conf.mk (by kernel_rfl) ?_; conv => whnf) | (refine SeqOk.go ?_; conv => whnf))
        obtain ⟨x, hx, hxe⟩ := hr.links (List.getElem_mem hlt) (List.getElem_mem hj')
        obtain ⟨p, hp, rfl⟩ := List.getElem_of_mem hx
        have hidx := idx_of hr hp
        rw [hxe] at hidx
        have hpl : p < (setLinks l (pastB l at' k) (l[at' - k].links.take j)).length := by rw [setLinks_length, pastB_length]; exact hp
        refine AtIdx.ofMap' p (by rw [entryAt_eq, hidx]; rfl) hpl rfl ?_
        conv => whnf
        repeat (first | (refine Conf.mk (by kernel_rfl) ?_; conv => whnf) | (refine SeqOk.go ?_; conv => whnf))
        refine .mk _ (by rw [List.getElem?_map, List.getElem?_eq_getElem hpl]; rfl) ?_
        conv => whnf
        repeat (first | (refine Conf.mk (by kernel_rfl) ?_; conv => whnf) | (refine SeqOk.go ?_; conv => whnf))
        refine Into.mono (Into.to [0] [(7, dInt (j + 1 : Nat)), (6, dInt ((at' : Int) - k)), (0, .dat (.list (l.map Entry'.enc))), (1, dInt at'), (5, .row 0)] [(0, .rows 4 1 ((setLinks l (pastB l at' k) (l[at' - k].links.take (j + 1))).map Bool.encB) true)] ⟨.same (congrArg dInt (wrap_up (by have := hr.six (List.getElem_mem hlt); omega))), .same rfl, .same rfl, .same rfl, .same rfl, trivial⟩ ⟨⟨rfl, rfl, rfl, ?_⟩, trivial⟩ rfl rfl) fun s' h => ⟨m' - 1, by omega, j + 1, by omega, h⟩
        rw [setLinks_snoc l _ _ hj']
        unfold tick
        rw [hidx]
        simp only [List.map_set]
        rfl
      · have hj' : l[at' - k].links.length ≤ j := by simp at h2; omega
        conv => whnf
        repeat (first | (refine Conf.mk (by kernel_rfl) ?_; conv => whnf) | (refine SeqOk.go ?_; conv => whnf))
        subst hQ2
        conv => whnf
        have hdone : pastB l at' (k + 1) = setLinks l (pastB l at' k) (l[at' - k].links.take j) := by rw [hstep, List.take_of_length_le hj']
        refine Into.mono (Into.to [0] [(6, dInt ((at' : Int) - (k + 1 : Nat))), (0, .dat (.list (l.map Entry'.enc))), (1, dInt at'), (5, .row 0)] [(0, .rows 4 1 ((pastB l at' (k + 1)).map Bool.encB) true)] ⟨.same (congrArg dInt (by rw [wrap_id (by omega) (by omega)]; omega)), .same rfl, .same rfl, .same rfl, trivial⟩ ⟨⟨rfl, rfl, rfl, congrArg (List.map Bool.encB) hdone⟩, trivial⟩ rfl rfl) fun s' h => ⟨m - 1, by omega, k + 1, by omega, h⟩
    · have hpl : at' - k < (pastB l at' k).length := by rw [pastB_length]; exact hlt
      conv => whnf
      repeat (first | (refine Conf.mk (by kernel_rfl) ?_; conv => whnf) | (refine SeqOk.go ?_; conv => whnf))
      refine AtIdx.ofMap' (at' - k) hsub hpl rfl ?_
      conv => whnf
      repeat (first | (refine Conf.mk (by kernel_rfl) ?_; conv => whnf) | (refine SeqOk.go ?_; conv => whnf))
      refine .mk _ (by rw [List.getElem?_map, List.getElem?_eq_getElem hpl]; rfl) ?_
      conv => whnf
      repeat (first | (refine Conf.mk (by kernel_rfl) ?_; conv => whnf) | (refine SeqOk.go ?_; conv => whnf))
      refine ⟨fun h3 => ?_, fun h3 => ?_⟩
      · have hc : (decide (at' - k = at') || isIn (pastB l at' k) (at' - k)) = true := by
          rw [Bool.or_eq_true]
          refine .inr ?_
          unfold isIn
          rw [List.getElem?_eq_getElem hpl]
          exact h3
        conv => whnf
        repeat (first | (refine Conf.mk (by kernel_rfl) ?_; conv => whnf) | (refine SeqOk.go ?_; conv => whnf))
        have hstep : pastB l at' (k + 1) = setLinks l (pastB l at' k) l[at' - k].links := by
          simp only [pastB]
          rw [List.getElem?_eq_getElem hlt]
          simp only
          rw [if_pos hc]
        refine LoopOk.hide fun Q2 hQ2 => ?_
        refine LoopOk.mk (fun m' s => ∃ j, j + m' = l[at' - k].links.length ∧ s = ⟨[(7, dInt j), (6, dInt ((at' : Int) - k)), (0, .dat (.list (l.map Entry'.enc))), (1, dInt at'), (5, .row 0)], 1, [(0, .rows 4 1 ((setLinks l (pastB l at' k) (l[at' - k].links.take j)).map Bool.encB) true)]⟩) l[at' - k].links.length (Into.mono (Into.to [0] [(7, dInt (0 : Nat)), (6, dInt ((at' : Int) - k)), (0, .dat (.list (l.map Entry'.enc))), (1, dInt at'), (5, .row 0)] [(0, .rows 4 1 ((setLinks l (pastB l at' k) (l[at' - k].links.take 0)).map Bool.encB) true)] ⟨.same rfl, .same rfl, .same rfl, .same rfl, .same rfl, trivial⟩ ⟨⟨rfl, rfl, rfl, rfl⟩, trivial⟩ rfl rfl) fun s' h => ⟨0, by omega, h⟩) ?_
        rintro m' s ⟨j, hj, rfl⟩
        conv => whnf
        repeat (first | (refine Conf.mk (by kernel_rfl) ?_; conv => whnf) | (refine SeqOk.go ?_; conv => whnf))
        refine AtIdx.ofMap' (at' - k) hsub hlt rfl ?_
        conv => whnf
        repeat (first | (refine Conf.mk (by kernel_rfl) ?_; conv => whnf) | (refine SeqOk.go ?_; conv => whnf))
        refine ⟨fun h2 => ?_, fun h2 => ?_⟩
        · have hj' : j < l[at' - k].links.length := by simp at h2; omega
          conv => whnf
          repeat (first | (refine Conf.mk (by kernel_rfl) ?_; conv => whnf) | (refine SeqOk.go ?_; conv => whnf))
          refine AtIdx.ofMap' (at' - k) hsub hlt rfl ?_
          conv => whnf
          repeat (first | (refine Conf.mk (by kernel_rfl) ?_; conv => whnf) | (refine SeqOk.go ?_; conv => whnf))
          refine AtIdx.ofMap hj' rfl ?_
          conv => whnf
          repeat (first | (refine Conf.mk (by kernel_rfl) ?_; conv => whnf) | (refine SeqOk.go ?_; conv => whnf))
          refine .look _ _ (entryAt_ok l[at' - k].links[j] l (by omega)) rfl rfl ?_
          conv => whnf
          repeat (first | (refine Conf.mk (by kernel_rfl) ?_; conv => whnf) | (refine SeqOk.go ?_; conv => whnf))
          obtain ⟨x, hx, hxe⟩ := hr.links (List.getElem_mem hlt) (List.getElem_mem hj')
          obtain ⟨p, hp, rfl⟩ := List.getElem_of_mem hx
          have hidx := idx_of hr hp
          rw [hxe] at hidx
          have hpl : p < (setLinks l (pastB l at' k) (l[at' - k].links.take j)).length := by rw [setLinks_length, pastB_length]; exact hp
          refine AtIdx.ofMap' p (by rw [entryAt_eq, hidx]; rfl) hpl rfl ?_
          conv => whnf
          repeat (first | (refine Conf.mk (by kernel_rfl) ?_; conv => whnf) | (refine SeqOk.go ?_; conv => whnf))
          refine .mk _ (by rw [List.getElem?_map, List.getElem?_eq_getElem hpl]; rfl) ?_
          conv => whnf
          repeat (first | (refine Conf.mk (by kernel_rfl) ?_; conv => whnf) | (refine SeqOk.go ?_; conv => whnf))
          refine Into.mono (Into.to [0] [(7, dInt (j + 1 : Nat)), (6, dInt ((at' : Int) - k)), (0, .dat (.list (l.map Entry'.enc))), (1, dInt at'), (5, .row 0)] [(0, .rows 4 1 ((setLinks l (pastB l at' k) (l[at' - k].links.take (j + 1))).map Bool.encB) true)] ⟨.same (congrArg dInt (wrap_up (by have := hr.six (List.getElem_mem hlt); omega))), .same rfl, .same rfl, .same rfl, .same rfl, trivial⟩ ⟨⟨rfl, rfl, rfl, ?_⟩, trivial⟩ rfl rfl) fun s' h => ⟨m' - 1, by omega, j + 1, by omega, h⟩
          rw [setLinks_snoc l _ _ hj']
          unfold tick
          rw [hidx]
          simp only [List.map_set]
          rfl
        · have hj' : l[at' - k].links.length ≤ j := by simp at h2; omega
          conv => whnf
          repeat (first | (refine Conf.mk (by kernel_rfl) ?_; conv => whnf) | (refine SeqOk.go ?_; conv => whnf))
          subst hQ2
          conv => whnf
          have hdone : pastB l at' (k + 1) = setLinks l (pastB l at' k) (l[at' - k].links.take j) := by rw [hstep, List.take_of_length_le hj']
          refine Into.mono (Into.to [0] [(6, dInt ((at' : Int) - (k + 1 : Nat))), (0, .dat (.list (l.map Entry'.enc))), (1, dInt at'), (5, .row 0)] [(0, .rows 4 1 ((pastB l at' (k + 1)).map Bool.encB) true)] ⟨.same (congrArg dInt (by rw [wrap_id (by omega) (by omega)]; omega)), .same rfl, .same rfl, .same rfl, trivial⟩ ⟨⟨rfl, rfl, rfl, congrArg (List.map Bool.encB) hdone⟩, trivial⟩ rfl rfl) fun s' h => ⟨m - 1, by omega, k + 1, by omega, h⟩
      · conv => whnf
        repeat (first | (refine Conf.mk (by kernel_rfl) ?_; conv => whnf) | (refine SeqOk.go ?_; conv => whnf))
        have hdone : pastB l at' (k + 1) = pastB l at' k := by
          simp only [pastB]
          rw [List.getElem?_eq_getElem hlt]
          simp only
          rw [if_neg]
          simp only [Bool.or_eq_true, not_or, Bool.not_eq_true]
          refine ⟨decide_eq_false fun e => ?_, ?_⟩
          · simp at h1; omega
          · unfold isIn
            rw [List.getElem?_eq_getElem hpl]
            exact h3
        refine Into.mono (Into.to [0] [(6, dInt ((at' : Int) - (k + 1 : Nat))), (0, .dat (.list (l.map Entry'.enc))), (1, dInt at'), (5, .row 0)] [(0, .rows 4 1 ((pastB l at' (k + 1)).map Bool.encB) true)] ⟨.same (congrArg dInt (by rw [wrap_id (by omega) (by omega)]; omega)), .same rfl, .same rfl, .same rfl, trivial⟩ ⟨⟨rfl, rfl, rfl, congrArg (List.map Bool.encB) hdone⟩, trivial⟩ rfl rfl) fun s' h => ⟨m - 1, by omega, k + 1, by omega, h⟩
  · have hk' : k = at' + 1 := by simp at h; omega
    conv => whnf
    repeat (first | (refine Conf.mk (by kernel_rfl) ?_; conv => whnf) | (refine SeqOk.go ?_; conv => whnf))
    subst hQ1
    conv => whnf
    refine Ret.to ?_
    rw [hk']
    rfl
end Go.Proofs.YtlioojekjnigiaeGreat.AM
/- Rising ids, heads, as the document reckons them; ids joined. -/
namespace Go.Proofs.YtlioojekjnigiaeGreat.AM
set_option linter.unusedVariables false
set_option linter.unusedSimpArgs false

theorem filter_snoc {α : Type} (p : α → Bool) {l : List α} {k : Nat} {x : α} (h : l[k]? = some x) : (l.take (k + 1)).filter p = (l.take k).filter p ++ if p x = true then [x] else [] := by
  rw [List.take_add_one, h, List.filter_append]
  congr 1
  by_cases hp : p x = true <;> simp [hp]
def risingTo (l : List Entry') (bs : List Bool) (k : Nat) : List Id := (allIds.take k).filter (inAt l bs)
theorem risingTo_all (l : List Entry') (bs : List Bool) : risingTo l bs 40 = rising l bs := by
  unfold risingTo rising
  rw [List.take_of_length_le (by rw [allIds_length]; exact Nat.le_refl _)]
theorem risingTo_len (l : List Entry') (bs : List Bool) (k : Nat) : (risingTo l bs k).length ≤ 40 := by
  unfold risingTo
  have h1 := List.length_filter_le (inAt l bs) (allIds.take k)
  have h2 : (allIds.take k).length ≤ 40 := by rw [List.length_take, allIds_length]; omega
  omega
theorem joinIds_len : ∀ (more ids : List Id), (joinIds ids more).length ≤ ids.length + more.length
  | [], ids => Nat.le_refl _
  | x :: t, ids => by
    show (joinIds (if ids.any (isId2 x) then ids else ids ++ [x]) t).length ≤ _
    have := joinIds_len t (if ids.any (isId2 x) then ids else ids ++ [x])
    by_cases h : ids.any (isId2 x) = true
    · rw [if_pos h] at *
      simp only [List.length_cons]
      omega
    · rw [if_neg h] at *
      simp only [List.length_cons, List.length_append, List.length_nil] at *
      omega
set_option maxHeartbeats 0 in
theorem join_ok (ids more : List Id) (h1 : ids.length ≤ 1000) (h2 : more.length ≤ 1000) : ECall Tryz.prog 93 [.row 0, .dat (.list (more.map Id.enc))] [(0, .rows 45 2 (ids.map Id.enc) true)] 1 (.row 1) [(0, .dead), (1, .rows 45 2 ((joinIds ids more).map Id.enc) true)] 1 := by
  refine acall_intro tab_all tab_mixed Tryz.func93 (by kernel_rfl) Tryz.ntmps93 rfl ?_
  conv => whnf
  refine LoopOk.hide fun Q1 hQ1 => ?_
  refine LoopOk.mk (fun m s => ∃ i, i + m = more.length ∧ s = ⟨[(9, dInt i), (8, dInt (more.map Id.enc).length), (7, .dat (.list (more.map Id.enc))), (0, .row 1)], 2, [(0, .dead), (1, .rows 45 2 ((joinIds ids (more.take i)).map Id.enc) true)]⟩) more.length ((Into.alias 0 0 (.rows 45 2 (ids.map Id.enc) true) rfl rfl rfl (Nat.lt_succ_self 0)).trans fun s' hs' => by
    subst hs'
    exact Into.mono (Into.to [0, 1] [(9, dInt (0 : Nat)), (8, dInt (more.map Id.enc).length), (7, .dat (.list (more.map Id.enc))), (0, .row 1)] [(0, .dead), (1, .rows 45 2 ((joinIds ids (more.take 0)).map Id.enc) true)] (by repeat (first | exact trivial | refine ⟨.same (congrArg dInt (wrap_up (by omega))), ?_⟩ | refine ⟨.same rfl, ?_⟩ | refine ⟨.any _, ?_⟩)) ⟨trivial, ⟨rfl, rfl, rfl, rfl⟩, trivial⟩ rfl rfl) fun s' h => ⟨0, by omega, h⟩) ?_
  rintro m s ⟨i, him, rfl⟩
  conv => whnf
  repeat (first | (refine Conf.mk (by kernel_rfl) ?_; conv => whnf) | (refine SeqOk.go ?_; conv => whnf))
  have hlen := joinIds_len (more.take i) ids
  have hsn : ∀ hi : i < more.length, joinIds ids (more.take (i + 1)) = if (joinIds ids (more.take i)).any (isId2 more[i]) = true then joinIds ids (more.take i) else joinIds ids (more.take i) ++ [more[i]] := fun hi => by
    rw [take_snoc hi]
    unfold joinIds
    rw [List.foldl_append]
    rfl
  refine ⟨fun h => ?_, fun h => ?_⟩
  · have hi : i < more.length := by simpa using h
    have hsn := hsn hi
    conv => whnf
    repeat (first | (refine Conf.mk (by kernel_rfl) ?_; conv => whnf) | (refine SeqOk.go ?_; conv => whnf))
    refine AtIdx.ofMap hi rfl ?_
    conv => whnf
    repeat (first | (refine Conf.mk (by kernel_rfl) ?_; conv => whnf) | (refine SeqOk.go ?_; conv => whnf))
    rw [List.length_take] at hlen
    refine .look _ _ (containsId_ok more[i] _ (by omega)) rfl rfl ?_
    conv => whnf
    repeat (first | (refine Conf.mk (by kernel_rfl) ?_; conv => whnf) | (refine SeqOk.go ?_; conv => whnf))
    refine ⟨fun h3 => ?_, fun h3 => ?_⟩
    · have h3 : (joinIds ids (more.take i)).any (isId2 more[i]) = false := (Bool.not_eq_true' _).mp h3
      rw [h3, if_neg (by simp)] at hsn
      conv => whnf
      repeat (first | (refine Conf.mk (by kernel_rfl) ?_; conv => whnf) | (refine SeqOk.go ?_; conv => whnf))
      refine ⟨by simp [Id.enc], by simp; omega, ?_⟩
      conv => whnf
      repeat (first | (refine Conf.mk (by kernel_rfl) ?_; conv => whnf) | (refine SeqOk.go ?_; conv => whnf))
      refine Into.mono (Into.to [0, 4] [(9, dInt (i + 1 : Nat)), (8, dInt (more.map Id.enc).length), (7, .dat (.list (more.map Id.enc))), (0, .row 1)] [(0, .dead), (1, .rows 45 2 ((joinIds ids (more.take (i + 1))).map Id.enc) true)] (by repeat (first | exact trivial | refine ⟨.same (congrArg dInt (wrap_up (by omega))), ?_⟩ | refine ⟨.same rfl, ?_⟩ | refine ⟨.any _, ?_⟩)) ⟨trivial, ⟨rfl, rfl, rfl, ?_⟩, trivial⟩ rfl rfl) fun s' h => ⟨m - 1, by omega, i + 1, by omega, h⟩
      rw [hsn, List.map_append]
      rfl
    · have h3 : (joinIds ids (more.take i)).any (isId2 more[i]) = true := (Bool.not_eq_false' (b := (joinIds ids (more.take i)).any (isId2 more[i]))).mp h3
      rw [if_pos h3] at hsn
      conv => whnf
      repeat (first | (refine Conf.mk (by kernel_rfl) ?_; conv => whnf) | (refine SeqOk.go ?_; conv => whnf))
      refine Into.mono (Into.to [0, 1] [(9, dInt (i + 1 : Nat)), (8, dInt (more.map Id.enc).length), (7, .dat (.list (more.map Id.enc))), (0, .row 1)] [(0, .dead), (1, .rows 45 2 ((joinIds ids (more.take (i + 1))).map Id.enc) true)] (by repeat (first | exact trivial | refine ⟨.same (congrArg dInt (wrap_up (by omega))), ?_⟩ | refine ⟨.same rfl, ?_⟩ | refine ⟨.any _, ?_⟩)) ⟨trivial, ⟨rfl, rfl, rfl, ?_⟩, trivial⟩ rfl rfl) fun s' h => ⟨m - 1, by omega, i + 1, by omega, h⟩
      rw [hsn]
  · have hi : more.length ≤ i := by simpa using h
    conv => whnf
    repeat (first | (refine Conf.mk (by kernel_rfl) ?_; conv => whnf) | (refine SeqOk.go ?_; conv => whnf))
    subst hQ1
    conv => whnf
    refine .mk [] [0, 1] (.row 1) [(0, .dead), (1, .rows 45 2 ((joinIds ids more).map Id.enc) true)] rfl (.same rfl) ⟨trivial, ⟨rfl, rfl, rfl, ?_⟩, trivial⟩ rfl rfl ⟨rfl, rfl, rfl⟩
    rw [List.take_of_length_le hi]
end Go.Proofs.YtlioojekjnigiaeGreat.AM
/- Heads, as the document reckons them. -/
namespace Go.Proofs.YtlioojekjnigiaeGreat.AM
set_option linter.unusedVariables false
set_option linter.unusedSimpArgs false

theorem map_encB_set {bs : List Bool} {i : Nat} {b : Bool} : (bs.map Bool.encB).set i [.bool b] = (bs.set i b).map Bool.encB := by
  rw [List.map_set]
  rfl
/-- The first places told already. -/
def tellTo (l : List Entry') (c : Int) (k : Nat) : List Bool := (l.take k).map (fun e => meets e.colors c) ++ List.replicate (l.length - k) false
theorem tellTo_length (l : List Entry') (c : Int) (k : Nat) (hk : k ≤ l.length) : (tellTo l c k).length = l.length := by simp [tellTo]; omega
theorem set_mid {α : Type} {A B : List α} {x y : α} {k : Nat} (h : A.length = k) : (A ++ x :: B).set k y = A ++ y :: B := by
  subst h
  rw [List.set_append_right _ _ (Nat.le_refl _), Nat.sub_self]
  rfl
theorem tellTo_snoc {l : List Entry'} {c : Int} {k : Nat} (hk : k < l.length) : tellTo l c (k + 1) = (tellTo l c k).set k (meets l[k].colors c) := by
  unfold tellTo
  rw [show l.length - k = (l.length - (k + 1)) + 1 by omega, List.replicate_succ, set_mid (by simp; omega), take_snoc hk, List.map_append, List.append_assoc]
  rfl
theorem tellTo_all (l : List Entry') (c : Int) : tellTo l c l.length = headB l c 0 := by simp [tellTo, headB]
/-- Places of a past taken away, the first ones already. -/
def offTo (a b : List Bool) (k : Nat) : List Bool := List.zipWith (fun a b => a && !b) (a.take k) (b.take k) ++ a.drop k
theorem offTo_length {a b : List Bool} {k : Nat} (h : a.length = b.length) (hk : k ≤ a.length) : (offTo a b k).length = a.length := by simp [offTo]; omega
theorem offTo_snoc {a b : List Bool} {k : Nat} (h : a.length = b.length) (hk : k < a.length) : offTo a b (k + 1) = (offTo a b k).set k (a[k] && !b[k]) := by
  unfold offTo
  rw [take_snoc hk, take_snoc (l := b) (by omega), List.zipWith_append (by simp; omega), List.drop_eq_getElem_cons hk, set_mid (by simp; omega), List.append_assoc]
  rfl
theorem offTo_get {a b : List Bool} {k : Nat} (h : a.length = b.length) (hk : k < a.length) : (offTo a b k)[k]? = some a[k] := by
  unfold offTo
  rw [List.getElem?_append_right (by simp; omega)]
  simp only [List.length_zipWith, List.length_take]
  rw [show k - min (min k a.length) (min k b.length) = 0 by omega, List.getElem?_drop]
  simp [hk]
theorem offTo_all {a b : List Bool} (h : a.length = b.length) : offTo a b a.length = List.zipWith (fun a b => a && !b) a b := by
  unfold offTo
  rw [List.take_of_length_le (Nat.le_refl _), List.take_of_length_le (by omega), List.drop_of_length_le (Nat.le_refl _), List.append_nil]
end Go.Proofs.YtlioojekjnigiaeGreat.AM
/- Ids sorted. -/
namespace Go.Proofs.YtlioojekjnigiaeGreat.AM
open Go.Shelf Go.RowKit Go.Lib Go.Sort
set_option linter.unusedVariables false
set_option linter.unusedSimpArgs false

def sortIdLay_ren : Go.Shelf.Ren := ⟨fun | 6 => 94 | 15 => 98 | 14 => 113 | 28 => 122 | 29 => 123 | 20 => 129 | 21 => 130 | 22 => 131 | 23 => 132 | 24 => 133 | 25 => 134 | 26 => 135 | 27 => 136 | 46 => 143 | 47 => 138 | 48 => 139 | 49 => 144 | 50 => 145 | 57 => 148 | n => n, fun | 22 => 46 | 24 => 45 | 25 => 131 | 3 => 3 | 39 => 135 | 0 => 0 | 53 => 151 | 55 => 153 | 4 => 4 | 46 => 144 | 45 => 143 | 50 => 148 | 5 => 5 | 9 => 9 | 66 => 164 | 70 => 168 | 76 => 172 | 77 => 173 | n => n, fun | n => n⟩
theorem sortIdLay : Go.Proofs.SlLaysF0.n6 Tryz.prog sortIdLay_ren := {
  mixed := by kernel_rfl
  f6 := ⟨Tryz.f94.name, by decide, Tryz.func94.trans (congrArg some (by kernel_rfl))⟩
  f14 := ⟨Tryz.f113.name, by decide, Tryz.func113.trans (congrArg some (by kernel_rfl))⟩
  f15 := Tryz.func98.trans (congrArg some (by kernel_rfl))
  f20 := ⟨Tryz.f129.name, by decide, Tryz.func129.trans (congrArg some (by kernel_rfl))⟩
  f21 := ⟨Tryz.f130.name, by decide, Tryz.func130.trans (congrArg some (by kernel_rfl))⟩
  f22 := ⟨Tryz.f131.name, by decide, Tryz.func131.trans (congrArg some (by kernel_rfl))⟩
  f23 := ⟨Tryz.f132.name, by decide, Tryz.func132.trans (congrArg some (by kernel_rfl))⟩
  f24 := ⟨Tryz.f133.name, by decide, Tryz.func133.trans (congrArg some (by kernel_rfl))⟩
  f25 := ⟨Tryz.f134.name, by decide, Tryz.func134.trans (congrArg some (by kernel_rfl))⟩
  f26 := ⟨Tryz.f135.name, by decide, Tryz.func135.trans (congrArg some (by kernel_rfl))⟩
  f27 := ⟨Tryz.f136.name, by decide, Tryz.func136.trans (congrArg some (by kernel_rfl))⟩
  f28 := Tryz.func122.trans (congrArg some (by kernel_rfl))
  f29 := Tryz.func123.trans (congrArg some (by kernel_rfl))
  f46 := ⟨Tryz.f143.name, by decide, Tryz.func143.trans (congrArg some (by kernel_rfl))⟩
  f47 := Tryz.func138.trans (congrArg some (by kernel_rfl))
  f48 := Tryz.func139.trans (congrArg some (by kernel_rfl))
  f49 := ⟨Tryz.f144.name, by decide, Tryz.func144.trans (congrArg some (by kernel_rfl))⟩
  f50 := ⟨Tryz.f145.name, by decide, Tryz.func145.trans (congrArg some (by kernel_rfl))⟩
  f57 := ⟨Tryz.f148.name, by decide, Tryz.func148.trans (congrArg some (by kernel_rfl))⟩
  t0 := Tryz.underlying0
  a0 := Tryz.isAgg0
  z0 := Tryz.sizeOf0
  v0 := Tryz.zeroValue0
  t3 := Tryz.underlying3
  a3 := Tryz.isAgg3
  z3 := Tryz.sizeOf3
  v3 := Tryz.zeroValue3
  t4 := Tryz.underlying4
  a4 := Tryz.isAgg4
  z4 := Tryz.sizeOf4
  v4 := Tryz.zeroValue4
  t5 := Tryz.underlying5
  a5 := Tryz.isAgg5
  z5 := Tryz.sizeOf5
  v5 := Tryz.zeroValue5
  t9 := Tryz.underlying9
  a9 := Tryz.isAgg9
  z9 := Tryz.sizeOf9
  v9 := Tryz.zeroValue9
  t22 := Tryz.underlying46
  a22 := Tryz.isAgg46
  z22 := Tryz.sizeOf46
  v22 := Tryz.zeroValue46
  t25 := Tryz.underlying131
  a25 := Tryz.isAgg131
  z25 := Tryz.sizeOf131
  v25 := Tryz.zeroValue131
  t39 := Tryz.underlying135
  a39 := Tryz.isAgg135
  z39 := Tryz.sizeOf135
  v39 := Tryz.zeroValue135
  t45 := Tryz.underlying143
  a45 := Tryz.isAgg143
  z45 := Tryz.sizeOf143
  v45 := Tryz.zeroValue143
  t46 := Tryz.underlying144
  a46 := Tryz.isAgg144
  z46 := Tryz.sizeOf144
  v46 := Tryz.zeroValue144
  t50 := Tryz.underlying148
  a50 := Tryz.isAgg148
  z50 := Tryz.sizeOf148
  v50 := Tryz.zeroValue148
  t53 := Tryz.underlying151
  a53 := Tryz.isAgg151
  z53 := Tryz.sizeOf151
  v53 := Tryz.zeroValue151
  t55 := Tryz.underlying153
  a55 := Tryz.isAgg153
  z55 := Tryz.sizeOf153
  v55 := Tryz.zeroValue153
  t66 := Tryz.underlying164
  a66 := Tryz.isAgg164
  z66 := Tryz.sizeOf164
  v66 := Tryz.zeroValue164
  t70 := Tryz.underlying168
  a70 := Tryz.isAgg168
  z70 := Tryz.sizeOf168
  v70 := Tryz.zeroValue168
  t76 := Tryz.underlying172
  a76 := Tryz.isAgg172
  z76 := Tryz.sizeOf172
  v76 := Tryz.zeroValue172
  t77 := Tryz.underlying173
  a77 := Tryz.isAgg173
  z77 := Tryz.sizeOf173
  v77 := Tryz.zeroValue173 }
def Id.vals (x : Id) : List Value := [.int .i64 x.r, .int .i64 x.n]
instance : Inhabited Id := ⟨⟨0, 0⟩⟩
def cmpId (x y : Id) : Int := if x.less y then -1 else if y.less x then 1 else 0
set_option maxHeartbeats 2000000 in
theorem less_any (x y : Id) (W : World) : Calls Tryz.prog 84 #[.agg #[.int .i64 x.r, .int .i64 x.n], .agg #[.int .i64 y.r, .int .i64 y.n]] W fun e w' => e = .returned (.bool (x.less y)) ∧ ∃ q os', w' = grow (W.drewN q) os' := by
  have hl : x.less y = if x.r = y.r then decide (x.n < y.n) else decide (x.r < y.r) := rfl
  by_cases h : x.r = y.r
  · rw [if_pos h] at hl
    rw [hl, h]
    go_enter Tryz.func84, Tryz.ntmps84
    go_wp2
    go_ret
    exact ⟨rfl, 0, _, by rw [alloc_eq_grow, alloc_eq_grow, grow_grow]; rfl⟩
  · rw [if_neg h] at hl
    rw [hl]
    go_enter Tryz.func84, Tryz.ntmps84
    go_wp2
    go_ret
    exact ⟨rfl, 0, _, by rw [alloc_eq_grow, alloc_eq_grow, grow_grow]; rfl⟩
theorem drewN_grow (w : World) (a b : Nat) (os os' : Array Obj) : grow ((grow (w.drewN a) os).drewN b) os' = grow (w.drewN (a + b)) (os ++ os') := by
  show grow (grow ((w.drewN a).drewN b) os) os' = _
  rw [grow_grow]
  unfold World.drewN
  simp only [Nat.add_assoc]
theorem alloc_two (w : World) (o o2 : Obj) : (w.alloc o).alloc o2 = grow (w.drewN 0) (#[o] ++ #[o2]) := by rw [alloc_eq_grow, alloc_eq_grow, grow_grow]; rfl
theorem drewN_cell (w : World) (q : Nat) (os : Array Obj) {a : Addr} {v : Value} (h : w.cell? a = some v) : (grow (w.drewN q) os).cell? a = some v := by
  have h2 : a.block < w.heap.size := by
    unfold World.cell? at h
    split at h
    · rename_i hb; exact (Array.getElem?_eq_some_iff.1 hb).1
    · cases h
  rw [← h]
  unfold World.cell?
  show (match ((w.heap ++ os)[a.block]? : Option Obj) with | some (.cells c _ _) => if a.spot.isSome then none else c[a.off]? | _ => none) = _
  rw [Array.getElem?_append_left h2]
  rfl
theorem two_first (W : World) (o o2 : Obj) : ((W.alloc o).alloc o2).heap[W.heap.size]? = some o := by
  rw [alloc_two]
  show (W.heap ++ (#[o] ++ #[o2]))[W.heap.size]? = _
  rw [Array.getElem?_append_right (Nat.le_refl _)]
  simp
theorem two_second (W : World) (o o2 : Obj) : ((W.alloc o).alloc o2).heap[W.heap.size + 1]? = some o2 := by
  rw [alloc_two]
  show (W.heap ++ (#[o] ++ #[o2]))[W.heap.size + 1]? = _
  rw [Array.getElem?_append_right (by omega)]
  simp
set_option maxHeartbeats 2000000 in
theorem compare_any (x y : Id) (W : World) : Calls Tryz.prog 95 #[.agg #[.int .i64 x.r, .int .i64 x.n], .agg #[.int .i64 y.r, .int .i64 y.n]] W fun e w' => e = .returned (.int .i64 (cmpId x y)) ∧ ∃ q os', w' = grow (W.drewN q) os' := by
  have hc : cmpId x y = if x.less y then -1 else if y.less x then 1 else 0 := rfl
  generalize cmpId x y = c at hc
  by_cases h1 : x.less y = true
  · rw [if_pos h1] at hc
    subst hc
    go_enter Tryz.func95, Tryz.ntmps95
    go_wp2_with fail
    refine (less_any x y _).mono ?_
    rintro e w1 ⟨rfl, q1, os1, rfl⟩
    go_wp2
    go_ret
    exact ⟨rfl, _, _, by rw [alloc_two, drewN_grow]⟩
  · rw [if_neg h1] at hc
    have h1 : x.less y = false := by simpa using h1
    have hc0 := hc
    clear hc
    have go : ∀ (b : Bool), y.less x = b → c = (if b = true then 1 else 0) → Calls Tryz.prog 95 #[.agg #[.int .i64 x.r, .int .i64 x.n], .agg #[.int .i64 y.r, .int .i64 y.n]] W fun e w' => e = .returned (.int .i64 c) ∧ ∃ q os', w' = grow (W.drewN q) os' := fun b hb hc => by
      clear hc0
      cases b
      · have hc' : c = 0 := by simpa using hc
        clear hc
        subst hc'
        go_enter Tryz.func95, Tryz.ntmps95
        go_wp2_with fail
        refine (less_any x y _).mono ?_
        rintro e w1 ⟨rfl, q1, os1, hw0⟩
        have cell : ∀ (j : Nat) (v : Value), ([Value.int .i64 x.r, .int .i64 x.n] : List Value)[j]? = some v → w1.cell? ⟨W.heap.size, j, none⟩ = some v := fun j v hv => by
          rw [hw0]
          refine drewN_cell _ _ _ ?_
          unfold World.cell?
          have : ((W.alloc (.cells #[Value.int .i64 x.r, .int .i64 x.n] 45)).alloc (.cells #[Value.int .i64 y.r, .int .i64 y.n] 45)).heap[W.heap.size]? = some (.cells #[Value.int .i64 x.r, .int .i64 x.n] 45 (0, 0)) := two_first W _ _
          rw [this]
          simpa using hv
        have cell' : ∀ (j : Nat) (v : Value), ([Value.int .i64 y.r, .int .i64 y.n] : List Value)[j]? = some v → w1.cell? ⟨W.heap.size + 1, j, none⟩ = some v := fun j v hv => by
          rw [hw0]
          refine drewN_cell _ _ _ ?_
          unfold World.cell?
          have : ((W.alloc (.cells #[Value.int .i64 x.r, .int .i64 x.n] 45)).alloc (.cells #[Value.int .i64 y.r, .int .i64 y.n] 45)).heap[W.heap.size + 1]? = some (.cells #[Value.int .i64 y.r, .int .i64 y.n] 45 (0, 0)) := two_second W _ _
          rw [this]
          simpa using hv
        have c0 := cell 0 _ rfl
        have c1 := cell 1 _ rfl
        have d0 := cell' 0 _ rfl
        have d1 := cell' 1 _ rfl
        clear cell cell'
        have hw : w1 = grow (W.drewN (0 + q1)) ((#[Obj.cells #[Value.int .i64 x.r, .int .i64 x.n] 45] ++ #[Obj.cells #[Value.int .i64 y.r, .int .i64 y.n] 45]) ++ os1) := by rw [hw0, alloc_two, drewN_grow]
        have hw2 : ∃ q os', w1 = grow (W.drewN q) os' := ⟨_, _, hw⟩
        clear hw hw0
        go_wp2_with fail
        refine (less_any y x _).mono ?_
        rintro e w2 ⟨rfl, q2, os2, hw3⟩
        have hw4 : ∃ q os', w2 = grow (W.drewN q) os' := by
          obtain ⟨q, os', rfl⟩ := hw2
          exact ⟨_, _, hw3.trans (drewN_grow _ _ _ _ _)⟩
        clear hw3 hw2 c0 c1 d0 d1
        rw [hb]
        go_wp2
        go_ret
        exact ⟨rfl, hw4⟩
      · have hc' : c = 1 := by simpa using hc
        clear hc
        subst hc'
        go_enter Tryz.func95, Tryz.ntmps95
        go_wp2_with fail
        refine (less_any x y _).mono ?_
        rintro e w1 ⟨rfl, q1, os1, hw0⟩
        have cell : ∀ (j : Nat) (v : Value), ([Value.int .i64 x.r, .int .i64 x.n] : List Value)[j]? = some v → w1.cell? ⟨W.heap.size, j, none⟩ = some v := fun j v hv => by
          rw [hw0]
          refine drewN_cell _ _ _ ?_
          unfold World.cell?
          have : ((W.alloc (.cells #[Value.int .i64 x.r, .int .i64 x.n] 45)).alloc (.cells #[Value.int .i64 y.r, .int .i64 y.n] 45)).heap[W.heap.size]? = some (.cells #[Value.int .i64 x.r, .int .i64 x.n] 45 (0, 0)) := two_first W _ _
          rw [this]
          simpa using hv
        have cell' : ∀ (j : Nat) (v : Value), ([Value.int .i64 y.r, .int .i64 y.n] : List Value)[j]? = some v → w1.cell? ⟨W.heap.size + 1, j, none⟩ = some v := fun j v hv => by
          rw [hw0]
          refine drewN_cell _ _ _ ?_
          unfold World.cell?
          have : ((W.alloc (.cells #[Value.int .i64 x.r, .int .i64 x.n] 45)).alloc (.cells #[Value.int .i64 y.r, .int .i64 y.n] 45)).heap[W.heap.size + 1]? = some (.cells #[Value.int .i64 y.r, .int .i64 y.n] 45 (0, 0)) := two_second W _ _
          rw [this]
          simpa using hv
        have c0 := cell 0 _ rfl
        have c1 := cell 1 _ rfl
        have d0 := cell' 0 _ rfl
        have d1 := cell' 1 _ rfl
        clear cell cell'
        have hw : w1 = grow (W.drewN (0 + q1)) ((#[Obj.cells #[Value.int .i64 x.r, .int .i64 x.n] 45] ++ #[Obj.cells #[Value.int .i64 y.r, .int .i64 y.n] 45]) ++ os1) := by rw [hw0, alloc_two, drewN_grow]
        have hw2 : ∃ q os', w1 = grow (W.drewN q) os' := ⟨_, _, hw⟩
        clear hw hw0
        go_wp2_with fail
        refine (less_any y x _).mono ?_
        rintro e w2 ⟨rfl, q2, os2, hw3⟩
        have hw4 : ∃ q os', w2 = grow (W.drewN q) os' := by
          obtain ⟨q, os', rfl⟩ := hw2
          exact ⟨_, _, hw3.trans (drewN_grow _ _ _ _ _)⟩
        clear hw3 hw2 c0 c1 d0 d1
        rw [hb]
        go_wp2
        go_ret
        exact ⟨rfl, hw4⟩
    exact go _ rfl hc0
theorem ltOf_cmpId (x y : Id) : ltOf cmpId x y = x.less y := by
  unfold ltOf cmpId
  cases h : x.less y
  · cases k : y.less x <;> simp
  · simp
theorem swo_cmpId : SWO (ltOf cmpId) where
  irrefl x := by rw [ltOf_cmpId]; exact less_irrefl x
  trans x y z h1 h2 := by rw [ltOf_cmpId] at *; exact less_trans h1 h2
  ntrans x y z h1 h2 := by
    rw [ltOf_cmpId] at *
    rw [Bool.eq_false_iff] at *
    rw [ne_eq, less_iff] at *
    omega
theorem sortFunc_ok (ids : List Id) (h : ids.length ≤ 1000) : ECall Tryz.prog 94 [.row 0, .fn (.func 95) [] []] [(0, .rows 45 2 (ids.map Id.enc) true)] 1 (.tup []) [(0, .rows 45 2 ((sortIds ids).map Id.enc) true)] 0 := by
  have eg : ∀ args w, (callFunc 95 args).run Tryz.prog w = .ok (.enter 95 args) w := enters_of Tryz.func95 (by kernel_rfl) rfl
  have hs : (fun x y => !(ltOf cmpId) y x) = lessLe := funext fun x => funext fun y => by rw [ltOf_cmpId]; rfl
  refine acall_sort (k := 2) (dEnc := Id.enc) (enc := Id.vals) (by decide) (fun _ => rfl) (fun _ => rfl) (fun A x j v d hd hr => ?_) (fun A x j v d hd hv => ?_) (by kernel_rfl) ids (sortIds ids) (sortIds_len ids) (fun p cap w _ => ?_) fun b cap w hH hb => ?_
  · match j with
    | 0 => obtain rfl : D.int .i64 x.r = d := by simpa [Id.enc] using hd
           cases hr; rfl
    | 1 => obtain rfl : D.int .i64 x.n = d := by simpa [Id.enc] using hd
           cases hr; rfl
    | j + 2 => simp [Id.enc] at hd
  · match j with
    | 0 => obtain rfl : D.int .i64 x.r = d := by simpa [Id.enc] using hd
           obtain rfl : Value.int .i64 x.r = v := by simpa [Id.vals] using hv
           exact .int _ _
    | 1 => obtain rfl : D.int .i64 x.n = d := by simpa [Id.enc] using hd
           obtain rfl : Value.int .i64 x.n = v := by simpa [Id.vals] using hv
           exact .int _ _
    | j + 2 => simp [Id.enc] at hd
  · exact AnyF.slices_SortFunc_none { sortIdLay with } p cap _ w
  · have := AnyQ.slices_SortFunc_total sortIdLay 2 Tryz.isAgg45 Tryz.sizeOf45 Id.vals (fun _ => rfl) (fun x v hv => by simp [Id.vals] at hv; rcases hv with rfl | rfl <;> rfl) cmpId swo_cmpId 95 #[] b 0 cap ids.toArray w eg (fun _ _ _ _ x y => compare_any x y _) hH hb (by simp; omega) (fun x y h1 h2 => by rw [ltOf_cmpId] at *; exact less_total h1 h2)
    rw [hs, mergeSort_eq] at this
    exact this
end Go.Proofs.YtlioojekjnigiaeGreat.AM
/- Pasts, heads and counts, as the program reckons them. -/
namespace Go.Proofs.YtlioojekjnigiaeGreat.AM
set_option linter.unusedVariables false
set_option linter.unusedSimpArgs false

theorem drop_last {α : Type} {l : List α} {k : Nat} (hk : k < l.length) : l.drop (l.length - (k + 1)) = l[l.length - 1 - k] :: l.drop (l.length - k) := by
  rw [show l.length - (k + 1) = l.length - 1 - k by omega, List.drop_eq_getElem_cons (by omega), show l.length - 1 - k + 1 = l.length - k by omega]
theorem pastFold_len (p : Entry' → Bool) : ∀ {l : List Entry'}, (∀ e ∈ l, e.links.length ≤ 6) → (pastFold p l).length ≤ 6 * l.length
  | [], _ => Nat.le_refl _
  | e :: t, h => by
    have ih := pastFold_len p (l := t) fun x hx => h x (by simp [hx])
    have h6 := h e (by simp)
    unfold pastFold
    split
    · have := joinIds_len e.links (pastFold p t)
      simp only [List.length_cons]
      omega
    · simp only [List.length_cons]
      omega
set_option maxHeartbeats 0 in
theorem pastOf_ok {cl : Nat} {ds : List D} {p : Entry' → Bool} (l : List Entry') (hl : l.length ≤ 40) (h6 : ∀ e ∈ l, e.links.length ≤ 6) (hcl : ∀ e ∈ l, PCall Tryz.prog cl [e.arg, .dat (.ptr ds)] (dBool (p e))) :
    PCall Tryz.prog 68 [.dat (.list (l.map Entry'.enc)), .fn (.func cl) [] [.dat (.ptr ds)]] (.dat (.list ((sortIds (pastFold p l)).map Id.enc))) := by
  refine pcall_intro tab_all tab_mixed Tryz.func68 (by kernel_rfl) Tryz.ntmps68 rfl ?_
  conv => whnf
  refine LoopOk.hide fun Q1 hQ1 => ?_
  refine LoopOk.mk (fun m s => ∃ k, k + m = l.length ∧ s = ⟨[(6, dInt ((l.length : Int) - 1 - k)), (0, .dat (.list (l.map Entry'.enc))), (1, .fn (.func cl) [] [.dat (.ptr ds)]), (5, .row 0)], 1, [(0, .rows 45 2 ((pastFold p (l.drop (l.length - k))).map Id.enc) true)]⟩) l.length ((Into.row 5 45 2 rfl).trans fun s' hs' => by
    subst hs'
    exact Into.mono (Into.to [0] [(6, dInt ((l.length : Int) - 1 - (0 : Nat))), (0, .dat (.list (l.map Entry'.enc))), (1, .fn (.func cl) [] [.dat (.ptr ds)]), (5, .row 0)] [(0, .rows 45 2 ((pastFold p (l.drop (l.length - 0))).map Id.enc) true)] ⟨.same (congrArg dInt (by rw [wrap_id (by simp; omega) (by simp; omega)]; simp)), .same rfl, .same rfl, .same rfl, trivial⟩ ⟨⟨rfl, rfl, rfl, by rw [List.drop_of_length_le (by omega)]; rfl⟩, trivial⟩ rfl rfl) fun s' h => ⟨0, by omega, h⟩) ?_
  rintro m s ⟨k, hk, rfl⟩
  conv => whnf
  repeat (first | (refine Conf.mk (by kernel_rfl) ?_; conv => whnf) | (refine SeqOk.go ?_; conv => whnf))
  refine ⟨fun h => ?_, fun h => ?_⟩
  · have hk' : k < l.length := by simp at h; omega
    have hsub : ((l.length : Int) - 1 - k) = ((l.length - 1 - k : Nat) : Int) := by omega
    have hlt : l.length - 1 - k < l.length := by omega
    have hfl := pastFold_len p (l := l.drop (l.length - k)) fun e he => h6 e (List.mem_of_mem_drop he)
    rw [List.length_drop] at hfl
    have hst : pastFold p (l.drop (l.length - (k + 1))) = if p l[l.length - 1 - k] || (pastFold p (l.drop (l.length - k))).any (isId2 l[l.length - 1 - k].id) then joinIds (pastFold p (l.drop (l.length - k))) l[l.length - 1 - k].links else pastFold p (l.drop (l.length - k)) := by
      rw [drop_last hk']
      rfl
    conv => whnf
    repeat (first | (refine Conf.mk (by kernel_rfl) ?_; conv => whnf) | (refine SeqOk.go ?_; conv => whnf))
    refine AtIdx.ofMap' _ hsub hlt rfl ?_
    conv => whnf
    repeat (first | (refine Conf.mk (by kernel_rfl) ?_; conv => whnf) | (refine SeqOk.go ?_; conv => whnf))
    refine .look _ _ (hcl _ (List.getElem_mem hlt)) rfl rfl ?_
    conv => whnf
    repeat (first | (refine Conf.mk (by kernel_rfl) ?_; conv => whnf) | (refine SeqOk.go ?_; conv => whnf))
    refine ⟨fun h3 => ?_, fun h3 => ?_⟩
    · have hc : (p l[l.length - 1 - k] || (pastFold p (l.drop (l.length - k))).any (isId2 l[l.length - 1 - k].id)) = true := by rw [h3]; rfl
      conv => whnf
      repeat (first | (refine Conf.mk (by kernel_rfl) ?_; conv => whnf) | (refine SeqOk.go ?_; conv => whnf))
      refine AtIdx.ofMap' _ hsub hlt rfl ?_
      conv => whnf
      repeat (first | (refine Conf.mk (by kernel_rfl) ?_; conv => whnf) | (refine SeqOk.go ?_; conv => whnf))
      refine .eff [0] _ _ _ _ 1 (join_ok _ _ (by omega) (by have := h6 _ (List.getElem_mem hlt); omega)) rfl rfl rfl rfl rfl ?_
      conv => whnf
      repeat (first | (refine Conf.mk (by kernel_rfl) ?_; conv => whnf) | (refine SeqOk.go ?_; conv => whnf))
      refine Into.mono (Into.to [1] [(6, dInt ((l.length : Int) - 1 - (k + 1 : Nat))), (0, .dat (.list (l.map Entry'.enc))), (1, .fn (.func cl) [] [.dat (.ptr ds)]), (5, .row 0)] [(0, .rows 45 2 ((pastFold p (l.drop (l.length - (k + 1)))).map Id.enc) true)] ⟨.same (congrArg dInt (by rw [wrap_id (by omega) (by omega)]; omega)), .same rfl, .same rfl, .same rfl, trivial⟩ ⟨⟨rfl, rfl, rfl, ?_⟩, trivial⟩ rfl rfl) fun s' h => ⟨m - 1, by omega, k + 1, by omega, h⟩
      rw [hst, if_pos hc]
    · conv => whnf
      repeat (first | (refine Conf.mk (by kernel_rfl) ?_; conv => whnf) | (refine SeqOk.go ?_; conv => whnf))
      refine AtIdx.ofMap' _ hsub hlt rfl ?_
      conv => whnf
      repeat (first | (refine Conf.mk (by kernel_rfl) ?_; conv => whnf) | (refine SeqOk.go ?_; conv => whnf))
      refine .look _ _ (containsId_ok l[l.length - 1 - k].id (pastFold p (l.drop (l.length - k))) (by omega)) rfl rfl ?_
      conv => whnf
      repeat (first | (refine Conf.mk (by kernel_rfl) ?_; conv => whnf) | (refine SeqOk.go ?_; conv => whnf))
      refine ⟨fun h4 => ?_, fun h4 => ?_⟩
      · have hc : (p l[l.length - 1 - k] || (pastFold p (l.drop (l.length - k))).any (isId2 l[l.length - 1 - k].id)) = true := by rw [h3, h4]; rfl
        conv => whnf
        repeat (first | (refine Conf.mk (by kernel_rfl) ?_; conv => whnf) | (refine SeqOk.go ?_; conv => whnf))
        refine AtIdx.ofMap' _ hsub hlt rfl ?_
        conv => whnf
        repeat (first | (refine Conf.mk (by kernel_rfl) ?_; conv => whnf) | (refine SeqOk.go ?_; conv => whnf))
        refine .eff [0] _ _ _ _ 1 (join_ok _ _ (by omega) (by have := h6 _ (List.getElem_mem hlt); omega)) rfl rfl rfl rfl rfl ?_
        conv => whnf
        repeat (first | (refine Conf.mk (by kernel_rfl) ?_; conv => whnf) | (refine SeqOk.go ?_; conv => whnf))
        refine Into.mono (Into.to [1] [(6, dInt ((l.length : Int) - 1 - (k + 1 : Nat))), (0, .dat (.list (l.map Entry'.enc))), (1, .fn (.func cl) [] [.dat (.ptr ds)]), (5, .row 0)] [(0, .rows 45 2 ((pastFold p (l.drop (l.length - (k + 1)))).map Id.enc) true)] ⟨.same (congrArg dInt (by rw [wrap_id (by omega) (by omega)]; omega)), .same rfl, .same rfl, .same rfl, trivial⟩ ⟨⟨rfl, rfl, rfl, ?_⟩, trivial⟩ rfl rfl) fun s' h => ⟨m - 1, by omega, k + 1, by omega, h⟩
        rw [hst, if_pos hc]
      · conv => whnf
        repeat (first | (refine Conf.mk (by kernel_rfl) ?_; conv => whnf) | (refine SeqOk.go ?_; conv => whnf))
        refine Into.mono (Into.to [0] [(6, dInt ((l.length : Int) - 1 - (k + 1 : Nat))), (0, .dat (.list (l.map Entry'.enc))), (1, .fn (.func cl) [] [.dat (.ptr ds)]), (5, .row 0)] [(0, .rows 45 2 ((pastFold p (l.drop (l.length - (k + 1)))).map Id.enc) true)] ⟨.same (congrArg dInt (by rw [wrap_id (by omega) (by omega)]; omega)), .same rfl, .same rfl, .same rfl, trivial⟩ ⟨⟨rfl, rfl, rfl, ?_⟩, trivial⟩ rfl rfl) fun s' h => ⟨m - 1, by omega, k + 1, by omega, h⟩
        rw [hst, if_neg (by rw [h3, h4]; simp)]
  · have hk' : k = l.length := by simp at h; omega
    subst hk'
    conv => whnf
    repeat (first | (refine Conf.mk (by kernel_rfl) ?_; conv => whnf) | (refine SeqOk.go ?_; conv => whnf))
    subst hQ1
    conv => whnf
    have hfl := pastFold_len p h6
    rw [show l.length - l.length = 0 by omega, List.drop_zero]
    refine .eff [0] _ _ _ _ 0 (sortFunc_ok _ (by omega)) rfl rfl rfl rfl rfl ?_
    conv => whnf
    repeat (first | (refine Conf.mk (by kernel_rfl) ?_; conv => whnf) | (refine SeqOk.go ?_; conv => whnf))
    exact Ret.to rfl
set_option maxHeartbeats 0 in
theorem idsOf_ok {cl : Nat} {d1 d2 : List D} {p : Entry' → Bool} (l : List Entry') (hl : l.length ≤ 40) (hcl : ∀ e ∈ l, PCall Tryz.prog cl [e.arg, .dat (.ptr d1), .dat (.ptr d2)] (dBool (p e))) :
    PCall Tryz.prog 111 [.dat (.list (l.map Entry'.enc)), .fn (.func cl) [] [.dat (.ptr d1), .dat (.ptr d2)]] (.dat (.list ((sortIds ((l.filter p).map (·.id))).map Id.enc))) := by
  refine pcall_intro tab_all tab_mixed Tryz.func111 (by kernel_rfl) Tryz.ntmps111 rfl ?_
  conv => whnf
  refine LoopOk.hide fun Q1 hQ1 => ?_
  refine LoopOk.mk (fun m s => ∃ k, k + m = l.length ∧ s = ⟨[(10, dInt k), (9, dInt (l.map Entry'.enc).length), (8, .dat (.list (l.map Entry'.enc))), (1, .fn (.func cl) [] [.dat (.ptr d1), .dat (.ptr d2)]), (5, .row 0)], 1, [(0, .rows 45 2 ((((l.take k).filter p).map (·.id)).map Id.enc) true)]⟩) l.length ((Into.row 5 45 2 rfl).trans fun s' hs' => by
    subst hs'
    exact Into.mono (Into.to [0] [(10, dInt (0 : Nat)), (9, dInt (l.map Entry'.enc).length), (8, .dat (.list (l.map Entry'.enc))), (1, .fn (.func cl) [] [.dat (.ptr d1), .dat (.ptr d2)]), (5, .row 0)] [(0, .rows 45 2 ((((l.take 0).filter p).map (·.id)).map Id.enc) true)] (by repeat (first | exact trivial | refine ⟨.same (congrArg dInt (wrap_up (by omega))), ?_⟩ | refine ⟨.same rfl, ?_⟩ | refine ⟨.any _, ?_⟩)) ⟨⟨rfl, rfl, rfl, rfl⟩, trivial⟩ rfl rfl) fun s' h => ⟨0, by omega, h⟩) ?_
  rintro m s ⟨k, hk, rfl⟩
  conv => whnf
  repeat (first | (refine Conf.mk (by kernel_rfl) ?_; conv => whnf) | (refine SeqOk.go ?_; conv => whnf))
  refine ⟨fun h => ?_, fun h => ?_⟩
  · have hk' : k < l.length := by simpa using h
    have hst := filter_snoc p (List.getElem?_eq_getElem hk')
    have hfl := List.length_filter_le p (l.take k)
    rw [List.length_take] at hfl
    conv => whnf
    repeat (first | (refine Conf.mk (by kernel_rfl) ?_; conv => whnf) | (refine SeqOk.go ?_; conv => whnf))
    refine AtIdx.ofMap hk' rfl ?_
    conv => whnf
    repeat (first | (refine Conf.mk (by kernel_rfl) ?_; conv => whnf) | (refine SeqOk.go ?_; conv => whnf))
    refine .look _ _ (hcl _ (List.getElem_mem hk')) rfl rfl ?_
    conv => whnf
    repeat (first | (refine Conf.mk (by kernel_rfl) ?_; conv => whnf) | (refine SeqOk.go ?_; conv => whnf))
    refine ⟨fun h3 => ?_, fun h3 => ?_⟩
    · rw [if_pos h3] at hst
      conv => whnf
      repeat (first | (refine Conf.mk (by kernel_rfl) ?_; conv => whnf) | (refine SeqOk.go ?_; conv => whnf))
      refine ⟨by simp [Id.enc], by simp; omega, ?_⟩
      conv => whnf
      repeat (first | (refine Conf.mk (by kernel_rfl) ?_; conv => whnf) | (refine SeqOk.go ?_; conv => whnf))
      refine Into.mono (Into.to [3] [(10, dInt (k + 1 : Nat)), (9, dInt (l.map Entry'.enc).length), (8, .dat (.list (l.map Entry'.enc))), (1, .fn (.func cl) [] [.dat (.ptr d1), .dat (.ptr d2)]), (5, .row 0)] [(0, .rows 45 2 ((((l.take (k + 1)).filter p).map (·.id)).map Id.enc) true)] (by repeat (first | exact trivial | refine ⟨.same (congrArg dInt (wrap_up (by omega))), ?_⟩ | refine ⟨.same rfl, ?_⟩ | refine ⟨.any _, ?_⟩)) ⟨⟨rfl, rfl, rfl, ?_⟩, trivial⟩ rfl rfl) fun s' h => ⟨m - 1, by omega, k + 1, by omega, h⟩
      rw [hst, List.map_append, List.map_append]
      rfl
    · rw [if_neg (by simp [h3]), List.append_nil] at hst
      conv => whnf
      repeat (first | (refine Conf.mk (by kernel_rfl) ?_; conv => whnf) | (refine SeqOk.go ?_; conv => whnf))
      refine Into.mono (Into.to [0] [(10, dInt (k + 1 : Nat)), (9, dInt (l.map Entry'.enc).length), (8, .dat (.list (l.map Entry'.enc))), (1, .fn (.func cl) [] [.dat (.ptr d1), .dat (.ptr d2)]), (5, .row 0)] [(0, .rows 45 2 ((((l.take (k + 1)).filter p).map (·.id)).map Id.enc) true)] (by repeat (first | exact trivial | refine ⟨.same (congrArg dInt (wrap_up (by omega))), ?_⟩ | refine ⟨.same rfl, ?_⟩ | refine ⟨.any _, ?_⟩)) ⟨⟨rfl, rfl, rfl, ?_⟩, trivial⟩ rfl rfl) fun s' h => ⟨m - 1, by omega, k + 1, by omega, h⟩
      rw [hst]
  · have hk' : l.length ≤ k := by simpa using h
    rw [List.take_of_length_le hk']
    conv => whnf
    repeat (first | (refine Conf.mk (by kernel_rfl) ?_; conv => whnf) | (refine SeqOk.go ?_; conv => whnf))
    subst hQ1
    conv => whnf
    have hfl := List.length_filter_le p l
    refine .eff [0] _ _ _ _ 0 (sortFunc_ok _ (by rw [List.length_map]; omega)) rfl rfl rfl rfl rfl ?_
    conv => whnf
    repeat (first | (refine Conf.mk (by kernel_rfl) ?_; conv => whnf) | (refine SeqOk.go ?_; conv => whnf))
    exact Ret.to rfl
theorem past1_ok (x : Id) (e : Entry') : PCall Tryz.prog 69 [e.arg, .dat (.ptr x.enc)] (dBool (isThe x e)) := by
  refine pcall_intro tab_all tab_mixed Tryz.func69 (by kernel_rfl) Tryz.ntmps69 rfl ?_
  conv => whnf
  exact Ret.bool rfl
theorem heads1_ok (c : Int) (e : Entry') : PCall Tryz.prog 110 [e.arg, .dat (.ptr [.int .i64 c])] (dBool (bothOf e.colors c)) := by
  refine pcall_intro tab_all tab_mixed Tryz.func110 (by kernel_rfl) Tryz.ntmps110 rfl ?_
  conv => whnf
  exact Ret.bool rfl
theorem heads2_ok (c : Int) (past : List Id) (hp : past.length ≤ 1000) (e : Entry') : PCall Tryz.prog 112 [e.arg, .dat (.ptr [.fn (.func 110) [] [.ptr [.int .i64 c]]]), .dat (.ptr [.list (past.map Id.enc)])] (dBool (bothOf e.colors c && !past.any (isId2 e.id))) := by
  refine pcall_intro tab_all tab_mixed Tryz.func112 (by kernel_rfl) Tryz.ntmps112 rfl ?_
  conv => whnf
  refine .look _ _ (heads1_ok c e) rfl rfl ?_
  conv => whnf
  repeat (first | (refine Conf.mk (by kernel_rfl) ?_; conv => whnf) | (refine SeqOk.go ?_; conv => whnf))
  refine ⟨fun h3 => ?_, fun h3 => ?_⟩
  · conv => whnf
    repeat (first | (refine Conf.mk (by kernel_rfl) ?_; conv => whnf) | (refine SeqOk.go ?_; conv => whnf))
    refine .look _ _ (containsId_ok e.id past (by omega)) rfl rfl ?_
    conv => whnf
    repeat (first | (refine Conf.mk (by kernel_rfl) ?_; conv => whnf) | (refine SeqOk.go ?_; conv => whnf))
    exact Ret.bool (by rw [h3, Bool.true_and])
  · conv => whnf
    repeat (first | (refine Conf.mk (by kernel_rfl) ?_; conv => whnf) | (refine SeqOk.go ?_; conv => whnf))
    exact Ret.bool (by rw [h3, Bool.false_and])
end Go.Proofs.YtlioojekjnigiaeGreat.AM
/- Logs: the calls of package dag, and what must be in any case. -/
namespace Go.Proofs.YtlioojekjnigiaeGreat.AM
set_option linter.unusedVariables false
set_option linter.unusedSimpArgs false

def LA (l : List Entry') : AVal := .dat (.list (l.map Entry'.enc))
def IA (l : List Id) : AVal := .dat (.list (l.map Id.enc))
def pastErr (l : List Entry') (x : Id) : Int := if logErr l = 0 then (if l.any (isThe x) = true then 0 else 5) else logErr l
def pastAns (l : List Entry') (x : Id) : List Id := if pastErr l x = 0 then pastOfId l x else []
theorem pastErr_ok {l : List Entry'} {x : Id} (h : pastErr l x = 0) : Right l ∧ ∃ e ∈ l, e.id = x := by
  unfold pastErr at h
  split at h
  · rename_i h1
    split at h
    · rename_i h2; exact ⟨right_iff.1 h1, any_isThe.1 h2⟩
    · simp at h
  · rename_i h1; exact absurd h h1
set_option maxHeartbeats 0 in
theorem past_ok (l : List Entry') (hl : LogOk l) (x : Id) : PCall Tryz.prog 42 [.dat (.list (l.map Entry'.enc)), x.arg] (.tup [.dat (.list ((pastAns l x).map Id.enc)), dInt (pastErr l x)]) := by
  refine pcall_intro tab_all tab_mixed Tryz.func42 (by kernel_rfl) Tryz.ntmps42 rfl ?_
  conv => whnf
  refine .data _ _ (dagCheck_ok l hl) rfl ?_
  conv => whnf
  repeat (first | (refine Conf.mk (by kernel_rfl) ?_; conv => whnf) | (refine SeqOk.go ?_; conv => whnf))
  refine ⟨fun h1 => ?_, fun h1 => ?_⟩
  · have h1 : logErr l ≠ 0 := by simpa using h1
    have he : pastErr l x = logErr l := by unfold pastErr; rw [if_neg h1]
    have ha : pastAns l x = [] := by unfold pastAns; rw [he, if_neg h1]
    conv => whnf
    repeat (first | (refine Conf.mk (by kernel_rfl) ?_; conv => whnf) | (refine SeqOk.go ?_; conv => whnf))
    exact Ret.to (by rw [he, ha]; rfl)
  · have h1 : logErr l = 0 := by simpa using h1
    have hr := right_iff.1 h1
    conv => whnf
    repeat (first | (refine Conf.mk (by kernel_rfl) ?_; conv => whnf) | (refine SeqOk.go ?_; conv => whnf))
    refine .look _ _ (has_ok x l hl.len) rfl rfl ?_
    conv => whnf
    repeat (first | (refine Conf.mk (by kernel_rfl) ?_; conv => whnf) | (refine SeqOk.go ?_; conv => whnf))
    refine ⟨fun h2 => ?_, fun h2 => ?_⟩
    · have h2 : l.any (isThe x) = false := (Bool.not_eq_true' _).mp h2
      have he : pastErr l x = 5 := by unfold pastErr; rw [if_pos h1, h2]; rfl
      have ha : pastAns l x = [] := by unfold pastAns; rw [he]; rfl
      conv => whnf
      repeat (first | (refine Conf.mk (by kernel_rfl) ?_; conv => whnf) | (refine SeqOk.go ?_; conv => whnf))
      exact Ret.to (by rw [he, ha]; rfl)
    · have h2 : l.any (isThe x) = true := (Bool.not_eq_false' (b := l.any (isThe x))).mp h2
      have he : pastErr l x = 0 := by unfold pastErr; rw [if_pos h1, if_pos h2]
      have ha : pastAns l x = pastOfId l x := by unfold pastAns; rw [he]; rfl
      conv => whnf
      repeat (first | (refine Conf.mk (by kernel_rfl) ?_; conv => whnf) | (refine SeqOk.go ?_; conv => whnf))
      refine .keep [0] _ _ (pastOf_ok l hr.len (fun e he => hr.six he) fun e _ => past1_ok x e) rfl rfl rfl rfl ?_
      conv => whnf
      repeat (first | (refine Conf.mk (by kernel_rfl) ?_; conv => whnf) | (refine SeqOk.go ?_; conv => whnf))
      exact Ret.to (by rw [he, ha]; rfl)
def colErr (l : List Entry') (c : Int) : Int := if logErr l = 0 then (if c < 1 ∨ 7 < c then 3 else 0) else logErr l
def headsAns (l : List Entry') (c : Int) : List Id := if colErr l c = 0 then headsOf c l else []
theorem colErr_ok {l : List Entry'} {c : Int} (h : colErr l c = 0) : Right l ∧ 1 ≤ c ∧ c ≤ 7 := by
  unfold colErr at h
  split at h
  · rename_i h1
    split at h
    · simp at h
    · rename_i h2; exact ⟨right_iff.1 h1, by omega⟩
  · rename_i h1; exact absurd h h1
set_option maxHeartbeats 0 in
theorem heads_ok (l : List Entry') (hl : LogOk l) (c : Int) : PCall Tryz.prog 86 [.dat (.list (l.map Entry'.enc)), dInt c] (.tup [.dat (.list ((headsAns l c).map Id.enc)), dInt (colErr l c)]) := by
  refine pcall_intro tab_all tab_mixed Tryz.func86 (by kernel_rfl) Tryz.ntmps86 rfl ?_
  conv => whnf
  refine .data _ _ (dagCheck_ok l hl) rfl ?_
  conv => whnf
  repeat (first | (refine Conf.mk (by kernel_rfl) ?_; conv => whnf) | (refine SeqOk.go ?_; conv => whnf))
  refine ⟨fun h1 => ?_, fun h1 => ?_⟩
  · have h1 : logErr l ≠ 0 := by simpa using h1
    have he : colErr l c = logErr l := by unfold colErr; rw [if_neg h1]
    have ha : headsAns l c = [] := by unfold headsAns; rw [he, if_neg h1]
    conv => whnf
    repeat (first | (refine Conf.mk (by kernel_rfl) ?_; conv => whnf) | (refine SeqOk.go ?_; conv => whnf))
    exact Ret.to (by rw [he, ha]; rfl)
  · have h1 : logErr l = 0 := by simpa using h1
    have hr := right_iff.1 h1
    conv => whnf
    repeat (first | (refine Conf.mk (by kernel_rfl) ?_; conv => whnf) | (refine SeqOk.go ?_; conv => whnf))
    refine ⟨fun h2 => ?_, fun h2 => ?_⟩
    · have hc : c < 1 ∨ 7 < c := .inl (by simpa using h2)
      have he : colErr l c = 3 := by unfold colErr; rw [if_pos h1, if_pos hc]
      have ha : headsAns l c = [] := by unfold headsAns; rw [he]; rfl
      conv => whnf
      repeat (first | (refine Conf.mk (by kernel_rfl) ?_; conv => whnf) | (refine SeqOk.go ?_; conv => whnf))
      exact Ret.to (by rw [he, ha]; rfl)
    · have h2 : ¬ c < 1 := by simpa using h2
      conv => whnf
      repeat (first | (refine Conf.mk (by kernel_rfl) ?_; conv => whnf) | (refine SeqOk.go ?_; conv => whnf))
      refine ⟨fun h3 => ?_, fun h3 => ?_⟩
      · have hc : c < 1 ∨ 7 < c := .inr (by simpa using h3)
        have he : colErr l c = 3 := by unfold colErr; rw [if_pos h1, if_pos hc]
        have ha : headsAns l c = [] := by unfold headsAns; rw [he]; rfl
        conv => whnf
        repeat (first | (refine Conf.mk (by kernel_rfl) ?_; conv => whnf) | (refine SeqOk.go ?_; conv => whnf))
        exact Ret.to (by rw [he, ha]; rfl)
      · have h3 : ¬ 7 < c := by simpa using h3
        have he : colErr l c = 0 := by unfold colErr; rw [if_pos h1, if_neg (by omega)]
        have ha : headsAns l c = headsOf c l := by unfold headsAns; rw [he]; rfl
        conv => whnf
        repeat (first | (refine Conf.mk (by kernel_rfl) ?_; conv => whnf) | (refine SeqOk.go ?_; conv => whnf))
        refine .keep [0, 1] _ _ (pastOf_ok l hr.len (fun e he => hr.six he) fun e _ => heads1_ok c e) rfl rfl rfl rfl ?_
        conv => whnf
        repeat (first | (refine Conf.mk (by kernel_rfl) ?_; conv => whnf) | (refine SeqOk.go ?_; conv => whnf))
        have hfl := pastFold_len (fun e => bothOf e.colors c) (l := l) fun e he => hr.six he
        have hll := hr.len
        refine .keep [2] _ _ (idsOf_ok l hr.len fun e _ => heads2_ok c (sortIds (pastFold (fun e => bothOf e.colors c) l)) (by rw [sortIds_len]; omega) e) rfl rfl rfl rfl ?_
        conv => whnf
        repeat (first | (refine Conf.mk (by kernel_rfl) ?_; conv => whnf) | (refine SeqOk.go ?_; conv => whnf))
        refine Ret.to ?_
        rw [he, ha]
        have : (fun e : Entry' => bothOf e.colors c && !(sortIds (pastFold (fun e => bothOf e.colors c) l)).any (isId2 e.id)) = fun e => bothOf e.colors c && !(pastFold (fun e => bothOf e.colors c) l).any (isId2 e.id) := funext fun e => by
          congr 2
          rw [Bool.eq_iff_iff, any_isId2, any_isId2, mem_sortIds]
        rw [this]
        rfl
def cntv (r : Int) (l : List Entry') : Int := if logErr l = 0 then (cnt r l : Int) else 0
def countA (l : List Entry') : AVal := vecA (cntv 0 l) (cntv 1 l)
theorem id_ok (r n : Int) : PCall Tryz.prog 38 [dInt r, dInt n] (Id.arg ⟨r, n⟩) := by
  refine pcall_intro tab_all tab_mixed Tryz.func38 (by kernel_rfl) Tryz.ntmps38 rfl ?_
  conv => whnf
  exact Ret.to rfl
def someLog : List Entry' := [⟨⟨0, 1⟩, 1, ⟨#[112, 117, 116, 32, 97, 32, 120]⟩, []⟩, ⟨⟨1, 1⟩, 3, ⟨#[112, 117, 116, 32, 97, 32, 121]⟩, []⟩, ⟨⟨0, 2⟩, 3, ⟨#[100, 114, 111, 112, 32, 97]⟩, [⟨0, 1⟩]⟩, ⟨⟨1, 2⟩, 2, ⟨#[112, 117, 116, 32, 98, 32, 122]⟩, [⟨0, 2⟩, ⟨1, 1⟩]⟩]
set_option maxHeartbeats 0 in
theorem entries_ok : PCall Tryz.prog 33 [] (.dat (.list (someLog.map Entry'.enc))) := by
  refine pcall_intro tab_all tab_mixed Tryz.func33 (by kernel_rfl) Tryz.ntmps33 rfl ?_
  conv => whnf
  refine .data _ _ (id_ok _ _) rfl ?_
  conv => whnf
  repeat (first | (refine Conf.mk (by kernel_rfl) ?_; conv => whnf) | (refine SeqOk.go ?_; conv => whnf))
  refine .data _ _ (id_ok _ _) rfl ?_
  conv => whnf
  repeat (first | (refine Conf.mk (by kernel_rfl) ?_; conv => whnf) | (refine SeqOk.go ?_; conv => whnf))
  refine .data _ _ (id_ok _ _) rfl ?_
  conv => whnf
  repeat (first | (refine Conf.mk (by kernel_rfl) ?_; conv => whnf) | (refine SeqOk.go ?_; conv => whnf))
  refine .data _ _ (id_ok _ _) rfl ?_
  conv => whnf
  repeat (first | (refine Conf.mk (by kernel_rfl) ?_; conv => whnf) | (refine SeqOk.go ?_; conv => whnf))
  refine .data _ _ (id_ok _ _) rfl ?_
  conv => whnf
  repeat (first | (refine Conf.mk (by kernel_rfl) ?_; conv => whnf) | (refine SeqOk.go ?_; conv => whnf))
  refine .data _ _ (id_ok _ _) rfl ?_
  conv => whnf
  repeat (first | (refine Conf.mk (by kernel_rfl) ?_; conv => whnf) | (refine SeqOk.go ?_; conv => whnf))
  refine .data _ _ (id_ok _ _) rfl ?_
  conv => whnf
  repeat (first | (refine Conf.mk (by kernel_rfl) ?_; conv => whnf) | (refine SeqOk.go ?_; conv => whnf))
  exact Ret.to rfl
theorem someLog_ok : LogOk someLog := ⟨by decide, by decide⟩
theorem someLog_right : logErr someLog = 0 := by kernel_rfl
theorem same_ok (a : List Id) (h : a.length ≤ 140737488355328) : PCall Tryz.prog 37 [.dat (.list (a.map Id.enc)), .dat (.list (a.map Id.enc))] (.kb true) := by
  have := (sameIds_ok a a h).kb
  rwa [sameIds_iff.2 rfl] at this
end Go.Proofs.YtlioojekjnigiaeGreat.AM
/- Ops: Values, SortedFunc. -/
namespace Go.Proofs.YtlioojekjnigiaeGreat.AM.Fo
set_option linter.unusedVariables false
set_option linter.unusedSimpArgs false
theorem values_ok (l : List OpD) : PCall Tryz.prog 44 [.dat (.list (l.map OpD.enc))] (.fn (.func 72) [] [.dat (.ptr [.list (l.map OpD.enc)])]) := by
  refine pcall_cut tab_all tab_mixed Tryz.func44 (by kernel_rfl) Tryz.ntmps44 rfl ?_
  conv => whnf
  conv => whnf
  repeat (first | (refine Conf.mk (by kernel_rfl) ?_; conv => whnf) | (refine SeqOk.go ?_; conv => whnf))
  exact Ret.to rfl
theorem sortedFunc_ok (l : List OpD) (hl : l.length ≤ 1000) : ACall Tryz.prog 43 [.fn (.func 72) [] [.dat (.ptr [.list (l.map OpD.enc)])], .fn (.func 45) [] []] [] 0
    fun x H' n' => ∃ l', SortedOf l l' ∧ x = .dat (.list (l'.map OpD.enc)) ∧ H' = [] ∧ n' = 0 := by
  refine acall_cut tab_all tab_mixed Tryz.func43 (by kernel_rfl) Tryz.ntmps43 rfl ?_
  conv => whnf
  conv => whnf
  repeat (first | (refine Conf.mk (by kernel_rfl) ?_; conv => whnf) | (refine SeqOk.go ?_; conv => whnf))
  refine .eff [] _ _ _ _ 1 (collect_ok l hl) rfl rfl rfl rfl rfl ?_
  conv => whnf
  repeat (first | (refine Conf.mk (by kernel_rfl) ?_; conv => whnf) | (refine SeqOk.go ?_; conv => whnf))
  refine .some [0] _ _ _ rfl (sortOps_ok l hl) rfl rfl rfl rfl rfl ?_
  rintro x Hc' m' ⟨l', hs, rfl, rfl, hm'⟩
  obtain rfl : m' = 0 := by simp at hm'; omega
  conv => whnf
  repeat (first | (refine Conf.mk (by kernel_rfl) ?_; conv => whnf) | (refine SeqOk.go ?_; conv => whnf))
  exact .mk [0] [] (.dat (.list (l'.map OpD.enc))) [] rfl (.data rfl) trivial rfl rfl ⟨l', hs, rfl, rfl, rfl⟩
end Go.Proofs.YtlioojekjnigiaeGreat.AM.Fo
/- Words. -/
namespace Go.Proofs.YtlioojekjnigiaeGreat.AM.Fo
open Go.RowKit
set_option linter.unusedVariables false
set_option linter.unusedSimpArgs false

/-- A call that is told of elsewhere: it answers data that say the same anywhere, and nothing of old is changed. -/
theorem pcall_of_grow {P : Program} {f : Nat} {args : List AVal} {x : AVal} (hcall : callable P f = true)
    (h : ∀ (r : Rho) (A : View) (w : World) (vs : Array Value), vs.size = args.length → (∀ j a, args[j]? = some a → VRel r A (vs.getD j undef) a) →
      Calls P f vs w fun e w' => ∃ v, e = .returned v ∧ (∀ r A, VRel r A v x) ∧ Grow w w') : PCall P f args x := by
  refine ⟨hcall, fun r A w vs hr hc hsz hv => ?_⟩
  refine (h r A w vs hsz hv).mono fun e w' ⟨v, he, hx, hg⟩ => ?_
  have hAlt : ∀ b o u, A b o = some u → b < w.heap.size := fun b o u hA => cell_lt' (hc.view b o u hA)
  refine ⟨v, r, A, x, [], 0, he, ⟨rfl, rfl, rfl⟩, Nat.le_refl _, fun _ _ => rfl, hr, ⟨fun b o u hA => ?_, fun h => trivial, fun h h' b hl => by cases hl⟩, hx _ _, ?_, fun b ⟨h, hl, _⟩ => by cases hl⟩
  · rw [← hc.view b o u hA]
    exact World.cell?_of_block (w := w) (hg.block b (hAlt b o u hA))
  · exact ⟨hg.os, hg.tape, hg.output, hg.size, fun b hb _ => hg.block b hb, Sub.refl A, fun _ _ _ => rfl⟩
def okB (c : UInt8) : Bool := (decide (97 ≤ c.toNat) && decide (c.toNat ≤ 122)) || (decide (48 ≤ c.toNat) && decide (c.toNat ≤ 57))
/-- fold.isWord -/
def isW (s : ByteArray) : Bool := decide (1 ≤ s.size) && decide (s.size ≤ 3) && s.data.toList.all okB
theorem letter_any (c : UInt8) (w : World) : Calls Tryz.prog 50 #[.int .u8 c.toNat] w fun e w' => e = .returned (.bool (decide (97 ≤ c.toNat) && decide (c.toNat ≤ 122))) ∧ w' = w := by
  have hd : decide ((c.toNat : Int) ≤ 122) = decide (c.toNat ≤ 122) := decide_eq_decide.2 (by omega)
  go_enter Tryz.func50, Tryz.ntmps50
  by_cases h : 97 ≤ c.toNat
  · go_wp2
    go_ret
    refine ⟨?_, rfl⟩
    show Ending.returned (.bool (decide (c.toNat ≤ 122))) = _
    rw [decide_eq_true h, Bool.true_and]
  · go_wp2
    go_ret
    exact ⟨rfl, rfl⟩
theorem digit_any (c : UInt8) (w : World) : Calls Tryz.prog 51 #[.int .u8 c.toNat] w fun e w' => e = .returned (.bool (decide (48 ≤ c.toNat) && decide (c.toNat ≤ 57))) ∧ w' = w := by
  have hd : decide ((c.toNat : Int) ≤ 57) = decide (c.toNat ≤ 57) := decide_eq_decide.2 (by omega)
  go_enter Tryz.func51, Tryz.ntmps51
  by_cases h : 48 ≤ c.toNat
  · go_wp2
    go_ret
    refine ⟨?_, rfl⟩
    show Ending.returned (.bool (decide (c.toNat ≤ 57))) = _
    rw [decide_eq_true h, Bool.true_and]
  · go_wp2
    go_ret
    exact ⟨rfl, rfl⟩
theorem word_no (s : ByteArray) (h : ¬ (1 ≤ s.size ∧ s.size ≤ 3)) (w : World) : Calls Tryz.prog 23 #[.string s] w fun e w' => e = .returned (.bool false) ∧ Grow w w' := by
  go_enter Tryz.func23, Tryz.ntmps23
  by_cases h1 : s.size < 1
  · go_wp2
    go_ret
    exact ⟨rfl, Grow.refl _⟩
  · have h2 : 3 < s.size := by omega
    go_wp2
    go_ret
    exact ⟨rfl, Grow.refl _⟩
set_option maxHeartbeats 2000000 in
set_option maxRecDepth 100000 in
theorem word_any (s : ByteArray) (h1 : 1 ≤ s.size) (h3 : s.size ≤ 3) (w : World) : Calls Tryz.prog 23 #[.string s] w fun e w' => e = .returned (.bool (s.data.toList.all okB)) ∧ Grow w w' := by
  have n1 : ¬ s.size < 1 := by omega
  have n2 : ¬ 3 < s.size := by omega
  go_enter Tryz.func23, Tryz.ntmps23
  have hcv := Lib.run_convert_string_bytes (P := Tryz.prog) w 9 98 5 s Tryz.underlying9 Tryz.underlying98 Tryz.underlying5
  have hg : Grow w (Lib.bytesWorld w 5 s) := ⟨rfl, rfl, rfl, by rw [Lib.bytesWorld_size]; omega, fun b hb => Lib.bytesWorld_at_old w _ s b hb⟩
  have hc : ∀ j, j < s.size → (Lib.bytesWorld w 5 s).cell? ⟨w.heap.size, j, none⟩ = some (.int .u8 (s.data.toList.getD j 0).toNat) := fun j hj => Lib.bytesWorld_cell w 5 s j hj
  generalize Lib.bytesWorld w 5 s = W at *
  go_wp2
  go_loopw [16] (fun i wr => ∃ k : Nat, k ≤ s.size ∧ i = .int .i64 k ∧ wr = W ∧ (s.data.toList.take k).all okB = true) (fun i _ => s.size - (intOf i).toNat)
  case atStart => exact ⟨0, Nat.zero_le _, rfl, rfl, rfl⟩
  case round =>
    obtain ⟨k, hk, rfl, rfl, hall⟩ := hrel
    by_cases hlt : k < s.size
    · have hck := hc k hlt
      have hB : s.data.toList[k]? = some (s.data.toList.getD k 0) := by
        rw [List.getD_eq_getElem?_getD, List.getElem?_eq_getElem (by simpa using hlt)]
        rfl
      generalize s.data.toList.getD k 0 = c at hck hB
      clear hc
      have htk : s.data.toList.take (k + 1) = s.data.toList.take k ++ [c] := by rw [List.take_add_one, hB]; rfl
      have hle := letter_any c wr
      have hdi := digit_any c wr
      by_cases hok : okB c = true
      · have hall2 : (s.data.toList.take (k + 1)).all okB = true := by rw [htk, List.all_append, hall]; simp [hok]
        cases h1 : (decide (97 ≤ c.toNat) && decide (c.toNat ≤ 122))
        · have h2 : (decide (48 ≤ c.toNat) && decide (c.toNat ≤ 57)) = true := by unfold okB at hok; rw [h1, Bool.false_or] at hok; exact hok
          rw [h1] at hle
          rw [h2] at hdi
          clear hok h1 h2
          go_wp2_with fail
          refine hle.mono ?_
          rintro e w1 ⟨rfl, rfl⟩
          go_wp2_with fail
          refine hdi.mono ?_
          rintro e w1 ⟨rfl, rfl⟩
          go_wp2
          go_roundw
          case rel => exact ⟨k + 1, by omega, by simp, trivial, hall2⟩
          case measure => simp [intOf]; omega
        · rw [h1] at hle
          clear hok h1
          go_wp2_with fail
          refine hle.mono ?_
          rintro e w1 ⟨rfl, rfl⟩
          go_wp2
          go_roundw
          case rel => exact ⟨k + 1, by omega, by simp, trivial, hall2⟩
          case measure => simp [intOf]; omega
      · have hno : s.data.toList.all okB = false := by
          rw [List.all_eq_false]
          exact ⟨c, List.mem_of_getElem? hB, hok⟩
        have ho1 : (decide (97 ≤ c.toNat) && decide (c.toNat ≤ 122)) = false := by
          cases h : (decide (97 ≤ c.toNat) && decide (c.toNat ≤ 122))
          · rfl
          · exact absurd (by unfold okB; rw [h]; rfl) hok
        have ho2 : (decide (48 ≤ c.toNat) && decide (c.toNat ≤ 57)) = false := by
          cases h : (decide (48 ≤ c.toNat) && decide (c.toNat ≤ 57))
          · rfl
          · exact absurd (by unfold okB; rw [ho1, h]; rfl) hok
        rw [ho1] at hle
        rw [ho2] at hdi
        go_wp2_with fail
        refine hle.mono ?_
        rintro e w1 ⟨rfl, rfl⟩
        go_wp2_with fail
        refine hdi.mono ?_
        rintro e w1 ⟨rfl, rfl⟩
        go_wp2
        go_ret
        exact ⟨by rw [hno]; rfl, hg⟩
    · obtain rfl : k = s.size := by omega
      rw [List.take_of_length_le (by simp)] at hall
      go_wp2
      go_ret
      exact ⟨by rw [hall]; rfl, hg⟩
theorem isWord_ok (s : ByteArray) : PCall Tryz.prog 23 [.dat (.str s)] (dBool (isW s)) := by
  refine pcall_of_grow (by kernel_rfl) fun r A w vs hsz hv => ?_
  obtain ⟨v0, rfl⟩ : ∃ v0, vs = #[v0] := by
    match vs, hsz with
    | ⟨[v0]⟩, _ => exact ⟨v0, rfl⟩
  have h0 : VRel r A v0 (.dat (.str s)) := hv 0 _ rfl
  cases h0 with | dat h0 =>
  cases h0
  by_cases h : 1 ≤ s.size ∧ s.size ≤ 3
  · have e : isW s = s.data.toList.all okB := by unfold isW; rw [decide_eq_true h.1, decide_eq_true h.2]; rfl
    rw [e]
    exact (word_any s h.1 h.2 w).mono fun e w' ⟨he, hg⟩ => ⟨_, he, fun r A => .dat (.bool _), hg⟩
  · have e : isW s = false := by
      unfold isW
      by_cases h1 : 1 ≤ s.size
      · rw [decide_eq_false (p := s.size ≤ 3) (fun k => h ⟨h1, k⟩), Bool.and_false, Bool.false_and]
      · rw [decide_eq_false h1, Bool.false_and, Bool.false_and]
    rw [e]
    exact (word_no s h w).mono fun e w' ⟨he, hg⟩ => ⟨_, he, fun r A => .dat (.bool _), hg⟩
end Go.Proofs.YtlioojekjnigiaeGreat.AM.Fo
/- Texts cut. -/
namespace Go.Proofs.YtlioojekjnigiaeGreat.AM.Fo
open Go.RowKit
set_option linter.unusedVariables false
set_option linter.unusedSimpArgs false

set_option maxRecDepth 100000 in
set_option maxHeartbeats 1000000 in
theorem indexByte_any (s : ByteArray) (c : Int) (w : World) : Calls Tryz.prog 101 #[.string s, .int .u8 c] w fun e w' => e = .returned (.int .i64 (Lib.indexByte s.data.toList c.toNat.toUInt8)) ∧ w' = w := by
  go_enter Tryz.func101, Tryz.ntmps101
  go_wp2
  rw [run_callFunc_extern Tryz.func124 (by kernel_rfl) (by kernel_rfl) (by kernel_rfl) (e := Extern.BytealgIndexByte.indexByte) (by kernel_rfl), Lib.run_indexByteString]
  simp only [Result.andThen]
  rw [Oper.upon_value]
  go_wp2
  go_ret
  exact ⟨rfl, rfl⟩
theorem indexByte_ok (s : ByteArray) (c : Int) : PCall Tryz.prog 101 [.dat (.str s), .dat (.int .u8 c)] (dInt (Lib.indexByte s.data.toList c.toNat.toUInt8)) := by
  refine pcall_of_grow (by kernel_rfl) fun r A w vs hsz hv => ?_
  obtain ⟨v0, v1, rfl⟩ : ∃ v0 v1, vs = #[v0, v1] := by
    match vs, hsz with
    | ⟨[v0, v1]⟩, _ => exact ⟨v0, v1, rfl⟩
  have h0 : VRel r A v0 (.dat (.str s)) := hv 0 _ rfl
  have h1 : VRel r A v1 (.dat (.int .u8 c)) := hv 1 _ rfl
  cases h0 with | dat h0 =>
  cases h0
  cases h1 with | dat h1 =>
  cases h1
  exact (indexByte_any s c w).mono fun e w' ⟨he, hw⟩ => ⟨_, he, fun r A => .dat (.int _ _), by rw [hw]; exact Grow.refl _⟩
/-- A blank. -/
def blank : ByteArray := ⟨#[32]⟩
/-- Where the first blank is. -/
def blankAt (s : ByteArray) : Int := if blank = s then 0 else Lib.indexByte s.data.toList 32
theorem index_ok (s : ByteArray) : PCall Tryz.prog 79 [.dat (.str s), .dat (.str blank)] (dInt (blankAt s)) := by
  refine pcall_cut tab_all tab_mixed Tryz.func79 (by kernel_rfl) Tryz.ntmps79 rfl ?_
  conv => whnf
  conv => whnf
  repeat (first | (refine Conf.mk (by kernel_rfl) ?_; conv => whnf) | (refine SeqOk.go ?_; conv => whnf))
  refine BoolCase.no rfl ?_
  conv => whnf
  repeat (first | (refine Conf.mk (by kernel_rfl) ?_; conv => whnf) | (refine SeqOk.go ?_; conv => whnf))
  by_cases h : blank = s
  · have e : blankAt s = 0 := by unfold blankAt; rw [if_pos h]
    refine BoolCase.yes (decide_eq_true h) ?_
    conv => whnf
    repeat (first | (refine Conf.mk (by kernel_rfl) ?_; conv => whnf) | (refine SeqOk.go ?_; conv => whnf))
    exact Ret.int e.symm
  · have e : blankAt s = Lib.indexByte s.data.toList 32 := by unfold blankAt; rw [if_neg h]
    refine BoolCase.no (decide_eq_false h) ?_
    conv => whnf
    repeat (first | (refine Conf.mk (by kernel_rfl) ?_; conv => whnf) | (refine SeqOk.go ?_; conv => whnf))
    refine BoolCase.yes rfl ?_
    conv => whnf
    repeat (first | (refine Conf.mk (by kernel_rfl) ?_; conv => whnf) | (refine SeqOk.go ?_; conv => whnf))
    refine .mk 0 32 rfl rfl ?_
    conv => whnf
    repeat (first | (refine Conf.mk (by kernel_rfl) ?_; conv => whnf) | (refine SeqOk.go ?_; conv => whnf))
    refine .look _ _ (indexByte_ok s 32) rfl rfl ?_
    conv => whnf
    repeat (first | (refine Conf.mk (by kernel_rfl) ?_; conv => whnf) | (refine SeqOk.go ?_; conv => whnf))
    exact Ret.int e.symm
def hasPre (s p : ByteArray) : Bool := decide (p.size ≤ s.size) && decide (s.extract 0 p.size = p)
theorem hasPrefix_ok (s p : ByteArray) : PCall Tryz.prog 78 [.dat (.str s), .dat (.str p)] (dBool (hasPre s p)) := by
  refine pcall_cut tab_all tab_mixed Tryz.func78 (by kernel_rfl) Tryz.ntmps78 rfl ?_
  conv => whnf
  conv => whnf
  repeat (first | (refine Conf.mk (by kernel_rfl) ?_; conv => whnf) | (refine SeqOk.go ?_; conv => whnf))
  by_cases h : p.size ≤ s.size
  · refine BoolCase.yes (by simp; omega) ?_
    conv => whnf
    repeat (first | (refine Conf.mk (by kernel_rfl) ?_; conv => whnf) | (refine SeqOk.go ?_; conv => whnf))
    refine .mk 0 p.size rfl rfl (Nat.zero_le _) h ?_
    conv => whnf
    repeat (first | (refine Conf.mk (by kernel_rfl) ?_; conv => whnf) | (refine SeqOk.go ?_; conv => whnf))
    exact Ret.bool (by unfold hasPre; rw [decide_eq_true h, Bool.true_and])
  · refine BoolCase.no (by simp; omega) ?_
    conv => whnf
    repeat (first | (refine Conf.mk (by kernel_rfl) ?_; conv => whnf) | (refine SeqOk.go ?_; conv => whnf))
    exact Ret.bool (by unfold hasPre; rw [decide_eq_false h, Bool.false_and])
theorem hasPre_size {s p : ByteArray} (h : hasPre s p = true) : p.size ≤ s.size := by
  unfold hasPre at h
  rw [Bool.and_eq_true] at h
  exact of_decide_eq_true h.1
/-- What stands behind a beginning. -/
def cutP (s p : ByteArray) : ByteArray := if hasPre s p = true then s.extract p.size s.size else s
theorem cutPrefix0_ok (s p : ByteArray) : PCall Tryz.prog 52 [.dat (.str s), .dat (.str p)] (.tup [.dat (.str (cutP s p)), dBool (hasPre s p)]) := by
  refine pcall_cut tab_all tab_mixed Tryz.func52 (by kernel_rfl) Tryz.ntmps52 rfl ?_
  conv => whnf
  conv => whnf
  repeat (first | (refine Conf.mk (by kernel_rfl) ?_; conv => whnf) | (refine SeqOk.go ?_; conv => whnf))
  refine .look _ _ (hasPrefix_ok s p) rfl rfl ?_
  conv => whnf
  repeat (first | (refine Conf.mk (by kernel_rfl) ?_; conv => whnf) | (refine SeqOk.go ?_; conv => whnf))
  cases h : hasPre s p
  · have e : cutP s p = s := by unfold cutP; rw [if_neg (by simp [h])]
    refine BoolCase.yes rfl ?_
    conv => whnf
    repeat (first | (refine Conf.mk (by kernel_rfl) ?_; conv => whnf) | (refine SeqOk.go ?_; conv => whnf))
    rw [e]
    exact Ret.to rfl
  · have e : cutP s p = s.extract p.size s.size := by unfold cutP; rw [if_pos h]
    refine BoolCase.no rfl ?_
    conv => whnf
    repeat (first | (refine Conf.mk (by kernel_rfl) ?_; conv => whnf) | (refine SeqOk.go ?_; conv => whnf))
    refine .mk p.size s.size rfl rfl (hasPre_size h) (Nat.le_refl _) ?_
    conv => whnf
    repeat (first | (refine Conf.mk (by kernel_rfl) ?_; conv => whnf) | (refine SeqOk.go ?_; conv => whnf))
    rw [e]
    exact Ret.to rfl
theorem cutPrefix_ok (s p : ByteArray) : PCall Tryz.prog 24 [.dat (.str s), .dat (.str p)] (.tup [.dat (.str (cutP s p)), dBool (hasPre s p)]) := by
  refine pcall_cut tab_all tab_mixed Tryz.func24 (by kernel_rfl) Tryz.ntmps24 rfl ?_
  conv => whnf
  conv => whnf
  repeat (first | (refine Conf.mk (by kernel_rfl) ?_; conv => whnf) | (refine SeqOk.go ?_; conv => whnf))
  refine .data _ _ (cutPrefix0_ok s p) rfl ?_
  conv => whnf
  repeat (first | (refine Conf.mk (by kernel_rfl) ?_; conv => whnf) | (refine SeqOk.go ?_; conv => whnf))
  exact Ret.to rfl
end Go.Proofs.YtlioojekjnigiaeGreat.AM.Fo
/- Texts cut in two; what a text says. -/
namespace Go.Proofs.YtlioojekjnigiaeGreat.AM.Fo
set_option linter.unusedVariables false
set_option linter.unusedSimpArgs false

theorem indexByte_lt : ∀ (l : List UInt8) (c : UInt8), Lib.indexByte l c < l.length ∨ l = []
  | [], c => .inr rfl
  | b :: l, c => .inl (by
    unfold Lib.indexByte
    rcases indexByte_lt l c with h | h
    · simp only [List.length_cons]
      split
      · omega
      · split <;> omega
    · subst h
      simp only [List.length_cons, List.length_nil, Lib.indexByte]
      split <;> simp)
theorem blankAt_lt {s : ByteArray} (h : 0 ≤ blankAt s) : blankAt s < s.size := by
  unfold blankAt at h ⊢
  split at h
  · rename_i h1; rw [if_pos h1, ← h1]; decide
  · rename_i h1
    rw [if_neg h1]
    rcases indexByte_lt s.data.toList 32 with h2 | h2
    · simpa using h2
    · rw [h2] at h; simp [Lib.indexByte] at h
/-- A text cut at the first blank. -/
def cutA (s : ByteArray) : ByteArray := if 0 ≤ blankAt s then s.extract 0 (blankAt s).toNat else s
def cutB (s : ByteArray) : ByteArray := if 0 ≤ blankAt s then s.extract ((blankAt s).toNat + 1) s.size else .empty
def cutOk (s : ByteArray) : Bool := decide (0 ≤ blankAt s)
set_option maxHeartbeats 1000000 in
theorem cut0_ok (s : ByteArray) (hs : s.size ≤ 140737488355328) : PCall Tryz.prog 53 [.dat (.str s), .dat (.str blank)] (.tup [.dat (.str (cutA s)), .dat (.str (cutB s)), dBool (cutOk s)]) := by
  refine pcall_cut tab_all tab_mixed Tryz.func53 (by kernel_rfl) Tryz.ntmps53 rfl ?_
  conv => whnf
  conv => whnf
  repeat (first | (refine Conf.mk (by kernel_rfl) ?_; conv => whnf) | (refine SeqOk.go ?_; conv => whnf))
  refine .look _ _ (index_ok s) rfl rfl ?_
  conv => whnf
  repeat (first | (refine Conf.mk (by kernel_rfl) ?_; conv => whnf) | (refine SeqOk.go ?_; conv => whnf))
  by_cases h : 0 ≤ blankAt s
  · have hl := blankAt_lt h
    have ea : cutA s = s.extract 0 (blankAt s).toNat := by unfold cutA; rw [if_pos h]
    have eb : cutB s = s.extract ((blankAt s).toNat + 1) s.size := by unfold cutB; rw [if_pos h]
    have ec : cutOk s = true := decide_eq_true h
    refine BoolCase.yes ec ?_
    conv => whnf
    repeat (first | (refine Conf.mk (by kernel_rfl) ?_; conv => whnf) | (refine SeqOk.go ?_; conv => whnf))
    refine .mk 0 (blankAt s).toNat rfl (Int.toNat_of_nonneg h).symm (Nat.zero_le _) (by omega) ?_
    conv => whnf
    repeat (first | (refine Conf.mk (by kernel_rfl) ?_; conv => whnf) | (refine SeqOk.go ?_; conv => whnf))
    refine .mk ((blankAt s).toNat + 1) s.size ?_ rfl (by omega) (Nat.le_refl _) ?_
    · have e := Int.toNat_of_nonneg h
      rw [wrap_up (i := (blankAt s).toNat) (by omega), e]
      rfl
    conv => whnf
    repeat (first | (refine Conf.mk (by kernel_rfl) ?_; conv => whnf) | (refine SeqOk.go ?_; conv => whnf))
    rw [ea, eb, ec]
    exact Ret.to rfl
  · have ea : cutA s = s := by unfold cutA; rw [if_neg h]
    have eb : cutB s = .empty := by unfold cutB; rw [if_neg h]
    have ec : cutOk s = false := decide_eq_false h
    refine BoolCase.no ec ?_
    conv => whnf
    repeat (first | (refine Conf.mk (by kernel_rfl) ?_; conv => whnf) | (refine SeqOk.go ?_; conv => whnf))
    rw [ea, eb, ec]
    exact Ret.to rfl
set_option maxHeartbeats 1000000 in
theorem cut_ok (s : ByteArray) (hs : s.size ≤ 140737488355328) : PCall Tryz.prog 25 [.dat (.str s), .dat (.str blank)] (.tup [.dat (.str (cutA s)), .dat (.str (cutB s)), dBool (cutOk s)]) := by
  refine pcall_cut tab_all tab_mixed Tryz.func25 (by kernel_rfl) Tryz.ntmps25 rfl ?_
  conv => whnf
  conv => whnf
  repeat (first | (refine Conf.mk (by kernel_rfl) ?_; conv => whnf) | (refine SeqOk.go ?_; conv => whnf))
  refine .data _ _ (cut0_ok s hs) rfl ?_
  conv => whnf
  repeat (first | (refine Conf.mk (by kernel_rfl) ?_; conv => whnf) | (refine SeqOk.go ?_; conv => whnf))
  exact Ret.to rfl
theorem cutA_size (s : ByteArray) : (cutA s).size ≤ s.size := by
  unfold cutA
  split
  · rw [ByteArray.size_extract]; omega
  · exact Nat.le_refl _
theorem cutB_size (s : ByteArray) : (cutB s).size ≤ s.size := by
  unfold cutB
  split
  · rw [ByteArray.size_extract]; omega
  · exact Nat.zero_le _
theorem cutP_size (s p : ByteArray) : (cutP s p).size ≤ s.size := by
  unfold cutP
  split
  · rw [ByteArray.size_extract]; omega
  · exact Nat.le_refl _
def putW : ByteArray := ⟨#[112, 117, 116, 32]⟩
def dropW : ByteArray := ⟨#[100, 114, 111, 112, 32]⟩
/-- Is it a put of a key and a value? -/
def isPut (s : ByteArray) : Bool := hasPre s putW && (isW (cutA (cutP s putW)) && isW (cutB (cutP s putW)))
def isDrop (s : ByteArray) : Bool := hasPre s dropW && isW (cutP s dropW)
/-- What a text says: its kind, its key, its value; kind 0: nothing. -/
def opKind (s : ByteArray) : Int := if isPut s = true then 1 else if isDrop s = true then 2 else 0
def opKey (s : ByteArray) : ByteArray := if isPut s = true then cutA (cutP s putW) else if isDrop s = true then cutP s dropW else ⟨#[]⟩
def opVal (s : ByteArray) : ByteArray := if isPut s = true then cutB (cutP s putW) else ⟨#[]⟩
def opErr (s : ByteArray) : Int := if opKind s = 0 then 1 else 0
def OpAns (s : ByteArray) : AVal := .tup [dInt (opKind s), .dat (.str (opKey s)), .dat (.str (opVal s)), dInt (opErr s)]
theorem opAns_put {s : ByteArray} (h : isPut s = true) : OpAns s = .tup [dInt 1, .dat (.str (cutA (cutP s putW))), .dat (.str (cutB (cutP s putW))), dInt 0] := by
  have e : opKind s = 1 := by unfold opKind; rw [if_pos h]
  unfold OpAns opErr opKey opVal
  rw [e, if_pos h, if_pos h]; rfl
theorem opAns_drop {s : ByteArray} (h : isPut s = false) (h2 : isDrop s = true) : OpAns s = .tup [dInt 2, .dat (.str (cutP s dropW)), .dat (.str ⟨#[]⟩), dInt 0] := by
  have e : opKind s = 2 := by unfold opKind; rw [if_neg (by simp [h]), if_pos h2]
  unfold OpAns opErr opKey opVal
  rw [e, if_neg (by simp [h]), if_pos h2, if_neg (by simp [h])]; rfl
theorem opAns_none {s : ByteArray} (h : isPut s = false) (h2 : isDrop s = false) : OpAns s = .tup [dInt 0, .dat (.str ⟨#[]⟩), .dat (.str ⟨#[]⟩), dInt 1] := by
  have e : opKind s = 0 := by unfold opKind; rw [if_neg (by simp [h]), if_neg (by simp [h2])]
  unfold OpAns opErr opKey opVal
  rw [e, if_neg (by simp [h]), if_neg (by simp [h2]), if_neg (by simp [h])]; rfl
set_option maxHeartbeats 4000000 in
theorem op_ok (s : ByteArray) (hs : s.size ≤ 140737488355328) : PCall Tryz.prog 7 [.dat (.str s)] (OpAns s) := by
  refine pcall_cut tab_all tab_mixed Tryz.func7 (by kernel_rfl) Tryz.ntmps7 rfl ?_
  conv => whnf
  conv => whnf
  repeat (first | (refine Conf.mk (by kernel_rfl) ?_; conv => whnf) | (refine SeqOk.go ?_; conv => whnf))
  refine .data _ _ (cutPrefix_ok s putW) rfl ?_
  conv => whnf
  repeat (first | (refine Conf.mk (by kernel_rfl) ?_; conv => whnf) | (refine SeqOk.go ?_; conv => whnf))
  cases h1 : hasPre s putW
  · have hp : isPut s = false := by unfold isPut; rw [h1]; rfl
    refine BoolCase.no rfl ?_
    conv => whnf
    repeat (first | (refine Conf.mk (by kernel_rfl) ?_; conv => whnf) | (refine SeqOk.go ?_; conv => whnf))
    refine .data _ _ (cutPrefix_ok s dropW) rfl ?_
    conv => whnf
    repeat (first | (refine Conf.mk (by kernel_rfl) ?_; conv => whnf) | (refine SeqOk.go ?_; conv => whnf))
    cases h2 : hasPre s dropW
    · have hd : isDrop s = false := by unfold isDrop; rw [h2]; rfl
      conv => whnf
      repeat (first | (refine Conf.mk (by kernel_rfl) ?_; conv => whnf) | (refine SeqOk.go ?_; conv => whnf))
      refine BoolCase.no rfl ?_
      conv => whnf
      repeat (first | (refine Conf.mk (by kernel_rfl) ?_; conv => whnf) | (refine SeqOk.go ?_; conv => whnf))
      rw [opAns_none hp hd]
      exact Ret.to rfl
    · have hd : isDrop s = isW (cutP s dropW) := by unfold isDrop; rw [h2]; rfl
      conv => whnf
      repeat (first | (refine Conf.mk (by kernel_rfl) ?_; conv => whnf) | (refine SeqOk.go ?_; conv => whnf))
      refine BoolCase.yes rfl ?_
      conv => whnf
      repeat (first | (refine Conf.mk (by kernel_rfl) ?_; conv => whnf) | (refine SeqOk.go ?_; conv => whnf))
      refine .look _ _ (isWord_ok (cutP s dropW)) rfl rfl ?_
      conv => whnf
      repeat (first | (refine Conf.mk (by kernel_rfl) ?_; conv => whnf) | (refine SeqOk.go ?_; conv => whnf))
      cases h5 : isW (cutP s dropW)
      · rw [h5] at hd
        refine BoolCase.no rfl ?_
        conv => whnf
        repeat (first | (refine Conf.mk (by kernel_rfl) ?_; conv => whnf) | (refine SeqOk.go ?_; conv => whnf))
        rw [opAns_none hp hd]
        exact Ret.to rfl
      · rw [h5] at hd
        refine BoolCase.yes rfl ?_
        conv => whnf
        repeat (first | (refine Conf.mk (by kernel_rfl) ?_; conv => whnf) | (refine SeqOk.go ?_; conv => whnf))
        rw [opAns_drop hp hd]
        exact Ret.to rfl
  · refine BoolCase.yes rfl ?_
    conv => whnf
    repeat (first | (refine Conf.mk (by kernel_rfl) ?_; conv => whnf) | (refine SeqOk.go ?_; conv => whnf))
    refine .data _ _ (cut_ok (cutP s putW) (Nat.le_trans (cutP_size _ _) hs)) rfl ?_
    conv => whnf
    repeat (first | (refine Conf.mk (by kernel_rfl) ?_; conv => whnf) | (refine SeqOk.go ?_; conv => whnf))
    cases h3 : isW (cutA (cutP s putW))
    · have hp : isPut s = false := by unfold isPut; rw [h1, h3]; rfl
      refine .look _ _ (h3 ▸ isWord_ok (cutA (cutP s putW))).kb rfl rfl ?_
      conv => whnf
      repeat (first | (refine Conf.mk (by kernel_rfl) ?_; conv => whnf) | (refine SeqOk.go ?_; conv => whnf))
      refine .data _ _ (cutPrefix_ok s dropW) rfl ?_
      conv => whnf
      repeat (first | (refine Conf.mk (by kernel_rfl) ?_; conv => whnf) | (refine SeqOk.go ?_; conv => whnf))
      cases h2 : hasPre s dropW
      · have hd : isDrop s = false := by unfold isDrop; rw [h2]; rfl
        conv => whnf
        repeat (first | (refine Conf.mk (by kernel_rfl) ?_; conv => whnf) | (refine SeqOk.go ?_; conv => whnf))
        refine BoolCase.no rfl ?_
        conv => whnf
        repeat (first | (refine Conf.mk (by kernel_rfl) ?_; conv => whnf) | (refine SeqOk.go ?_; conv => whnf))
        rw [opAns_none hp hd]
        exact Ret.to rfl
      · have hd : isDrop s = isW (cutP s dropW) := by unfold isDrop; rw [h2]; rfl
        conv => whnf
        repeat (first | (refine Conf.mk (by kernel_rfl) ?_; conv => whnf) | (refine SeqOk.go ?_; conv => whnf))
        refine BoolCase.yes rfl ?_
        conv => whnf
        repeat (first | (refine Conf.mk (by kernel_rfl) ?_; conv => whnf) | (refine SeqOk.go ?_; conv => whnf))
        refine .look _ _ (isWord_ok (cutP s dropW)) rfl rfl ?_
        conv => whnf
        repeat (first | (refine Conf.mk (by kernel_rfl) ?_; conv => whnf) | (refine SeqOk.go ?_; conv => whnf))
        cases h5 : isW (cutP s dropW)
        · rw [h5] at hd
          refine BoolCase.no rfl ?_
          conv => whnf
          repeat (first | (refine Conf.mk (by kernel_rfl) ?_; conv => whnf) | (refine SeqOk.go ?_; conv => whnf))
          rw [opAns_none hp hd]
          exact Ret.to rfl
        · rw [h5] at hd
          refine BoolCase.yes rfl ?_
          conv => whnf
          repeat (first | (refine Conf.mk (by kernel_rfl) ?_; conv => whnf) | (refine SeqOk.go ?_; conv => whnf))
          rw [opAns_drop hp hd]
          exact Ret.to rfl
    · refine .look _ _ (h3 ▸ isWord_ok (cutA (cutP s putW))).kb rfl rfl ?_
      conv => whnf
      repeat (first | (refine Conf.mk (by kernel_rfl) ?_; conv => whnf) | (refine SeqOk.go ?_; conv => whnf))
      refine .look _ _ (isWord_ok (cutB (cutP s putW))) rfl rfl ?_
      conv => whnf
      repeat (first | (refine Conf.mk (by kernel_rfl) ?_; conv => whnf) | (refine SeqOk.go ?_; conv => whnf))
      cases h4 : isW (cutB (cutP s putW))
      · have hp : isPut s = false := by unfold isPut; rw [h1, h3, h4]; rfl
        refine BoolCase.no rfl ?_
        conv => whnf
        repeat (first | (refine Conf.mk (by kernel_rfl) ?_; conv => whnf) | (refine SeqOk.go ?_; conv => whnf))
        refine .data _ _ (cutPrefix_ok s dropW) rfl ?_
        conv => whnf
        repeat (first | (refine Conf.mk (by kernel_rfl) ?_; conv => whnf) | (refine SeqOk.go ?_; conv => whnf))
        cases h2 : hasPre s dropW
        · have hd : isDrop s = false := by unfold isDrop; rw [h2]; rfl
          conv => whnf
          repeat (first | (refine Conf.mk (by kernel_rfl) ?_; conv => whnf) | (refine SeqOk.go ?_; conv => whnf))
          refine BoolCase.no rfl ?_
          conv => whnf
          repeat (first | (refine Conf.mk (by kernel_rfl) ?_; conv => whnf) | (refine SeqOk.go ?_; conv => whnf))
          rw [opAns_none hp hd]
          exact Ret.to rfl
        · have hd : isDrop s = isW (cutP s dropW) := by unfold isDrop; rw [h2]; rfl
          conv => whnf
          repeat (first | (refine Conf.mk (by kernel_rfl) ?_; conv => whnf) | (refine SeqOk.go ?_; conv => whnf))
          refine BoolCase.yes rfl ?_
          conv => whnf
          repeat (first | (refine Conf.mk (by kernel_rfl) ?_; conv => whnf) | (refine SeqOk.go ?_; conv => whnf))
          refine .look _ _ (isWord_ok (cutP s dropW)) rfl rfl ?_
          conv => whnf
          repeat (first | (refine Conf.mk (by kernel_rfl) ?_; conv => whnf) | (refine SeqOk.go ?_; conv => whnf))
          cases h5 : isW (cutP s dropW)
          · rw [h5] at hd
            refine BoolCase.no rfl ?_
            conv => whnf
            repeat (first | (refine Conf.mk (by kernel_rfl) ?_; conv => whnf) | (refine SeqOk.go ?_; conv => whnf))
            rw [opAns_none hp hd]
            exact Ret.to rfl
          · rw [h5] at hd
            refine BoolCase.yes rfl ?_
            conv => whnf
            repeat (first | (refine Conf.mk (by kernel_rfl) ?_; conv => whnf) | (refine SeqOk.go ?_; conv => whnf))
            rw [opAns_drop hp hd]
            exact Ret.to rfl
      · have hp : isPut s = true := by unfold isPut; rw [h1, h3, h4]; rfl
        refine BoolCase.yes rfl ?_
        conv => whnf
        repeat (first | (refine Conf.mk (by kernel_rfl) ?_; conv => whnf) | (refine SeqOk.go ?_; conv => whnf))
        rw [opAns_put hp]
        exact Ret.to rfl
end Go.Proofs.YtlioojekjnigiaeGreat.AM.Fo
/- Ops of a log. -/
namespace Go.Proofs.YtlioojekjnigiaeGreat.AM.Fo
set_option linter.unusedVariables false
set_option linter.unusedSimpArgs false

/-- What an entry says, of some colors. -/
def takes (c : Int) (e : Entry') : Bool := !(opErr e.text != 0) && bothOf e.colors c
def opD (l : List Entry') (e : Entry') : OpD := ⟨e.id, opKind e.text, opKey e.text, opVal e.text, pastAns l e.id⟩
def opsL (l : List Entry') (c : Int) (k : List Entry') : List OpD := (k.filter (takes c)).map (opD l)
theorem opsL_snoc {l : List Entry'} {c : Int} {k : Nat} (hk : k < l.length) : opsL l c (l.take (k + 1)) = opsL l c (l.take k) ++ if takes c l[k] = true then [opD l l[k]] else [] := by
  unfold opsL
  rw [filter_snoc (takes c) (List.getElem?_eq_getElem hk), List.map_append]
  split <;> rfl
set_option maxHeartbeats 0 in
theorem opsOf_ok (l : List Entry') (hl : LogOk l) (hn : l.length ≤ 40) (ht : ∀ e ∈ l, e.text.size ≤ 140737488355328) (c : Int) : PCall Tryz.prog 19 [.dat (.list (l.map Entry'.enc)), dInt c] (.dat (.list ((opsL l c l).map OpD.enc))) := by
  refine pcall_intro tab_all tab_mixed Tryz.func19 (by kernel_rfl) Tryz.ntmps19 rfl ?_
  conv => whnf
  refine LoopOk.hide fun Q1 hQ1 => ?_
  refine LoopOk.mk (fun m s => ∃ k, k + m = l.length ∧ s = ⟨[(16, dInt k), (15, dInt (l.map Entry'.enc).length), (14, .dat (.list (l.map Entry'.enc))), (0, .dat (.list (l.map Entry'.enc))), (1, dInt c), (5, .row 0)], 1, [(0, .rows 56 6 ((opsL l c (l.take k)).map OpD.enc) true)]⟩) l.length ((Into.row 5 56 6 rfl).trans fun s' hs' => by
    subst hs'
    exact Into.mono (Into.to [0] [(16, dInt (0 : Nat)), (15, dInt (l.map Entry'.enc).length), (14, .dat (.list (l.map Entry'.enc))), (0, .dat (.list (l.map Entry'.enc))), (1, dInt c), (5, .row 0)] [(0, .rows 56 6 ((opsL l c (l.take 0)).map OpD.enc) true)] (by repeat (first | exact trivial | refine ⟨.same (congrArg dInt (wrap_up (by omega))), ?_⟩ | refine ⟨.same rfl, ?_⟩ | refine ⟨.any _, ?_⟩)) ⟨⟨rfl, rfl, rfl, rfl⟩, trivial⟩ rfl rfl) fun s' h => ⟨0, by omega, h⟩) ?_
  rintro m s ⟨k, hk, rfl⟩
  conv => whnf
  repeat (first | (refine Conf.mk (by kernel_rfl) ?_; conv => whnf) | (refine SeqOk.go ?_; conv => whnf))
  refine ⟨fun h => ?_, fun h => ?_⟩
  · have hk' : k < l.length := by simpa using h
    have hst := opsL_snoc (l := l) (c := c) hk'
    have hfl : (opsL l c (l.take k)).length ≤ k := by
      unfold opsL
      rw [List.length_map]
      exact Nat.le_trans (List.length_filter_le _ _) (by simp; omega)
    conv => whnf
    repeat (first | (refine Conf.mk (by kernel_rfl) ?_; conv => whnf) | (refine SeqOk.go ?_; conv => whnf))
    refine AtIdx.ofMap hk' rfl ?_
    conv => whnf
    repeat (first | (refine Conf.mk (by kernel_rfl) ?_; conv => whnf) | (refine SeqOk.go ?_; conv => whnf))
    refine .data _ _ (op_ok l[k].text (ht _ (List.getElem_mem hk'))) rfl ?_
    conv => whnf
    repeat (first | (refine Conf.mk (by kernel_rfl) ?_; conv => whnf) | (refine SeqOk.go ?_; conv => whnf))
    cases h3 : (opErr l[k].text != 0)
    · refine BoolCase.no rfl ?_
      conv => whnf
      repeat (first | (refine Conf.mk (by kernel_rfl) ?_; conv => whnf) | (refine SeqOk.go ?_; conv => whnf))
      cases h4 : bothOf l[k].colors c
      · have htk : takes c l[k] = false := by unfold takes; rw [h4, Bool.and_false]
        rw [if_neg (by simp [htk]), List.append_nil] at hst
        have h4' : (IntKind.i64.wrap (BitVec.ofInt 64 l[k].colors &&& BitVec.ofInt 64 c).toNat == 0) = true := by
          have := h4
          unfold bothOf at this
          rw [bne, Bool.not_eq_false'] at this
          exact this
        refine BoolCase.yes h4' ?_
        conv => whnf
        repeat (first | (refine Conf.mk (by kernel_rfl) ?_; conv => whnf) | (refine SeqOk.go ?_; conv => whnf))
        refine Into.mono (Into.to [0] [(16, dInt (k + 1 : Nat)), (15, dInt (l.map Entry'.enc).length), (14, .dat (.list (l.map Entry'.enc))), (0, .dat (.list (l.map Entry'.enc))), (1, dInt c), (5, .row 0)] [(0, .rows 56 6 ((opsL l c (l.take (k + 1))).map OpD.enc) true)] (by repeat (first | exact trivial | refine ⟨.same (congrArg dInt (wrap_up (by omega))), ?_⟩ | refine ⟨.same rfl, ?_⟩ | refine ⟨.any _, ?_⟩)) ⟨⟨rfl, rfl, rfl, ?_⟩, trivial⟩ rfl rfl) fun s' h => ⟨m - 1, by omega, k + 1, by omega, h⟩
        rw [hst]
      · have htk : takes c l[k] = true := by unfold takes; rw [h3, h4]; rfl
        rw [if_pos htk] at hst
        have h4' : (IntKind.i64.wrap (BitVec.ofInt 64 l[k].colors &&& BitVec.ofInt 64 c).toNat == 0) = false := by
          have := h4
          unfold bothOf at this
          rw [bne, Bool.not_eq_true'] at this
          exact this
        refine BoolCase.no h4' ?_
        conv => whnf
        repeat (first | (refine Conf.mk (by kernel_rfl) ?_; conv => whnf) | (refine SeqOk.go ?_; conv => whnf))
        refine .data _ _ (past_ok l hl l[k].id) rfl ?_
        conv => whnf
        repeat (first | (refine Conf.mk (by kernel_rfl) ?_; conv => whnf) | (refine SeqOk.go ?_; conv => whnf))
        refine ⟨by simp [OpD.enc], by simp; omega, ?_⟩
        conv => whnf
        repeat (first | (refine Conf.mk (by kernel_rfl) ?_; conv => whnf) | (refine SeqOk.go ?_; conv => whnf))
        refine Into.mono (Into.to [3] [(16, dInt (k + 1 : Nat)), (15, dInt (l.map Entry'.enc).length), (14, .dat (.list (l.map Entry'.enc))), (0, .dat (.list (l.map Entry'.enc))), (1, dInt c), (5, .row 0)] [(0, .rows 56 6 ((opsL l c (l.take (k + 1))).map OpD.enc) true)] (by repeat (first | exact trivial | refine ⟨.same (congrArg dInt (wrap_up (by omega))), ?_⟩ | refine ⟨.same rfl, ?_⟩ | refine ⟨.any _, ?_⟩)) ⟨⟨rfl, rfl, rfl, ?_⟩, trivial⟩ rfl rfl) fun s' h => ⟨m - 1, by omega, k + 1, by omega, h⟩
        rw [hst, List.map_append]
        rfl
    · refine BoolCase.yes rfl ?_
      have htk : takes c l[k] = false := by unfold takes; rw [h3]; rfl
      rw [if_neg (by simp [htk]), List.append_nil] at hst
      conv => whnf
      repeat (first | (refine Conf.mk (by kernel_rfl) ?_; conv => whnf) | (refine SeqOk.go ?_; conv => whnf))
      refine Into.mono (Into.to [0] [(16, dInt (k + 1 : Nat)), (15, dInt (l.map Entry'.enc).length), (14, .dat (.list (l.map Entry'.enc))), (0, .dat (.list (l.map Entry'.enc))), (1, dInt c), (5, .row 0)] [(0, .rows 56 6 ((opsL l c (l.take (k + 1))).map OpD.enc) true)] (by repeat (first | exact trivial | refine ⟨.same (congrArg dInt (wrap_up (by omega))), ?_⟩ | refine ⟨.same rfl, ?_⟩ | refine ⟨.any _, ?_⟩)) ⟨⟨rfl, rfl, rfl, ?_⟩, trivial⟩ rfl rfl) fun s' h => ⟨m - 1, by omega, k + 1, by omega, h⟩
      rw [hst]
  · have hk' : l.length ≤ k := by simpa using h
    rw [List.take_of_length_le hk']
    conv => whnf
    repeat (first | (refine Conf.mk (by kernel_rfl) ?_; conv => whnf) | (refine SeqOk.go ?_; conv => whnf))
    subst hQ1
    conv => whnf
    repeat (first | (refine Conf.mk (by kernel_rfl) ?_; conv => whnf) | (refine SeqOk.go ?_; conv => whnf))
    exact Ret.to rfl
end Go.Proofs.YtlioojekjnigiaeGreat.AM.Fo
/- Ops: who has whom in its past. -/
namespace Go.Proofs.YtlioojekjnigiaeGreat.AM.Fo
set_option linter.unusedVariables false
set_option linter.unusedSimpArgs false

theorem indexFunc_op {cl : Nat} {ds : List D} {l : List OpD} {p : OpD → Bool} (hl : l.length ≤ 140737488355328) (hcl : ∀ x ∈ l, PCall Tryz.prog cl [x.arg, .dat (.ptr ds)] (dBool (p x))) :
    PCall Tryz.prog 76 [.dat (.list (l.map OpD.enc)), .fn (.func cl) [] [.dat (.ptr ds)]] (dInt (idxOf (isIdx p l 0))) := by
  refine pcall_intro tab_all tab_mixed Tryz.func76 (by kernel_rfl) Tryz.ntmps76 rfl ?_
  conv => whnf
  refine LoopOk.mk (fun m s => ∃ i, i + m = l.length ∧ isIdx p l 0 = isIdx p (l.drop i) i ∧ s = ⟨[(8, dInt i), (7, dInt (l.map OpD.enc).length), (1, .fn (.func cl) [] [.dat (.ptr ds)]), (0, .dat (.list (l.map OpD.enc)))], 0, []⟩) l.length (Into.mono (Into.to [] [(8, dInt (0 : Nat)), (7, dInt (l.map OpD.enc).length), (1, .fn (.func cl) [] [.dat (.ptr ds)]), (0, .dat (.list (l.map OpD.enc)))] [] ⟨.same rfl, .same rfl, .same rfl, .same rfl, trivial⟩ trivial rfl rfl) fun s' h => ⟨0, by omega, rfl, h⟩) ?_
  rintro m s ⟨i, hi, hp, rfl⟩
  conv => whnf
  refine SeqOk.go ?_
  conv => whnf
  refine ⟨fun h => ?_, fun h => ?_⟩
  · conv => whnf
    have hi' : i < l.length := by simpa using h
    refine AtIdx.ofMap hi' rfl ?_
    conv => whnf
    refine .look _ _ (hcl l[i] (List.getElem_mem hi')) rfl rfl ?_
    conv => whnf
    rw [List.drop_eq_getElem_cons hi'] at hp
    refine ⟨fun h => ?_, fun h => ?_⟩
    · conv => whnf
      refine Ret.int ?_
      rw [hp]
      simp [isIdx, h, idxOf]
    · conv => whnf
      refine Into.mono (Into.to [] [(8, dInt (i + 1 : Nat)), (7, dInt (l.map OpD.enc).length), (1, .fn (.func cl) [] [.dat (.ptr ds)]), (0, .dat (.list (l.map OpD.enc)))] [] ⟨.same (congrArg dInt ?_), .same rfl, .same rfl, .same rfl, trivial⟩ trivial rfl rfl) fun s' h' => ⟨m - 1, by omega, i + 1, by omega, ?_, h'⟩
      · exact wrap_up (by omega)
      · rw [hp]
        simp [isIdx, h]
  · conv => whnf
    refine Ret.int ?_
    have hi' : l.length ≤ i := by simpa using h
    rw [hp, List.drop_eq_nil_of_le hi']
    rfl
theorem containsFunc_op {cl : Nat} {ds : List D} {l : List OpD} {p : OpD → Bool} (hl : l.length ≤ 140737488355328) (hcl : ∀ x ∈ l, PCall Tryz.prog cl [x.arg, .dat (.ptr ds)] (dBool (p x))) :
    PCall Tryz.prog 47 [.dat (.list (l.map OpD.enc)), .fn (.func cl) [] [.dat (.ptr ds)]] (dBool (l.any p)) := by
  refine pcall_intro tab_all tab_mixed Tryz.func47 (by kernel_rfl) Tryz.ntmps47 rfl ?_
  conv => whnf
  refine .look _ _ (indexFunc_op hl hcl) rfl rfl ?_
  conv => whnf
  exact Ret.bool (by rw [← idx_any p l 0])
/-- Is one an op of the same key, behind the other one? -/
def behind (o x : OpD) : Bool := decide (x.key = o.key) && x.past.any (isId2 o.id)
theorem isPast1_ok (o x : OpD) (hx : x.past.length ≤ 140737488355328) : PCall Tryz.prog 48 [x.arg, .dat (.ptr o.enc)] (dBool (behind o x)) := by
  refine pcall_intro tab_all tab_mixed Tryz.func48 (by kernel_rfl) Tryz.ntmps48 rfl ?_
  conv => whnf
  conv => whnf
  repeat (first | (refine Conf.mk (by kernel_rfl) ?_; conv => whnf) | (refine SeqOk.go ?_; conv => whnf))
  by_cases h : x.key = o.key
  · have e : behind o x = x.past.any (isId2 o.id) := by unfold behind; rw [decide_eq_true h, Bool.true_and]
    refine BoolCase.yes (decide_eq_true h) ?_
    conv => whnf
    repeat (first | (refine Conf.mk (by kernel_rfl) ?_; conv => whnf) | (refine SeqOk.go ?_; conv => whnf))
    refine .look _ _ (containsId_ok o.id x.past hx) rfl rfl ?_
    conv => whnf
    repeat (first | (refine Conf.mk (by kernel_rfl) ?_; conv => whnf) | (refine SeqOk.go ?_; conv => whnf))
    exact Ret.bool e.symm
  · have e : behind o x = false := by unfold behind; rw [decide_eq_false h, Bool.false_and]
    refine BoolCase.no (decide_eq_false h) ?_
    conv => whnf
    repeat (first | (refine Conf.mk (by kernel_rfl) ?_; conv => whnf) | (refine SeqOk.go ?_; conv => whnf))
    exact Ret.bool e.symm
theorem isPast_ok (l : List OpD) (o : OpD) (hl : l.length ≤ 140737488355328) (hx : ∀ x ∈ l, x.past.length ≤ 140737488355328) : PCall Tryz.prog 22 [.dat (.list (l.map OpD.enc)), o.arg] (dBool (l.any (behind o))) := by
  refine pcall_intro tab_all tab_mixed Tryz.func22 (by kernel_rfl) Tryz.ntmps22 rfl ?_
  conv => whnf
  conv => whnf
  repeat (first | (refine Conf.mk (by kernel_rfl) ?_; conv => whnf) | (refine SeqOk.go ?_; conv => whnf))
  refine .look _ _ (containsFunc_op hl fun x h => isPast1_ok o x (hx x h)) rfl rfl ?_
  conv => whnf
  repeat (first | (refine Conf.mk (by kernel_rfl) ?_; conv => whnf) | (refine SeqOk.go ?_; conv => whnf))
  exact Ret.bool rfl
end Go.Proofs.YtlioojekjnigiaeGreat.AM.Fo
/- Ops that stand; texts among texts. -/
namespace Go.Proofs.YtlioojekjnigiaeGreat.AM.Fo
set_option linter.unusedVariables false
set_option linter.unusedSimpArgs false

def stands (l : List OpD) (o : OpD) : Bool := decide (o.kind = 1) && !l.any (behind o)
theorem map1_ok (l : List OpD) (o : OpD) (hl : l.length ≤ 140737488355328) (hx : ∀ x ∈ l, x.past.length ≤ 140737488355328) : PCall Tryz.prog 21 [o.arg, .dat (.ptr [.list (l.map OpD.enc)])] (dBool (stands l o)) := by
  refine pcall_intro tab_all tab_mixed Tryz.func21 (by kernel_rfl) Tryz.ntmps21 rfl ?_
  conv => whnf
  conv => whnf
  repeat (first | (refine Conf.mk (by kernel_rfl) ?_; conv => whnf) | (refine SeqOk.go ?_; conv => whnf))
  by_cases h : o.kind = 1
  · have e : stands l o = !l.any (behind o) := by unfold stands; rw [decide_eq_true h, Bool.true_and]
    refine BoolCase.yes (decide_eq_true h) ?_
    conv => whnf
    repeat (first | (refine Conf.mk (by kernel_rfl) ?_; conv => whnf) | (refine SeqOk.go ?_; conv => whnf))
    refine .look _ _ (isPast_ok l o hl hx) rfl rfl ?_
    conv => whnf
    repeat (first | (refine Conf.mk (by kernel_rfl) ?_; conv => whnf) | (refine SeqOk.go ?_; conv => whnf))
    exact Ret.bool e.symm
  · have e : stands l o = false := by unfold stands; rw [decide_eq_false h, Bool.false_and]
    refine BoolCase.no (decide_eq_false h) ?_
    conv => whnf
    repeat (first | (refine Conf.mk (by kernel_rfl) ?_; conv => whnf) | (refine SeqOk.go ?_; conv => whnf))
    exact Ret.bool e.symm
def encS (s : ByteArray) : List D := [.str s]
def isS (x y : ByteArray) : Bool := decide (x = y)
set_option maxHeartbeats 0 in
theorem indexS_ok (x : ByteArray) (l : List ByteArray) (hl : l.length ≤ 140737488355328) : PCall Tryz.prog 100 [.dat (.list (l.map encS)), .dat (.str x)] (dInt (idxOf (isIdx (isS x) l 0))) := by
  refine pcall_intro tab_all tab_mixed Tryz.func100 (by kernel_rfl) Tryz.ntmps100 rfl ?_
  conv => whnf
  refine LoopOk.mk (fun m s => ∃ i, i + m = l.length ∧ isIdx (isS x) l 0 = isIdx (isS x) (l.drop i) i ∧ s = ⟨[(8, dInt i), (7, dInt (l.map encS).length), (0, .dat (.list (l.map encS))), (1, .dat (.str x))], 0, []⟩) l.length (Into.mono (Into.to [] [(8, dInt (0 : Nat)), (7, dInt (l.map encS).length), (0, .dat (.list (l.map encS))), (1, .dat (.str x))] [] (by repeat (first | exact trivial | refine ⟨.same (congrArg dInt (wrap_up (by omega))), ?_⟩ | refine ⟨.same rfl, ?_⟩ | refine ⟨.any _, ?_⟩)) trivial rfl rfl) fun s' h => ⟨0, by omega, rfl, h⟩) ?_
  rintro m s ⟨i, hi, hp, rfl⟩
  conv => whnf
  (first | (refine SeqOk.go ?_; conv => whnf) | skip)
  refine ⟨fun h => ?_, fun h => ?_⟩
  · conv => whnf
    have hi' : i < l.length := by simpa using h
    rw [List.drop_eq_getElem_cons hi'] at hp
    refine AtIdx.ofMap hi' rfl ?_
    conv => whnf
    (first | (refine SeqOk.go ?_; conv => whnf) | skip)
    refine ⟨fun h1 => ?_, fun h1 => ?_⟩
    · have h1 : isS x l[i] = true := h1
      conv => whnf
      refine Ret.int ?_
      rw [hp]
      simp [isIdx, h1, idxOf]
    · have h1 : isS x l[i] = false := h1
      conv => whnf
      refine Into.mono (Into.to [] [(8, dInt (i + 1 : Nat)), (7, dInt (l.map encS).length), (0, .dat (.list (l.map encS))), (1, .dat (.str x))] [] (by repeat (first | exact trivial | refine ⟨.same (congrArg dInt (wrap_up (by omega))), ?_⟩ | refine ⟨.same rfl, ?_⟩ | refine ⟨.any _, ?_⟩)) trivial rfl rfl) fun s' h => ⟨m - 1, by omega, i + 1, by omega, ?_, h⟩
      rw [hp]
      simp [isIdx, h1]
  · conv => whnf
    have hi' : l.length ≤ i := by simpa using h
    refine Ret.int ?_
    rw [hp, List.drop_eq_nil_of_le hi']
    rfl
theorem containsS_ok (x : ByteArray) (l : List ByteArray) (hl : l.length ≤ 140737488355328) : PCall Tryz.prog 75 [.dat (.list (l.map encS)), .dat (.str x)] (dBool (l.any (isS x))) := by
  refine pcall_intro tab_all tab_mixed Tryz.func75 (by kernel_rfl) Tryz.ntmps75 rfl ?_
  conv => whnf
  refine .look _ _ (indexS_ok x l hl) rfl rfl ?_
  conv => whnf
  exact Ret.bool (by rw [← idx_any (isS x) l 0])
/-- A pair of a key and its values. -/
structure PairD where
  key : ByteArray
  vals : List ByteArray
def PairD.enc (p : PairD) : List D := [.str p.key, .list (p.vals.map encS)]
/-- The first value of all. -/
theorem add_first (k v : ByteArray) : ECall Tryz.prog 46 [.nil, .dat (.str k), .dat (.str v)] [] 0 (.row 0) [(0, .vars 60 2 [.dat (.str k), .row 1] true), (1, .rows 9 1 [[.str v]] true)] 2 := by
  refine acall_cut tab_all tab_mixed Tryz.func46 (by kernel_rfl) Tryz.ntmps46 rfl ?_
  conv => whnf
  conv => whnf
  repeat (first | (refine Conf.mk (by kernel_rfl) ?_; conv => whnf) | (refine SeqOk.go ?_; conv => whnf))
  refine BoolCase.yes rfl ?_
  conv => whnf
  repeat (first | (refine Conf.mk (by kernel_rfl) ?_; conv => whnf) | (refine SeqOk.go ?_; conv => whnf))
  refine cond_yes (by kernel_rfl) ?_
  conv => whnf
  repeat (first | (refine Conf.mk (by kernel_rfl) ?_; conv => whnf) | (refine SeqOk.go ?_; conv => whnf))
  refine .mk (Nat.le_of_ble_eq_true (by kernel_rfl)) ?_
  conv => whnf
  repeat (first | (refine Conf.mk (by kernel_rfl) ?_; conv => whnf) | (refine SeqOk.go ?_; conv => whnf))
  exact .mk [] [2, 0] (.row 0) [(0, .vars 60 2 [.dat (.str k), .row 1] true), (1, .rows 9 1 [[.str v]] true)] rfl (.same rfl) ⟨⟨rfl, rfl, rfl, .same rfl, rfl, .same rfl, rfl, trivial⟩, ⟨rfl, rfl, rfl, rfl⟩, trivial⟩ rfl rfl ⟨rfl, rfl, rfl⟩
def doneC (l : List PairD) : List AVal := (l.map PairD.enc).flatten.map .dat
def lastC (l : List PairD) (k : ByteArray) (h : Nat) : List AVal := doneC l ++ [.dat (.str k), .row h]
theorem doneC_len (l : List PairD) : (doneC l).length = l.length * 2 := by
  induction l with
  | nil => rfl
  | cons a l ih =>
    unfold doneC at ih ⊢
    simp only [List.map_cons, List.flatten_cons, List.map_append, List.length_append, ih, List.length_map, List.length_cons, PairD.enc, List.length_nil]
    try omega
theorem fN_go {n : Nat} {k : Nat → Prop} (h : k n) : fN n k := by rw [fN_eq]; exact h
theorem dropA_go {k : List AVal → Prop} : ∀ {off : Nat} {cs ys : List AVal} (hle : off ≤ cs.length) (hd : cs.drop off = ys) (h : k ys), dropA off cs k
  | 0, cs, ys, _, hd, h => by
    obtain rfl : cs = ys := hd
    cases cs <;> exact h
  | n + 1, [], ys, hle, _, _ => absurd hle (by simp)
  | n + 1, a :: t, ys, hle, hd, h => dropA_go (off := n) (cs := t) (by simpa using hle) hd h
theorem lastC_len (l : List PairD) (k : ByteArray) (h : Nat) : (lastC l k h).length = l.length * 2 + 2 := by
  unfold lastC; rw [List.length_append, doneC_len]; rfl
theorem lastC_drop (l : List PairD) (k : ByteArray) (h : Nat) : (lastC l k h).drop (l.length * 2) = [.dat (.str k), .row h] := by
  unfold lastC; rw [← doneC_len, List.drop_left]
theorem lastC_drop1 (l : List PairD) (k : ByteArray) (h : Nat) : (lastC l k h).drop (l.length * 2 + 1) = [.row h] := by
  rw [← List.drop_drop, lastC_drop]; rfl
/-- What is known of a row whose last pair is looked at. -/
structure LastAt (l : List PairD) (k : ByteArray) (h : Nat) (cs : List AVal) : Prop where
  cl : cs.length / 2 = l.length + 1
  le : l.length * 2 ≤ cs.length
  le1 : l.length * 2 + 1 ≤ cs.length
  d0 : cs.drop (l.length * 2) = [.dat (.str k), .row h]
  d1 : cs.drop (l.length * 2 + 1) = [.row h]
  len : cs.length = l.length * 2 + 2
  eq : cs = lastC l k h
theorem lastAt (l : List PairD) (k : ByteArray) (h : Nat) : LastAt l k h (lastC l k h) :=
  ⟨by rw [lastC_len]; omega, by rw [lastC_len]; omega, by rw [lastC_len]; omega, lastC_drop l k h, lastC_drop1 l k h, lastC_len l k h, rfl⟩
theorem dats_fit {g : Nat → Entry} {f : Nat → Nat} : ∀ (ds : List D) {xs ys : List AVal}, cellsFit g f xs ys → cellsFit g f (ds.map .dat ++ xs) (ds.map .dat ++ ys)
  | [], _, _, h => h
  | d :: ds, xs, ys, h => ⟨.same rfl, rfl, dats_fit ds h⟩
theorem LastAt.fit {g : Nat → Entry} {f : Nat → Nat} {l : List PairD} {k : ByteArray} {h h' : Nat} {cs : List AVal} (hc : LastAt l k h cs) (hf : f h' = h) : cellsFit g f (lastC l k h') cs := by
  rw [hc.eq]
  exact dats_fit _ ⟨.same rfl, rfl, .same (congrArg AVal.row hf), rfl, trivial⟩
theorem LastAt.fit_self {g : Nat → Entry} {f : Nat → Nat} {l : List PairD} {k : ByteArray} {h : Nat} {cs : List AVal} (hc : LastAt l k h cs) (hf : f h = h) : cellsFit g f cs cs := by
  have := hc.fit (g := g) (h' := h) hf
  rw [← hc.eq] at this
  exact this
theorem hb_dats {n : Nat} {xs : List AVal} (h : AVal.hb.hbL n xs = true) : ∀ ds : List D, AVal.hb.hbL n (ds.map .dat ++ xs) = true
  | [] => h
  | d :: ds => by
    show (true && AVal.hb.hbL n (ds.map .dat ++ xs)) = true
    rw [hb_dats h ds]; rfl
theorem LastAt.hb {n : Nat} {l : List PairD} {k : ByteArray} {h : Nat} {cs : List AVal} (hc : LastAt l k h cs) (hn : Nat.blt h n = true) : AVal.hb.hbL n cs = true := by
  rw [hc.eq]
  exact hb_dats (by show (true && (Nat.blt h n && true)) = true; rw [hn]; rfl) _
theorem put_go {off : Nat} {vs cs cs' : List AVal} {K : List AVal → Prop} (h : putA off vs cs = some cs') (hk : K cs') : (match putA off vs cs with
    | some cs' => K cs'
    | none => False) := by rw [h]; exact hk
theorem putA_dats {vs xs ys : List AVal} : ∀ (n : Nat) (ds : List D), ds.length = n → putA 0 vs xs = some ys → putA n vs (ds.map .dat ++ xs) = some (ds.map .dat ++ ys)
  | 0, [], _, h => h
  | n + 1, d :: ds, hn, h => by
    show (putA n vs (ds.map .dat ++ xs)).map _ = _
    rw [putA_dats n ds (by simpa using hn) h]
    rfl
  | n + 1, [], hn, _ => absurd hn (by simp)
  | 0, _ :: _, hn, _ => absurd hn (by simp)
theorem LastAt.put {l : List PairD} {k : ByteArray} {h h' : Nat} {cs : List AVal} (hc : LastAt l k h cs) : putA (l.length * 2 + 1) [.row h'] cs = some (lastC l k h') := by
  have e : ∀ j, lastC l k j = ((l.map PairD.enc).flatten ++ [D.str k]).map AVal.dat ++ [AVal.row j] := fun j => by
    unfold lastC doneC
    rw [List.map_append, List.append_assoc]
    rfl
  rw [hc.eq, e, e]
  refine putA_dats _ _ ?_ rfl
  have := doneC_len l
  unfold doneC at this
  rw [List.length_map] at this
  rw [List.length_append, this]
  rfl
theorem fL_go {l : List AVal} {k : List AVal → Prop} (h : k l) : fA.fL l k := by rw [fA_both.2]; exact h
theorem LastAt.fit_new {g : Nat → Entry} {f : Nat → Nat} {l : List PairD} {k0 k : ByteArray} {h h1 h2 : Nat} {vs : List ByteArray} {cs : List AVal} (hc : LastAt l k0 h cs) (hd : Fit g (.dat (.list (vs.map encS))) (.row h)) (hf : f h1 = h2) : cellsFit g f (lastC (l ++ [⟨k0, vs⟩]) k h1) (cs ++ [.dat (.str k), .row h2]) := by
  have e : lastC (l ++ [⟨k0, vs⟩]) k h1 = (l.map PairD.enc).flatten.map AVal.dat ++ [.dat (.str k0), .dat (.list (vs.map encS)), .dat (.str k), .row h1] := by
    unfold lastC doneC
    rw [List.map_append, List.flatten_append, List.map_append, List.append_assoc]
    rfl
  rw [hc.eq, e]
  unfold lastC doneC
  rw [List.append_assoc]
  exact dats_fit _ ⟨.same rfl, rfl, hd, rfl, .same rfl, rfl, .same (congrArg AVal.row hf), rfl, trivial⟩
/-- The same value again. -/
theorem add_had (l : List PairD) (k v : ByteArray) (vs : List ByteArray) (cs : List AVal) (hc : LastAt l k 1 cs) (hv : vs.any (isS v) = true) (hl : vs.length ≤ 1000) (hn : l.length ≤ 1000) : ECall Tryz.prog 46 [.row 0, .dat (.str k), .dat (.str v)] [(0, .vars 60 2 cs true), (1, .rows 9 1 (vs.map encS) true)] 2 (.row 0) [(0, .vars 60 2 cs true), (1, .rows 9 1 (vs.map encS) true)] 0 := by
  have ew : IntKind.i64.wrap (((cs.length / 2 : Nat) : Int) - 1) = (l.length : Int) := by rw [hc.cl, wrap_id (by omega) (by omega)]; omega
  refine acall_cut tab_all tab_mixed Tryz.func46 (by kernel_rfl) Tryz.ntmps46 rfl ?_
  conv => whnf
  conv => whnf
  repeat (first | (refine Conf.mk (by kernel_rfl) ?_; conv => whnf) | (refine SeqOk.go ?_; conv => whnf))
  refine BoolCase.no (by rw [hc.cl]; simp; omega) ?_
  conv => whnf
  refine .mk l.length ew (by rw [hc.cl]; omega) ?_
  conv => whnf
  (refine fN_go ?_; conv => whnf)
  (refine fN_go ?_; conv => whnf)
  refine dropA_go hc.le hc.d0 ?_
  conv => whnf
  repeat (first | (refine Conf.mk (by kernel_rfl) ?_; conv => whnf) | (refine SeqOk.go ?_; conv => whnf))
  refine BoolCase.no (by simp) ?_
  conv => whnf
  repeat (first | (refine Conf.mk (by kernel_rfl) ?_; conv => whnf) | (refine SeqOk.go ?_; conv => whnf))
  refine .mk l.length ew (by rw [hc.cl]; omega) ?_
  conv => whnf
  repeat (refine fN_go ?_; conv => whnf)
  conv => whnf
  repeat (first | (refine Conf.mk (by kernel_rfl) ?_; conv => whnf) | (refine SeqOk.go ?_; conv => whnf))
  repeat (refine fN_go ?_; conv => whnf)
  refine dropA_go hc.le1 hc.d1 ?_
  conv => whnf
  repeat (first | (refine Conf.mk (by kernel_rfl) ?_; conv => whnf) | (refine SeqOk.go ?_; conv => whnf))
  refine .look _ _ (hv ▸ containsS_ok v vs (by omega)).kb rfl rfl ?_
  conv => whnf
  repeat (first | (refine Conf.mk (by kernel_rfl) ?_; conv => whnf) | (refine SeqOk.go ?_; conv => whnf))
  exact .mk [] [0, 1] (.row 0) [(0, .vars 60 2 cs true), (1, .rows 9 1 (vs.map encS) true)] rfl (.same rfl) ⟨⟨rfl, rfl, rfl, hc.fit_self rfl⟩, ⟨rfl, rfl, rfl, rfl⟩, trivial⟩ rfl (by show (true && ((true && AVal.hb.hbL 2 cs) && true)) = true; rw [hc.hb rfl]; rfl) ⟨rfl, rfl, rfl⟩
/-- Another value of the same key. -/
theorem add_more (l : List PairD) (k v : ByteArray) (vs : List ByteArray) (cs : List AVal) (hc : LastAt l k 1 cs) (hv : vs.any (isS v) = false) (hl : vs.length ≤ 1000) (hn : l.length ≤ 1000) : ECall Tryz.prog 46 [.row 0, .dat (.str k), .dat (.str v)] [(0, .vars 60 2 cs true), (1, .rows 9 1 (vs.map encS) true)] 2 (.row 0) [(0, .vars 60 2 (lastC l k 2) true), (1, .dead), (2, .rows 9 1 ((vs ++ [v]).map encS) true)] 1 := by
  have ew : IntKind.i64.wrap (((cs.length / 2 : Nat) : Int) - 1) = (l.length : Int) := by rw [hc.cl, wrap_id (by omega) (by omega)]; omega
  refine acall_cut tab_all tab_mixed Tryz.func46 (by kernel_rfl) Tryz.ntmps46 rfl ?_
  conv => whnf
  conv => whnf
  repeat (first | (refine Conf.mk (by kernel_rfl) ?_; conv => whnf) | (refine SeqOk.go ?_; conv => whnf))
  refine BoolCase.no (by rw [hc.cl]; simp; omega) ?_
  conv => whnf
  refine .mk l.length ew (by rw [hc.cl]; omega) ?_
  conv => whnf
  (refine fN_go ?_; conv => whnf)
  (refine fN_go ?_; conv => whnf)
  refine dropA_go hc.le hc.d0 ?_
  conv => whnf
  repeat (first | (refine Conf.mk (by kernel_rfl) ?_; conv => whnf) | (refine SeqOk.go ?_; conv => whnf))
  refine BoolCase.no (by simp) ?_
  conv => whnf
  repeat (first | (refine Conf.mk (by kernel_rfl) ?_; conv => whnf) | (refine SeqOk.go ?_; conv => whnf))
  refine .mk l.length ew (by rw [hc.cl]; omega) ?_
  conv => whnf
  repeat (refine fN_go ?_; conv => whnf)
  conv => whnf
  repeat (first | (refine Conf.mk (by kernel_rfl) ?_; conv => whnf) | (refine SeqOk.go ?_; conv => whnf))
  repeat (refine fN_go ?_; conv => whnf)
  refine dropA_go hc.le1 hc.d1 ?_
  conv => whnf
  repeat (first | (refine Conf.mk (by kernel_rfl) ?_; conv => whnf) | (refine SeqOk.go ?_; conv => whnf))
  refine .look _ _ (hv ▸ containsS_ok v vs (by omega)).kb rfl rfl ?_
  conv => whnf
  repeat (first | (refine Conf.mk (by kernel_rfl) ?_; conv => whnf) | (refine SeqOk.go ?_; conv => whnf))
  repeat (refine fN_go ?_; conv => whnf)
  refine dropA_go hc.le1 hc.d1 ?_
  conv => whnf
  repeat (first | (refine Conf.mk (by kernel_rfl) ?_; conv => whnf) | (refine SeqOk.go ?_; conv => whnf))
  refine .mk (by simp) (show ((vs.map encS).length + 1) * 16 ≤ 140737488355328 by rw [List.length_map]; omega) ?_
  conv => whnf
  repeat (first | (refine Conf.mk (by kernel_rfl) ?_; conv => whnf) | (refine SeqOk.go ?_; conv => whnf))
  repeat (refine fN_go ?_; conv => whnf)
  refine put_go hc.put ?_
  conv => whnf
  repeat (first | (refine Conf.mk (by kernel_rfl) ?_; conv => whnf) | (refine SeqOk.go ?_; conv => whnf))
  (refine fL_go ?_; conv => whnf)
  conv => whnf
  repeat (first | (refine Conf.mk (by kernel_rfl) ?_; conv => whnf) | (refine SeqOk.go ?_; conv => whnf))
  have hc2 := lastAt l k 2
  exact .mk [] [0, 1, 3] (.row 0) [(0, .vars 60 2 (lastC l k 2) true), (1, .dead), (2, .rows 9 1 ((vs ++ [v]).map encS) true)] rfl (.same rfl) ⟨⟨rfl, rfl, rfl, (lastAt l k 3).fit (h' := 2) rfl⟩, trivial, ⟨rfl, rfl, rfl, by simp [encS]⟩, trivial⟩ rfl (by show (true && ((true && AVal.hb.hbL 3 (lastC l k 2)) && true)) = true; rw [hc2.hb rfl]; rfl) ⟨rfl, rfl, rfl⟩
/-- Another key. -/
theorem add_new (l : List PairD) (k0 k v : ByteArray) (vs : List ByteArray) (cs : List AVal) (hc : LastAt l k0 1 cs) (hk : k0 ≠ k) (hl : vs.length ≤ 1000) (hn : l.length ≤ 1000) : ECall Tryz.prog 46 [.row 0, .dat (.str k), .dat (.str v)] [(0, .vars 60 2 cs true), (1, .rows 9 1 (vs.map encS) true)] 2 (.row 2) [(0, .dead), (1, .dead), (2, .vars 60 2 (lastC (l ++ [⟨k0, vs⟩]) k 3) true), (3, .rows 9 1 [[.str v]] true)] 2 := by
  have ew : IntKind.i64.wrap (((cs.length / 2 : Nat) : Int) - 1) = (l.length : Int) := by rw [hc.cl, wrap_id (by omega) (by omega)]; omega
  refine acall_cut tab_all tab_mixed Tryz.func46 (by kernel_rfl) Tryz.ntmps46 rfl ?_
  conv => whnf
  conv => whnf
  repeat (first | (refine Conf.mk (by kernel_rfl) ?_; conv => whnf) | (refine SeqOk.go ?_; conv => whnf))
  refine BoolCase.no (by rw [hc.cl]; simp; omega) ?_
  conv => whnf
  refine .mk l.length ew (by rw [hc.cl]; omega) ?_
  conv => whnf
  (refine fN_go ?_; conv => whnf)
  (refine fN_go ?_; conv => whnf)
  refine dropA_go hc.le hc.d0 ?_
  conv => whnf
  repeat (first | (refine Conf.mk (by kernel_rfl) ?_; conv => whnf) | (refine SeqOk.go ?_; conv => whnf))
  refine BoolCase.yes (by simp [hk]) ?_
  conv => whnf
  repeat (first | (refine Conf.mk (by kernel_rfl) ?_; conv => whnf) | (refine SeqOk.go ?_; conv => whnf))
  refine cond_yes (by kernel_rfl) ?_
  conv => whnf
  repeat (first | (refine Conf.mk (by kernel_rfl) ?_; conv => whnf) | (refine SeqOk.go ?_; conv => whnf))
  refine .mk ?_ ?_
  · have := hc.cl
    simp only [List.length_cons, List.length_nil]
    omega
  conv => whnf
  (refine fL_go ?_; conv => whnf)
  conv => whnf
  repeat (first | (refine Conf.mk (by kernel_rfl) ?_; conv => whnf) | (refine SeqOk.go ?_; conv => whnf))
  have hc2 := lastAt (l ++ [⟨k0, vs⟩]) k 3
  exact .mk [1] [0, 1, 4, 2] (.row 2) [(0, .dead), (1, .dead), (2, .vars 60 2 (lastC (l ++ [⟨k0, vs⟩]) k 3) true), (3, .rows 9 1 [[.str v]] true)] rfl (.same rfl) ⟨trivial, trivial, ⟨rfl, rfl, rfl, hc.fit_new (.data rfl) rfl⟩, ⟨rfl, rfl, rfl, rfl⟩, trivial⟩ rfl (by show (true && (true && (true && ((true && AVal.hb.hbL 4 (lastC (l ++ [⟨k0, vs⟩]) k 3)) && true)))) = true; rw [hc2.hb rfl]; rfl) ⟨rfl, rfl, rfl⟩
end Go.Proofs.YtlioojekjnigiaeGreat.AM.Fo
/- Ops to pairs. -/
namespace Go.Proofs.YtlioojekjnigiaeGreat.AM.Fo
set_option linter.unusedVariables false
set_option linter.unusedSimpArgs false
abbrev PS := Option (List PairD × PairD)
def addS : PS → ByteArray → ByteArray → PS
  | none, k, v => some ([], ⟨k, [v]⟩)
  | some (d, p), k, v => if p.key = k then (if p.vals.any (isS v) = true then some (d, p) else some (d, ⟨k, p.vals ++ [v]⟩)) else some (d ++ [p], ⟨k, [v]⟩)
theorem addS_some (d : List PairD) (p : PairD) (k v : ByteArray) : addS (some (d, p)) k v = if p.key = k then (if p.vals.any (isS v) = true then some (d, p) else some (d, ⟨k, p.vals ++ [v]⟩)) else some (d ++ [p], ⟨k, [v]⟩) := rfl
def flatS : PS → List PairD
  | none => []
  | some (d, p) => d ++ [p]
def pairsS (os : List OpD) : PS := os.foldl (fun s o => addS s o.key o.val) none
theorem pairsS_snoc (os : List OpD) (o : OpD) : pairsS (os ++ [o]) = addS (pairsS os) o.key o.val := by unfold pairsS; rw [List.foldl_append]; rfl
theorem pairsS_small (os : List OpD) : ∀ d p, pairsS os = some (d, p) → d.length ≤ os.length ∧ p.vals.length ≤ os.length := by
  suffices ∀ (os : List OpD) (s : PS) (n : Nat), (∀ d p, s = some (d, p) → d.length ≤ n ∧ p.vals.length ≤ n) → ∀ d p, os.foldl (fun s o => addS s o.key o.val) s = some (d, p) → d.length ≤ n + os.length ∧ p.vals.length ≤ n + os.length by
    intro d p h
    have := this os none 0 (fun d p h => by cases h) d p h
    omega
  intro os
  induction os with
  | nil => intro s n h d p hs; exact h d p hs
  | cons o os ih =>
    intro s n h d p hs
    have := ih (addS s o.key o.val) (n + 1) (fun d p hs => ?_) d p hs
    · simp only [List.length_cons]; omega
    · match s, h with
      | none, h => cases hs; exact ⟨Nat.zero_le _, by simp⟩
      | some (d0, p0), h =>
        have h0 := h d0 p0 rfl
        change (if p0.key = o.key then (if p0.vals.any (isS o.val) = true then some (d0, p0) else some (d0, ⟨o.key, p0.vals ++ [o.val]⟩)) else some (d0 ++ [p0], ⟨o.key, [o.val]⟩)) = some (d, p) at hs
        split at hs
        · split at hs
          · cases hs; omega
          · cases hs; simp; omega
        · cases hs; simp; omega
theorem flat_len (l : List PairD) : (l.map PairD.enc).flatten.length = l.length * 2 := by
  have := doneC_len l
  unfold doneC at this
  rw [List.length_map] at this
  exact this
theorem flat_at : ∀ (l : List PairD) (i : Nat) (p : PairD), l[i]? = some p → ((l.map PairD.enc).flatten.drop (i * 2)).take 2 = p.enc
  | [], i, p, h => by simp at h
  | a :: l, 0, p, h => by
    obtain rfl : a = p := by simpa using h
    rfl
  | a :: l, i + 1, p, h => by
    have := flat_at l i p (by simpa using h)
    rw [← this]
    rw [show (i + 1) * 2 = 2 + i * 2 by omega, ← List.drop_drop]
    rfl
theorem cutD_flat (l : List PairD) : cutD 2 l.length (l.map PairD.enc).flatten = l.map PairD.enc := by
  unfold cutD
  apply List.ext_getElem
  · simp
  · intro i h1 h2
    rw [List.getElem_map, List.getElem_range, List.getElem_map]
    exact flat_at l i _ (List.getElem?_eq_getElem (by simpa using h2))
theorem toD_dats {g : Nat → Entry} {n : Nat} {xs : List AVal} {ys : List D} (h : xs.mapM (toD g (n + 1)) = some ys) : ∀ ds : List D, (ds.map AVal.dat ++ xs).mapM (toD g (n + 1)) = some (ds ++ ys)
  | [] => h
  | d :: ds => by
    rw [List.map_cons, List.cons_append, List.mapM_cons, toD_dats h ds]
    rfl
theorem pairs_data {g : Nat → Entry} {d : List PairD} {p : PairD} {cs : List AVal} {b : Bool} (hc : LastAt d p.key 1 cs) (h0 : g 0 = .vars 60 2 cs b) (h1 : g 1 = .rows 9 1 (p.vals.map encS) b) : toD g 6 (.row 0) = some (.list ((d ++ [p]).map PairD.enc)) := by
  have e : cs.mapM (toD g 5) = some ((d ++ [p]).map PairD.enc).flatten := by
    rw [hc.eq]
    unfold lastC doneC
    rw [toD_dats (n := 4) (ys := p.enc)]
    · rw [List.map_append, List.flatten_append]; rfl
    · rw [List.mapM_cons, List.mapM_cons, List.mapM_nil]
      show (do let a ← some (D.str p.key); let t ← (do let b ← toD g 5 (.row 1); let u ← some []; some (b :: u)); some (a :: t)) = _
      have e1 : toD g 5 (.row 1) = some (.list (p.vals.map encS)) := by simp only [toD, h1]
      rw [e1]
      rfl
  have e2 : cs.length % 2 = 0 := by rw [hc.len]; omega
  have e0 : toD g 6 (.row 0) = (bif Nat.blt 0 2 && Nat.beq (cs.length % 2) 0 then (cs.mapM (toD g 5)).map fun ds => D.list (cutD 2 (ds.length / 2) ds) else none) := by simp only [toD, h0]
  rw [e0, e2, e]
  show some (D.list (cutD 2 (((d ++ [p]).map PairD.enc).flatten.length / 2) ((d ++ [p]).map PairD.enc).flatten)) = _
  rw [flat_len, Nat.mul_div_cancel _ (by decide), cutD_flat]
theorem ren_dats {f : Nat → Nat} {xs ys : List AVal} (h : AVal.ren.renL f xs = ys) : ∀ ds : List D, AVal.ren.renL f (ds.map .dat ++ xs) = ds.map .dat ++ ys
  | [] => h
  | d :: ds => by
    show AVal.dat d :: AVal.ren.renL f (ds.map .dat ++ xs) = _
    rw [ren_dats h ds]; rfl
theorem lastC_ren {f : Nat → Nat} {l : List PairD} {k : ByteArray} {h h' : Nat} (hf : f h = h') : AVal.ren.renL f (lastC l k h) = lastC l k h' :=
  ren_dats (xs := [.dat (.str k), .row h]) (ys := [.dat (.str k), .row h']) (show [AVal.dat (.str k), AVal.row (f h)] = _ by rw [hf]) _
theorem LastAt.ren {f : Nat → Nat} {l : List PairD} {k : ByteArray} {h : Nat} {cs : List AVal} (hc : LastAt l k h cs) (hf : f h = h) : AVal.ren.renL f cs = cs := by
  have := lastC_ren (l := l) (k := k) hf
  rw [← hc.eq] at this
  exact this
theorem eff_hg {f : Nat → Nat} {T sz : Nat} {e : Entry} {l : List PairD} {k : ByteArray} {cs : List AVal} (hc : LastAt l k 1 cs) (hf : f 1 = 1) : [Entry.vars T sz cs true, e] = [Entry.vars T sz (AVal.ren.renL f cs) true, e] := by rw [hc.ren hf]
theorem fL_to {l l' : List AVal} {k : List AVal → Prop} (e : l = l') (h : k l') : fA.fL l k := by rw [fA_both.2, e]; exact h
def keptOps (l os : List OpD) : List OpD := os.filter (stands l)
set_option maxHeartbeats 0 in
theorem pairsOf_ok (l : List OpD) (hl : l.length ≤ 1000) (hx : ∀ x ∈ l, x.past.length ≤ 140737488355328) (ps : List PairD) (hps : ∀ l', SortedOf l l' → flatS (pairsS (keptOps l l')) = ps) : PCall Tryz.prog 20 [.dat (.list (l.map OpD.enc)), .fn (.func 21) [] [.dat (.ptr [.list (l.map OpD.enc)])]] (.dat (.list (ps.map PairD.enc))) := by
  refine pcall_cut tab_all tab_mixed Tryz.func20 (by kernel_rfl) Tryz.ntmps20 rfl ?_
  conv => whnf
  conv => whnf
  repeat (first | (refine Conf.mk (by kernel_rfl) ?_; conv => whnf) | (refine SeqOk.go ?_; conv => whnf))
  refine .data _ _ (values_ok l) rfl ?_
  conv => whnf
  repeat (first | (refine Conf.mk (by kernel_rfl) ?_; conv => whnf) | (refine SeqOk.go ?_; conv => whnf))
  refine .some [] _ _ _ rfl (sortedFunc_ok l hl) rfl rfl rfl rfl rfl ?_
  rintro x Hc' m' ⟨l', hs, rfl, rfl, hm'⟩
  obtain rfl : m' = 0 := by simp at hm'; omega
  have hlen : l'.length ≤ 1000 := by have := hs.1.length_eq; omega
  have hps' := hps l' hs
  clear hps
  conv => whnf
  repeat (first | (refine Conf.mk (by kernel_rfl) ?_; conv => whnf) | (refine SeqOk.go ?_; conv => whnf))
  refine LoopOk.hide fun Q1 hQ1 => ?_
  refine LoopOk.mk (fun m s => ∃ i, i + m = l'.length ∧ ((pairsS (keptOps l (l'.take i)) = none ∧ s = ⟨[(12, dInt i), (11, dInt (l'.map OpD.enc).length), (5, .nil), (10, .dat (.list (l'.map OpD.enc))), (1, .fn (.func 21) [] [.dat (.ptr [.list (l.map OpD.enc)])])], 0, []⟩) ∨ ∃ d p cs, pairsS (keptOps l (l'.take i)) = some (d, p) ∧ LastAt d p.key 1 cs ∧ s = ⟨[(12, dInt i), (11, dInt (l'.map OpD.enc).length), (5, .row 0), (10, .dat (.list (l'.map OpD.enc))), (1, .fn (.func 21) [] [.dat (.ptr [.list (l.map OpD.enc)])])], 2, [(0, .vars 60 2 cs true), (1, .rows 9 1 (p.vals.map encS) true)]⟩)) l'.length (Into.mono (Into.to [] [(12, dInt (0 : Nat)), (11, dInt (l'.map OpD.enc).length), (5, .nil), (10, .dat (.list (l'.map OpD.enc))), (1, .fn (.func 21) [] [.dat (.ptr [.list (l.map OpD.enc)])])] [] (by repeat (first | exact trivial | refine ⟨.same (congrArg dInt (wrap_up (by omega))), ?_⟩ | refine ⟨.same rfl, ?_⟩ | refine ⟨.any _, ?_⟩)) trivial rfl rfl) fun s' h => ⟨0, by omega, .inl ⟨rfl, h⟩⟩) ?_
  rintro m s ⟨i, hi, hS⟩
  have hst : ∀ (h : i < l'.length), keptOps l (l'.take (i + 1)) = keptOps l (l'.take i) ++ if stands l l'[i] = true then [l'[i]] else [] := fun h => filter_snoc (stands l) (List.getElem?_eq_getElem h)
  have hsm := pairsS_small (keptOps l (l'.take i))
  have hkl : (keptOps l (l'.take i)).length ≤ i := Nat.le_trans (List.length_filter_le _ _) (by simp; omega)
  rcases hS with ⟨hS, rfl⟩ | ⟨d, p, cs, hS, hc, rfl⟩
  · conv => whnf
    repeat (first | (refine Conf.mk (by kernel_rfl) ?_; conv => whnf) | (refine SeqOk.go ?_; conv => whnf))
    refine ⟨fun h => ?_, fun h => ?_⟩
    · have hi' : i < l'.length := by simpa using h
      have hst := hst hi'
      conv => whnf
      repeat (first | (refine Conf.mk (by kernel_rfl) ?_; conv => whnf) | (refine SeqOk.go ?_; conv => whnf))
      refine AtIdx.ofMap hi' rfl ?_
      conv => whnf
      repeat (first | (refine Conf.mk (by kernel_rfl) ?_; conv => whnf) | (refine SeqOk.go ?_; conv => whnf))
      refine .look _ _ (map1_ok l l'[i] (by omega) hx) rfl rfl ?_
      conv => whnf
      repeat (first | (refine Conf.mk (by kernel_rfl) ?_; conv => whnf) | (refine SeqOk.go ?_; conv => whnf))
      cases hS2 : stands l l'[i]
      · rw [if_neg (by simp [hS2]), List.append_nil] at hst
        refine BoolCase.no rfl ?_
        conv => whnf
        repeat (first | (refine Conf.mk (by kernel_rfl) ?_; conv => whnf) | (refine SeqOk.go ?_; conv => whnf))
        refine Into.mono (Into.to [] [(12, dInt (i + 1 : Nat)), (11, dInt (l'.map OpD.enc).length), (5, .nil), (10, .dat (.list (l'.map OpD.enc))), (1, .fn (.func 21) [] [.dat (.ptr [.list (l.map OpD.enc)])])] [] (by repeat (first | exact trivial | refine ⟨.same (congrArg dInt (wrap_up (by omega))), ?_⟩ | refine ⟨.same rfl, ?_⟩ | refine ⟨.any _, ?_⟩)) trivial rfl rfl) fun s' h => ⟨m - 1, by omega, i + 1, by omega, .inl ⟨by rw [hst]; exact hS, h⟩⟩
      · rw [if_pos hS2] at hst
        refine BoolCase.yes rfl ?_
        conv => whnf
        repeat (first | (refine Conf.mk (by kernel_rfl) ?_; conv => whnf) | (refine SeqOk.go ?_; conv => whnf))
        refine .eff [] _ _ _ _ 2 (add_first l'[i].key l'[i].val) rfl rfl rfl rfl rfl ?_
        conv => whnf
        repeat (first | (refine Conf.mk (by kernel_rfl) ?_; conv => whnf) | (refine SeqOk.go ?_; conv => whnf))
        refine Into.mono (Into.to [1, 2] [(12, dInt (i + 1 : Nat)), (11, dInt (l'.map OpD.enc).length), (5, .row 0), (10, .dat (.list (l'.map OpD.enc))), (1, .fn (.func 21) [] [.dat (.ptr [.list (l.map OpD.enc)])])] [(0, .vars 60 2 [.dat (.str l'[i].key), .row 1] true), (1, .rows 9 1 [[.str l'[i].val]] true)] (by repeat (first | exact trivial | refine ⟨.same (congrArg dInt (wrap_up (by omega))), ?_⟩ | refine ⟨.same rfl, ?_⟩ | refine ⟨.any _, ?_⟩)) ⟨⟨rfl, rfl, rfl, .same rfl, rfl, .same rfl, rfl, trivial⟩, ⟨rfl, rfl, rfl, rfl⟩, trivial⟩ rfl rfl) fun s' h => ⟨m - 1, by omega, i + 1, by omega, .inr ⟨[], ⟨l'[i].key, [l'[i].val]⟩, _, by rw [hst, pairsS_snoc, hS]; rfl, lastAt [] l'[i].key 1, h⟩⟩
    · have hi' : l'.length ≤ i := by simpa using h
      rw [List.take_of_length_le hi'] at hS
      conv => whnf
      repeat (first | (refine Conf.mk (by kernel_rfl) ?_; conv => whnf) | (refine SeqOk.go ?_; conv => whnf))
      subst hQ1
      conv => whnf
      exact Ret.to (by rw [← hps', hS]; rfl)
  · have hsm := hsm d p hS
    conv => whnf
    repeat (first | (refine Conf.mk (by kernel_rfl) ?_; conv => whnf) | (refine SeqOk.go ?_; conv => whnf))
    refine ⟨fun h => ?_, fun h => ?_⟩
    · have hi' : i < l'.length := by simpa using h
      have hst := hst hi'
      conv => whnf
      repeat (first | (refine Conf.mk (by kernel_rfl) ?_; conv => whnf) | (refine SeqOk.go ?_; conv => whnf))
      refine AtIdx.ofMap hi' rfl ?_
      conv => whnf
      repeat (first | (refine Conf.mk (by kernel_rfl) ?_; conv => whnf) | (refine SeqOk.go ?_; conv => whnf))
      refine .look _ _ (map1_ok l l'[i] (by omega) hx) rfl rfl ?_
      conv => whnf
      repeat (first | (refine Conf.mk (by kernel_rfl) ?_; conv => whnf) | (refine SeqOk.go ?_; conv => whnf))
      cases hS2 : stands l l'[i]
      · rw [if_neg (by simp [hS2]), List.append_nil] at hst
        refine BoolCase.no rfl ?_
        conv => whnf
        repeat (first | (refine Conf.mk (by kernel_rfl) ?_; conv => whnf) | (refine SeqOk.go ?_; conv => whnf))
        refine Into.mono (Into.to [0, 1] [(12, dInt (i + 1 : Nat)), (11, dInt (l'.map OpD.enc).length), (5, .row 0), (10, .dat (.list (l'.map OpD.enc))), (1, .fn (.func 21) [] [.dat (.ptr [.list (l.map OpD.enc)])])] [(0, .vars 60 2 cs true), (1, .rows 9 1 (p.vals.map encS) true)] (by repeat (first | exact trivial | refine ⟨.same (congrArg dInt (wrap_up (by omega))), ?_⟩ | refine ⟨.same rfl, ?_⟩ | refine ⟨.any _, ?_⟩)) ⟨⟨rfl, rfl, rfl, hc.fit_self rfl⟩, ⟨rfl, rfl, rfl, rfl⟩, trivial⟩ rfl (by show (true && ((true && AVal.hb.hbL 2 cs) && true)) = true; rw [hc.hb rfl]; rfl)) fun s' h => ⟨m - 1, by omega, i + 1, by omega, .inr ⟨d, p, cs, by rw [hst]; exact hS, hc, h⟩⟩
      · rw [if_pos hS2] at hst
        refine BoolCase.yes rfl ?_
        conv => whnf
        repeat (first | (refine Conf.mk (by kernel_rfl) ?_; conv => whnf) | (refine SeqOk.go ?_; conv => whnf))
        by_cases hk : p.key = l'[i].key
        · rw [hk] at hc
          cases hv : p.vals.any (isS l'[i].val)
          · refine .eff [0, 1] _ _ _ _ 1 (add_more d l'[i].key l'[i].val p.vals cs hc hv (by omega) (by omega)) rfl (eff_hg hc rfl) rfl rfl (by show (true && ((true && AVal.hb.hbL 2 cs) && true)) = true; rw [hc.hb rfl]; rfl) ?_
            conv => whnf
            refine fL_to (l' := lastC d l'[i].key 3) (lastC_ren rfl) ?_
            conv => whnf
            conv => whnf
            repeat (first | (refine Conf.mk (by kernel_rfl) ?_; conv => whnf) | (refine SeqOk.go ?_; conv => whnf))
            refine Into.mono (Into.to [0, 3] [(12, dInt (i + 1 : Nat)), (11, dInt (l'.map OpD.enc).length), (5, .row 0), (10, .dat (.list (l'.map OpD.enc))), (1, .fn (.func 21) [] [.dat (.ptr [.list (l.map OpD.enc)])])] [(0, .vars 60 2 (lastC d l'[i].key 1) true), (1, .rows 9 1 ((p.vals ++ [l'[i].val]).map encS) true)] (by repeat (first | exact trivial | refine ⟨.same (congrArg dInt (wrap_up (by omega))), ?_⟩ | refine ⟨.same rfl, ?_⟩ | refine ⟨.any _, ?_⟩)) ⟨⟨rfl, rfl, rfl, (lastAt _ _ 3).fit (h' := 1) rfl⟩, ⟨rfl, rfl, rfl, by simp [encS]⟩, trivial⟩ rfl (by show (true && ((true && AVal.hb.hbL 2 (lastC d l'[i].key 1)) && true)) = true; rw [(lastAt _ _ 1).hb rfl]; rfl)) fun s' h => ⟨m - 1, by omega, i + 1, by omega, .inr ⟨d, ⟨l'[i].key, p.vals ++ [l'[i].val]⟩, _, by rw [hst, pairsS_snoc, hS]; rw [addS_some, if_pos hk, if_neg (by simp [hv])], lastAt d l'[i].key 1, h⟩⟩
          · refine .eff [0, 1] _ _ _ _ 0 (add_had d l'[i].key l'[i].val p.vals cs hc hv (by omega) (by omega)) rfl (eff_hg hc rfl) rfl rfl (by show (true && ((true && AVal.hb.hbL 2 cs) && true)) = true; rw [hc.hb rfl]; rfl) ?_
            conv => whnf
            refine fL_to (l' := cs) (hc.ren rfl) ?_
            conv => whnf
            conv => whnf
            repeat (first | (refine Conf.mk (by kernel_rfl) ?_; conv => whnf) | (refine SeqOk.go ?_; conv => whnf))
            refine Into.mono (Into.to [0, 1] [(12, dInt (i + 1 : Nat)), (11, dInt (l'.map OpD.enc).length), (5, .row 0), (10, .dat (.list (l'.map OpD.enc))), (1, .fn (.func 21) [] [.dat (.ptr [.list (l.map OpD.enc)])])] [(0, .vars 60 2 (cs) true), (1, .rows 9 1 (p.vals.map encS) true)] (by repeat (first | exact trivial | refine ⟨.same (congrArg dInt (wrap_up (by omega))), ?_⟩ | refine ⟨.same rfl, ?_⟩ | refine ⟨.any _, ?_⟩)) ⟨⟨rfl, rfl, rfl, hc.fit_self rfl⟩, ⟨rfl, rfl, rfl, by simp [encS]⟩, trivial⟩ rfl (by show (true && ((true && AVal.hb.hbL 2 (cs)) && true)) = true; rw [hc.hb rfl]; rfl)) fun s' h => ⟨m - 1, by omega, i + 1, by omega, .inr ⟨d, p, _, by rw [hst, pairsS_snoc, hS]; rw [addS_some, if_pos hk, if_pos hv], hk ▸ hc, h⟩⟩
        · refine .eff [0, 1] _ _ _ _ 2 (add_new d p.key l'[i].key l'[i].val p.vals cs hc hk (by omega) (by omega)) rfl (eff_hg hc rfl) rfl rfl (by show (true && ((true && AVal.hb.hbL 2 cs) && true)) = true; rw [hc.hb rfl]; rfl) ?_
          conv => whnf
          refine fL_to (l' := lastC (d ++ [p]) l'[i].key 4) (lastC_ren rfl) ?_
          conv => whnf
          conv => whnf
          repeat (first | (refine Conf.mk (by kernel_rfl) ?_; conv => whnf) | (refine SeqOk.go ?_; conv => whnf))
          refine Into.mono (Into.to [3, 4] [(12, dInt (i + 1 : Nat)), (11, dInt (l'.map OpD.enc).length), (5, .row 0), (10, .dat (.list (l'.map OpD.enc))), (1, .fn (.func 21) [] [.dat (.ptr [.list (l.map OpD.enc)])])] [(0, .vars 60 2 (lastC (d ++ [p]) l'[i].key 1) true), (1, .rows 9 1 ([[.str l'[i].val]]) true)] (by repeat (first | exact trivial | refine ⟨.same (congrArg dInt (wrap_up (by omega))), ?_⟩ | refine ⟨.same rfl, ?_⟩ | refine ⟨.any _, ?_⟩)) ⟨⟨rfl, rfl, rfl, (lastAt _ _ 4).fit (h' := 1) rfl⟩, ⟨rfl, rfl, rfl, by simp [encS]⟩, trivial⟩ rfl (by show (true && ((true && AVal.hb.hbL 2 (lastC (d ++ [p]) l'[i].key 1)) && true)) = true; rw [(lastAt _ _ 1).hb rfl]; rfl)) fun s' h => ⟨m - 1, by omega, i + 1, by omega, .inr ⟨d ++ [p], ⟨l'[i].key, [l'[i].val]⟩, _, by rw [hst, pairsS_snoc, hS]; rw [addS_some, if_neg hk], lastAt (d ++ [p]) l'[i].key 1, h⟩⟩
    · have hi' : l'.length ≤ i := by simpa using h
      rw [List.take_of_length_le hi'] at hS
      conv => whnf
      repeat (first | (refine Conf.mk (by kernel_rfl) ?_; conv => whnf) | (refine SeqOk.go ?_; conv => whnf))
      subst hQ1
      conv => whnf
      refine ret_of _ _ ⟨.dat (.list ((d ++ [p]).map PairD.enc)), ?_, by rw [← hps', hS]; rfl⟩
      exact congrArg (Option.map AVal.dat) (pairs_data (b := true) hc rfl rfl)
end Go.Proofs.YtlioojekjnigiaeGreat.AM.Fo
/- Map, Get. -/
namespace Go.Proofs.YtlioojekjnigiaeGreat.AM.Fo
set_option linter.unusedVariables false
set_option linter.unusedSimpArgs false

/-- What Map answers, when it has no error. -/
structure MapIs (l : List Entry') (c : Int) (ps : List PairD) : Prop where
  is : ∀ l', SortedOf (opsL l c l) l' → flatS (pairsS (keptOps (opsL l c l) l')) = ps
def mapAns (l : List Entry') (c : Int) (ps : List PairD) : List PairD := if colErr l c = 0 then ps else []
theorem opsL_small (l : List Entry') (c : Int) : (opsL l c l).length ≤ l.length := by
  unfold opsL
  rw [List.length_map]
  exact List.length_filter_le _ _
theorem opsL_past {l : List Entry'} {c : Int} (h : ∀ e ∈ l, (pastAns l e.id).length ≤ 140737488355328) : ∀ x ∈ opsL l c l, x.past.length ≤ 140737488355328 := by
  intro x hx
  unfold opsL at hx
  obtain ⟨e, he, rfl⟩ := List.mem_map.1 hx
  exact h e (List.mem_filter.1 he).1
theorem pastAns_len {l : List Entry'} (hr : Right l) (x : Id) : (pastAns l x).length ≤ 240 := by
  unfold pastAns
  split
  · unfold pastOfId
    rw [sortIds_len]
    have := pastFold_len (isThe x) (l := l) fun e he => hr.six he
    have := hr.len
    omega
  · simp
set_option maxHeartbeats 0 in
theorem map_ok (l : List Entry') (hl : LogOk l) (c : Int) (ps : List PairD) (hps : colErr l c = 0 → MapIs l c ps) : PCall Tryz.prog 5 [.dat (.list (l.map Entry'.enc)), dInt c] (.tup [.dat (.list ((mapAns l c ps).map PairD.enc)), dInt (colErr l c)]) := by
  refine pcall_intro tab_all tab_mixed Tryz.func5 (by kernel_rfl) Tryz.ntmps5 rfl ?_
  conv => whnf
  refine .data _ _ (dagCheck_ok l hl) rfl ?_
  conv => whnf
  repeat (first | (refine Conf.mk (by kernel_rfl) ?_; conv => whnf) | (refine SeqOk.go ?_; conv => whnf))
  refine ⟨fun h1 => ?_, fun h1 => ?_⟩
  · have h1 : logErr l ≠ 0 := by simpa using h1
    have he : colErr l c = logErr l := by unfold colErr; rw [if_neg h1]
    have ha : mapAns l c ps = [] := by unfold mapAns; rw [he, if_neg h1]
    conv => whnf
    repeat (first | (refine Conf.mk (by kernel_rfl) ?_; conv => whnf) | (refine SeqOk.go ?_; conv => whnf))
    exact Ret.to (by rw [he, ha]; rfl)
  · have h1 : logErr l = 0 := by simpa using h1
    have hr := right_iff.1 h1
    conv => whnf
    repeat (first | (refine Conf.mk (by kernel_rfl) ?_; conv => whnf) | (refine SeqOk.go ?_; conv => whnf))
    refine ⟨fun h2 => ?_, fun h2 => ?_⟩
    · have hc : c < 1 ∨ 7 < c := .inl (by simpa using h2)
      have he : colErr l c = 3 := by unfold colErr; rw [if_pos h1, if_pos hc]
      have ha : mapAns l c ps = [] := by unfold mapAns; rw [he]; rfl
      conv => whnf
      repeat (first | (refine Conf.mk (by kernel_rfl) ?_; conv => whnf) | (refine SeqOk.go ?_; conv => whnf))
      exact Ret.to (by rw [he, ha]; rfl)
    · have h2 : ¬ c < 1 := by simpa using h2
      conv => whnf
      repeat (first | (refine Conf.mk (by kernel_rfl) ?_; conv => whnf) | (refine SeqOk.go ?_; conv => whnf))
      refine ⟨fun h3 => ?_, fun h3 => ?_⟩
      · have hc : c < 1 ∨ 7 < c := .inr (by simpa using h3)
        have he : colErr l c = 3 := by unfold colErr; rw [if_pos h1, if_pos hc]
        have ha : mapAns l c ps = [] := by unfold mapAns; rw [he]; rfl
        conv => whnf
        repeat (first | (refine Conf.mk (by kernel_rfl) ?_; conv => whnf) | (refine SeqOk.go ?_; conv => whnf))
        exact Ret.to (by rw [he, ha]; rfl)
      · have h3 : ¬ 7 < c := by simpa using h3
        have he : colErr l c = 0 := by unfold colErr; rw [if_pos h1, if_neg (by omega)]
        have ha : mapAns l c ps = ps := by unfold mapAns; rw [he]; rfl
        have hps := hps he
        conv => whnf
        repeat (first | (refine Conf.mk (by kernel_rfl) ?_; conv => whnf) | (refine SeqOk.go ?_; conv => whnf))
        refine .data _ _ (opsOf_ok l hl hr.len (fun e he => by have := (six_of (hr.mem he)).1; omega) c) rfl ?_
        conv => whnf
        repeat (first | (refine Conf.mk (by kernel_rfl) ?_; conv => whnf) | (refine SeqOk.go ?_; conv => whnf))
        have hs := opsL_small l c
        have hll := hr.len
        refine .keep [0] _ _ (pairsOf_ok (opsL l c l) (by omega) (opsL_past fun e he => by have := pastAns_len hr e.id; omega) ps hps.is) rfl rfl rfl rfl ?_
        conv => whnf
        repeat (first | (refine Conf.mk (by kernel_rfl) ?_; conv => whnf) | (refine SeqOk.go ?_; conv => whnf))
        exact Ret.to (by rw [he, ha]; rfl)
/-- Values of a key among pairs. -/
def valuesIn (ps : List PairD) (k : ByteArray) : List ByteArray := match ps.find? (fun p => decide (p.key = k)) with
  | some p => p.vals
  | none => []
def getErr (l : List Entry') (c : Int) (k : ByteArray) : Int := if colErr l c = 0 then (if isW k = true then 0 else 1) else colErr l c
def getAns (l : List Entry') (c : Int) (ps : List PairD) (k : ByteArray) : List ByteArray := if getErr l c k = 0 then valuesIn ps k else []
theorem valuesIn_drop (ps : List PairD) (k : ByteArray) (i : Nat) (hi : i < ps.length) : valuesIn (ps.drop i) k = if ps[i].key = k then ps[i].vals else valuesIn (ps.drop (i + 1)) k := by
  unfold valuesIn
  rw [List.drop_eq_getElem_cons hi, List.find?_cons]
  by_cases h : ps[i].key = k
  · rw [decide_eq_true h, if_pos h]
  · rw [decide_eq_false h, if_neg h]
set_option maxHeartbeats 0 in
theorem get_ok (l : List Entry') (hl : LogOk l) (c : Int) (ps : List PairD) (hn : ps.length ≤ 1000) (hps : colErr l c = 0 → MapIs l c ps) (k : ByteArray) : PCall Tryz.prog 6 [.dat (.list (l.map Entry'.enc)), dInt c, .dat (.str k)] (.tup [.dat (.list ((getAns l c ps k).map encS)), dInt (getErr l c k)]) := by
  refine pcall_intro tab_all tab_mixed Tryz.func6 (by kernel_rfl) Tryz.ntmps6 rfl ?_
  conv => whnf
  refine .data _ _ (map_ok l hl c ps hps) rfl ?_
  conv => whnf
  repeat (first | (refine Conf.mk (by kernel_rfl) ?_; conv => whnf) | (refine SeqOk.go ?_; conv => whnf))
  by_cases h1 : colErr l c = 0
  · refine BoolCase.no (by simp [h1]) ?_
    have hm : mapAns l c ps = ps := by unfold mapAns; rw [if_pos h1]
    rw [hm]
    conv => whnf
    repeat (first | (refine Conf.mk (by kernel_rfl) ?_; conv => whnf) | (refine SeqOk.go ?_; conv => whnf))
    refine .look _ _ (isWord_ok k) rfl rfl ?_
    conv => whnf
    repeat (first | (refine Conf.mk (by kernel_rfl) ?_; conv => whnf) | (refine SeqOk.go ?_; conv => whnf))
    cases h2 : isW k
    · have he : getErr l c k = 1 := by unfold getErr; rw [if_pos h1, h2]; rfl
      have ha : getAns l c ps k = [] := by unfold getAns; rw [he]; rfl
      refine BoolCase.yes rfl ?_
      conv => whnf
      repeat (first | (refine Conf.mk (by kernel_rfl) ?_; conv => whnf) | (refine SeqOk.go ?_; conv => whnf))
      exact Ret.to (by rw [he, ha]; rfl)
    · have he : getErr l c k = 0 := by unfold getErr; rw [if_pos h1, h2]; rfl
      have ha : getAns l c ps k = valuesIn (ps.drop 0) k := by unfold getAns; rw [he]; rfl
      rw [he, ha]
      refine BoolCase.no rfl ?_
      conv => whnf
      repeat (first | (refine Conf.mk (by kernel_rfl) ?_; conv => whnf) | (refine SeqOk.go ?_; conv => whnf))
      refine LoopOk.hide fun Q1 hQ1 => ?_
      refine LoopOk.mk (fun m s => ∃ i, i + m = ps.length ∧ valuesIn (ps.drop 0) k = valuesIn (ps.drop i) k ∧ s = ⟨[(26, dInt i), (25, dInt (ps.map PairD.enc).length), (24, .dat (.list (ps.map PairD.enc))), (2, .dat (.str k))], 0, []⟩) ps.length (Into.mono (Into.to [] [(26, dInt (0 : Nat)), (25, dInt (ps.map PairD.enc).length), (24, .dat (.list (ps.map PairD.enc))), (2, .dat (.str k))] [] (by repeat (first | exact trivial | refine ⟨.same (congrArg dInt (wrap_up (by omega))), ?_⟩ | refine ⟨.same rfl, ?_⟩ | refine ⟨.any _, ?_⟩)) trivial rfl rfl) fun s' h => ⟨0, by omega, rfl, h⟩) ?_
      rintro m s ⟨i, hi, hp, rfl⟩
      conv => whnf
      repeat (first | (refine Conf.mk (by kernel_rfl) ?_; conv => whnf) | (refine SeqOk.go ?_; conv => whnf))
      refine ⟨fun h => ?_, fun h => ?_⟩
      · have hi' : i < ps.length := by simpa using h
        rw [valuesIn_drop ps k i hi'] at hp
        conv => whnf
        repeat (first | (refine Conf.mk (by kernel_rfl) ?_; conv => whnf) | (refine SeqOk.go ?_; conv => whnf))
        refine AtIdx.ofMap hi' rfl ?_
        conv => whnf
        repeat (first | (refine Conf.mk (by kernel_rfl) ?_; conv => whnf) | (refine SeqOk.go ?_; conv => whnf))
        by_cases hk : ps[i].key = k
        · rw [if_pos hk] at hp
          refine BoolCase.yes (decide_eq_true hk) ?_
          conv => whnf
          repeat (first | (refine Conf.mk (by kernel_rfl) ?_; conv => whnf) | (refine SeqOk.go ?_; conv => whnf))
          subst hQ1
          conv => whnf
          repeat (first | (refine Conf.mk (by kernel_rfl) ?_; conv => whnf) | (refine SeqOk.go ?_; conv => whnf))
          exact Ret.to (by rw [hp]; rfl)
        · rw [if_neg hk] at hp
          refine BoolCase.no (decide_eq_false hk) ?_
          conv => whnf
          repeat (first | (refine Conf.mk (by kernel_rfl) ?_; conv => whnf) | (refine SeqOk.go ?_; conv => whnf))
          refine Into.mono (Into.to [] [(26, dInt (i + 1 : Nat)), (25, dInt (ps.map PairD.enc).length), (24, .dat (.list (ps.map PairD.enc))), (2, .dat (.str k))] [] (by repeat (first | exact trivial | refine ⟨.same (congrArg dInt (wrap_up (by omega))), ?_⟩ | refine ⟨.same rfl, ?_⟩ | refine ⟨.any _, ?_⟩)) trivial rfl rfl) fun s' h => ⟨m - 1, by omega, i + 1, by omega, hp, h⟩
      · have hi' : ps.length ≤ i := by simpa using h
        rw [List.drop_eq_nil_of_le hi'] at hp
        conv => whnf
        repeat (first | (refine Conf.mk (by kernel_rfl) ?_; conv => whnf) | (refine SeqOk.go ?_; conv => whnf))
        subst hQ1
        conv => whnf
        repeat (first | (refine Conf.mk (by kernel_rfl) ?_; conv => whnf) | (refine SeqOk.go ?_; conv => whnf))
        exact Ret.to (by rw [hp]; rfl)
  · have he : getErr l c k = colErr l c := by unfold getErr; rw [if_neg h1]
    have ha : getAns l c ps k = [] := by unfold getAns; rw [he, if_neg h1]
    refine BoolCase.yes (by simp [h1]) ?_
    conv => whnf
    repeat (first | (refine Conf.mk (by kernel_rfl) ?_; conv => whnf) | (refine SeqOk.go ?_; conv => whnf))
    exact Ret.to (by rw [he, ha]; rfl)
end Go.Proofs.YtlioojekjnigiaeGreat.AM.Fo
