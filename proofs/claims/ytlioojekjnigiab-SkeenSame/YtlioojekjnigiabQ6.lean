/- What is leaned on: part 6. -/
import Derived.Test.YtlioojekjnigiabQ5
/- Servers: SkeenSame. -/
namespace Go.Proofs.Ytlioojekjnigiab.AM.Sk
set_option linter.unusedVariables false
set_option linter.unusedSimpArgs false
theorem hasInt_dec (l : List Int) : hasInt l = fun n => decide (n ∈ l) := funext fun n => by
  by_cases h : n ∈ l
  · rw [hasInt_iff.2 h]; simp [h]
  · rw [bool_no fun k => h (hasInt_iff.1 k)]; simp [h]
def z2 : Tb := fun _ _ => 0
def colN (cs : List Int) (n : Nat) : Int := cs.getD (n - 1) 0
def atK (ss : List Int) (k : Nat) : Int := if h : k < ss.length then ss[k] else (k : Int) - ss.length
set_option maxHeartbeats 0 in
theorem skeenSame_ok (cs ss : List Int) (hcl : cs.length ≤ 140737488355328) (hsl : ss.length ≤ 17592186043904) (hs64 : ∀ x ∈ ss, -9223372036854775808 ≤ x ∧ x ≤ 9223372036854775807) : PCall Try.prog 6 [.dat (.list (cs.map encI)), .dat (.list (ss.map encI))] (dBool true) := by
  refine pcall_cut tab_all tab_mixed Try.func6 (by kernel_rfl) Try.ntmps6 rfl ?_
  conv => whnf
  conv => whnf
  repeat (first | (refine Conf.mk (by kernel_rfl) ?_; conv => whnf) | (refine SeqOk.go ?_; conv => whnf))
  refine .data _ _ skeenBegun_ok.kb rfl ?_
  conv => whnf
  repeat (first | (refine Conf.mk (by kernel_rfl) ?_; conv => whnf) | (refine SeqOk.go ?_; conv => whnf))
  by_cases h7 : cs.length ≤ 7
  · refine BoolCase.no (by simp; omega) ?_
    conv => whnf
    repeat (first | (refine Conf.mk (by kernel_rfl) ?_; conv => whnf) | (refine SeqOk.go ?_; conv => whnf))
    refine .mk 3 rfl ?_
    conv => whnf
    repeat (first | (refine Conf.mk (by kernel_rfl) ?_; conv => whnf) | (refine SeqOk.go ?_; conv => whnf))
    refine ⟨by decide, ?_⟩
    conv => whnf
    repeat (first | (refine Conf.mk (by kernel_rfl) ?_; conv => whnf) | (refine SeqOk.go ?_; conv => whnf))
    refine LoopOk.hide fun Q1 hQ1 => ?_
    refine LoopOk.mk (fun m st => ∃ (k : Nat) (cur : List Sv) (t f : Tb), k + m = ss.length + 42 ∧ Inv (colN cs) cur t f ∧ st = ⟨[(8, dInt k), (5, .row 0), (6, .ptr 1 0), (7, .ptr 2 0), (0, .dat (.list (cs.map encI))), (1, .dat (.list (ss.map encI)))], 3, [(0, .rows 43 3 (cur.map Sv.enc) true), (1, .vars 58 24 [dInt (t 0 0), dInt (t 0 1), dInt (t 0 2), dInt (t 1 0), dInt (t 1 1), dInt (t 1 2), dInt (t 2 0), dInt (t 2 1), dInt (t 2 2), dInt (t 3 0), dInt (t 3 1), dInt (t 3 2), dInt (t 4 0), dInt (t 4 1), dInt (t 4 2), dInt (t 5 0), dInt (t 5 1), dInt (t 5 2), dInt (t 6 0), dInt (t 6 1), dInt (t 6 2), dInt (t 7 0), dInt (t 7 1), dInt (t 7 2)] true), (2, .vars 58 24 [dInt (f 0 0), dInt (f 0 1), dInt (f 0 2), dInt (f 1 0), dInt (f 1 1), dInt (f 1 2), dInt (f 2 0), dInt (f 2 1), dInt (f 2 2), dInt (f 3 0), dInt (f 3 1), dInt (f 3 2), dInt (f 4 0), dInt (f 4 1), dInt (f 4 2), dInt (f 5 0), dInt (f 5 1), dInt (f 5 2), dInt (f 6 0), dInt (f 6 1), dInt (f 6 2), dInt (f 7 0), dInt (f 7 1), dInt (f 7 2)] true)]⟩) (ss.length + 42) (Into.mono (Into.to [0, 1, 2] [(8, dInt (0 : Nat)), (5, .row 0), (6, .ptr 1 0), (7, .ptr 2 0), (0, .dat (.list (cs.map encI))), (1, .dat (.list (ss.map encI)))] [(0, .rows 43 3 ([zeroSv, zeroSv, zeroSv].map Sv.enc) true), (1, .vars 58 24 [dInt 0, dInt 0, dInt 0, dInt 0, dInt 0, dInt 0, dInt 0, dInt 0, dInt 0, dInt 0, dInt 0, dInt 0, dInt 0, dInt 0, dInt 0, dInt 0, dInt 0, dInt 0, dInt 0, dInt 0, dInt 0, dInt 0, dInt 0, dInt 0] true), (2, .vars 58 24 [dInt 0, dInt 0, dInt 0, dInt 0, dInt 0, dInt 0, dInt 0, dInt 0, dInt 0, dInt 0, dInt 0, dInt 0, dInt 0, dInt 0, dInt 0, dInt 0, dInt 0, dInt 0, dInt 0, dInt 0, dInt 0, dInt 0, dInt 0, dInt 0] true)] (by repeat (first | exact trivial | refine ⟨.same (congrArg dInt (wrap_up (by omega))), ?_⟩ | refine ⟨.same rfl, ?_⟩ | refine ⟨.any _, ?_⟩)) ⟨⟨rfl, rfl, rfl, rfl⟩, ⟨rfl, rfl, rfl, .same rfl, rfl, .same rfl, rfl, .same rfl, rfl, .same rfl, rfl, .same rfl, rfl, .same rfl, rfl, .same rfl, rfl, .same rfl, rfl, .same rfl, rfl, .same rfl, rfl, .same rfl, rfl, .same rfl, rfl, .same rfl, rfl, .same rfl, rfl, .same rfl, rfl, .same rfl, rfl, .same rfl, rfl, .same rfl, rfl, .same rfl, rfl, .same rfl, rfl, .same rfl, rfl, .same rfl, rfl, .same rfl, rfl, .same rfl, rfl, trivial⟩, ⟨rfl, rfl, rfl, .same rfl, rfl, .same rfl, rfl, .same rfl, rfl, .same rfl, rfl, .same rfl, rfl, .same rfl, rfl, .same rfl, rfl, .same rfl, rfl, .same rfl, rfl, .same rfl, rfl, .same rfl, rfl, .same rfl, rfl, .same rfl, rfl, .same rfl, rfl, .same rfl, rfl, .same rfl, rfl, .same rfl, rfl, .same rfl, rfl, .same rfl, rfl, .same rfl, rfl, .same rfl, rfl, .same rfl, rfl, .same rfl, rfl, .same rfl, rfl, trivial⟩, trivial⟩ rfl rfl) fun s' h => ⟨0, [zeroSv, zeroSv, zeroSv], z2, z2, by omega, inv_start _, h⟩) ?_
    rintro m st ⟨k, cur, t, f, hk, hI, rfl⟩
    conv => whnf
    repeat (first | (refine Conf.mk (by kernel_rfl) ?_; conv => whnf) | (refine SeqOk.go ?_; conv => whnf))
    by_cases hk2 : k < ss.length + 42
    · refine BoolCase.yes (by simp; rw [wrap_id (by omega) (by omega)]; omega) ?_
      conv => whnf
      refine SeqOk.go ?_
      conv => whnf
      have hatk : -9223372036854775808 ≤ atK ss k ∧ atK ss k ≤ 9223372036854775807 := by
        unfold atK
        split
        · exact hs64 _ (List.getElem_mem _)
        · omega
      refine SeqOk.cut' ⟨[(9, dInt (atK ss k)), (8, dInt k), (5, .row 0), (6, .ptr 1 0), (7, .ptr 2 0), (0, .dat (.list (cs.map encI))), (1, .dat (.list (ss.map encI)))], 3, [(0, .rows 43 3 (cur.map Sv.enc) true), (1, .vars 58 24 [dInt (t 0 0), dInt (t 0 1), dInt (t 0 2), dInt (t 1 0), dInt (t 1 1), dInt (t 1 2), dInt (t 2 0), dInt (t 2 1), dInt (t 2 2), dInt (t 3 0), dInt (t 3 1), dInt (t 3 2), dInt (t 4 0), dInt (t 4 1), dInt (t 4 2), dInt (t 5 0), dInt (t 5 1), dInt (t 5 2), dInt (t 6 0), dInt (t 6 1), dInt (t 6 2), dInt (t 7 0), dInt (t 7 1), dInt (t 7 2)] true), (2, .vars 58 24 [dInt (f 0 0), dInt (f 0 1), dInt (f 0 2), dInt (f 1 0), dInt (f 1 1), dInt (f 1 2), dInt (f 2 0), dInt (f 2 1), dInt (f 2 2), dInt (f 3 0), dInt (f 3 1), dInt (f 3 2), dInt (f 4 0), dInt (f 4 1), dInt (f 4 2), dInt (f 5 0), dInt (f 5 1), dInt (f 5 2), dInt (f 6 0), dInt (f 6 1), dInt (f 6 2), dInt (f 7 0), dInt (f 7 1), dInt (f 7 2)] true)]⟩ ?_ ?_
      · conv => whnf
        by_cases hks : k < ss.length
        · have hat : atK ss k = ss[k] := by unfold atK; rw [dif_pos hks]
          refine BoolCase.yes (by simp; omega) ?_
          conv => whnf
          refine AtIdx.ofMap hks rfl ?_
          conv => whnf
          exact Into.to [0, 1, 2] [(9, dInt (atK ss k)), (8, dInt k), (5, .row 0), (6, .ptr 1 0), (7, .ptr 2 0), (0, .dat (.list (cs.map encI))), (1, .dat (.list (ss.map encI)))] [(0, .rows 43 3 (cur.map Sv.enc) true), (1, .vars 58 24 [dInt (t 0 0), dInt (t 0 1), dInt (t 0 2), dInt (t 1 0), dInt (t 1 1), dInt (t 1 2), dInt (t 2 0), dInt (t 2 1), dInt (t 2 2), dInt (t 3 0), dInt (t 3 1), dInt (t 3 2), dInt (t 4 0), dInt (t 4 1), dInt (t 4 2), dInt (t 5 0), dInt (t 5 1), dInt (t 5 2), dInt (t 6 0), dInt (t 6 1), dInt (t 6 2), dInt (t 7 0), dInt (t 7 1), dInt (t 7 2)] true), (2, .vars 58 24 [dInt (f 0 0), dInt (f 0 1), dInt (f 0 2), dInt (f 1 0), dInt (f 1 1), dInt (f 1 2), dInt (f 2 0), dInt (f 2 1), dInt (f 2 2), dInt (f 3 0), dInt (f 3 1), dInt (f 3 2), dInt (f 4 0), dInt (f 4 1), dInt (f 4 2), dInt (f 5 0), dInt (f 5 1), dInt (f 5 2), dInt (f 6 0), dInt (f 6 1), dInt (f 6 2), dInt (f 7 0), dInt (f 7 1), dInt (f 7 2)] true)] ⟨.same (congrArg dInt hat), .same rfl, .same rfl, .same rfl, .same rfl, .same rfl, .same rfl, trivial⟩ ⟨⟨rfl, rfl, rfl, rfl⟩, ⟨rfl, rfl, rfl, .same rfl, rfl, .same rfl, rfl, .same rfl, rfl, .same rfl, rfl, .same rfl, rfl, .same rfl, rfl, .same rfl, rfl, .same rfl, rfl, .same rfl, rfl, .same rfl, rfl, .same rfl, rfl, .same rfl, rfl, .same rfl, rfl, .same rfl, rfl, .same rfl, rfl, .same rfl, rfl, .same rfl, rfl, .same rfl, rfl, .same rfl, rfl, .same rfl, rfl, .same rfl, rfl, .same rfl, rfl, .same rfl, rfl, .same rfl, rfl, trivial⟩, ⟨rfl, rfl, rfl, .same rfl, rfl, .same rfl, rfl, .same rfl, rfl, .same rfl, rfl, .same rfl, rfl, .same rfl, rfl, .same rfl, rfl, .same rfl, rfl, .same rfl, rfl, .same rfl, rfl, .same rfl, rfl, .same rfl, rfl, .same rfl, rfl, .same rfl, rfl, .same rfl, rfl, .same rfl, rfl, .same rfl, rfl, .same rfl, rfl, .same rfl, rfl, .same rfl, rfl, .same rfl, rfl, .same rfl, rfl, .same rfl, rfl, .same rfl, rfl, trivial⟩, trivial⟩ rfl rfl
        · have hat : atK ss k = IntKind.i64.wrap ((k : Int) - ((ss.map encI).length : Nat)) := by unfold atK; rw [dif_neg hks, wrap_id (by simp; omega) (by simp; omega), List.length_map]
          refine BoolCase.no (by simp; omega) ?_
          conv => whnf
          exact Into.to [0, 1, 2] [(9, dInt (atK ss k)), (8, dInt k), (5, .row 0), (6, .ptr 1 0), (7, .ptr 2 0), (0, .dat (.list (cs.map encI))), (1, .dat (.list (ss.map encI)))] [(0, .rows 43 3 (cur.map Sv.enc) true), (1, .vars 58 24 [dInt (t 0 0), dInt (t 0 1), dInt (t 0 2), dInt (t 1 0), dInt (t 1 1), dInt (t 1 2), dInt (t 2 0), dInt (t 2 1), dInt (t 2 2), dInt (t 3 0), dInt (t 3 1), dInt (t 3 2), dInt (t 4 0), dInt (t 4 1), dInt (t 4 2), dInt (t 5 0), dInt (t 5 1), dInt (t 5 2), dInt (t 6 0), dInt (t 6 1), dInt (t 6 2), dInt (t 7 0), dInt (t 7 1), dInt (t 7 2)] true), (2, .vars 58 24 [dInt (f 0 0), dInt (f 0 1), dInt (f 0 2), dInt (f 1 0), dInt (f 1 1), dInt (f 1 2), dInt (f 2 0), dInt (f 2 1), dInt (f 2 2), dInt (f 3 0), dInt (f 3 1), dInt (f 3 2), dInt (f 4 0), dInt (f 4 1), dInt (f 4 2), dInt (f 5 0), dInt (f 5 1), dInt (f 5 2), dInt (f 6 0), dInt (f 6 1), dInt (f 6 2), dInt (f 7 0), dInt (f 7 1), dInt (f 7 2)] true)] ⟨.same (congrArg dInt hat), .same rfl, .same rfl, .same rfl, .same rfl, .same rfl, .same rfl, trivial⟩ ⟨⟨rfl, rfl, rfl, rfl⟩, ⟨rfl, rfl, rfl, .same rfl, rfl, .same rfl, rfl, .same rfl, rfl, .same rfl, rfl, .same rfl, rfl, .same rfl, rfl, .same rfl, rfl, .same rfl, rfl, .same rfl, rfl, .same rfl, rfl, .same rfl, rfl, .same rfl, rfl, .same rfl, rfl, .same rfl, rfl, .same rfl, rfl, .same rfl, rfl, .same rfl, rfl, .same rfl, rfl, .same rfl, rfl, .same rfl, rfl, .same rfl, rfl, .same rfl, rfl, .same rfl, rfl, .same rfl, rfl, trivial⟩, ⟨rfl, rfl, rfl, .same rfl, rfl, .same rfl, rfl, .same rfl, rfl, .same rfl, rfl, .same rfl, rfl, .same rfl, rfl, .same rfl, rfl, .same rfl, rfl, .same rfl, rfl, .same rfl, rfl, .same rfl, rfl, .same rfl, rfl, .same rfl, rfl, .same rfl, rfl, .same rfl, rfl, .same rfl, rfl, .same rfl, rfl, .same rfl, rfl, .same rfl, rfl, .same rfl, rfl, .same rfl, rfl, .same rfl, rfl, .same rfl, rfl, .same rfl, rfl, trivial⟩, trivial⟩ rfl rfl
      · generalize atK ss k = w at hatk
        conv => whnf
        repeat (first | (refine Conf.mk (by kernel_rfl) ?_; conv => whnf) | (refine SeqOk.go ?_; conv => whnf))
        by_cases hw : w < 0
        · refine BoolCase.yes (by simpa using hw) ?_
          conv => whnf
          repeat (first | (refine Conf.mk (by kernel_rfl) ?_; conv => whnf) | (refine SeqOk.go ?_; conv => whnf))
          exact Into.mono (Into.to [0, 1, 2] [(8, dInt (k + 1 : Nat)), (5, .row 0), (6, .ptr 1 0), (7, .ptr 2 0), (0, .dat (.list (cs.map encI))), (1, .dat (.list (ss.map encI)))] [(0, .rows 43 3 (cur.map Sv.enc) true), (1, .vars 58 24 [dInt (t 0 0), dInt (t 0 1), dInt (t 0 2), dInt (t 1 0), dInt (t 1 1), dInt (t 1 2), dInt (t 2 0), dInt (t 2 1), dInt (t 2 2), dInt (t 3 0), dInt (t 3 1), dInt (t 3 2), dInt (t 4 0), dInt (t 4 1), dInt (t 4 2), dInt (t 5 0), dInt (t 5 1), dInt (t 5 2), dInt (t 6 0), dInt (t 6 1), dInt (t 6 2), dInt (t 7 0), dInt (t 7 1), dInt (t 7 2)] true), (2, .vars 58 24 [dInt (f 0 0), dInt (f 0 1), dInt (f 0 2), dInt (f 1 0), dInt (f 1 1), dInt (f 1 2), dInt (f 2 0), dInt (f 2 1), dInt (f 2 2), dInt (f 3 0), dInt (f 3 1), dInt (f 3 2), dInt (f 4 0), dInt (f 4 1), dInt (f 4 2), dInt (f 5 0), dInt (f 5 1), dInt (f 5 2), dInt (f 6 0), dInt (f 6 1), dInt (f 6 2), dInt (f 7 0), dInt (f 7 1), dInt (f 7 2)] true)] (by repeat (first | exact trivial | refine ⟨.same (congrArg dInt (wrap_up (by omega))), ?_⟩ | refine ⟨.same rfl, ?_⟩ | refine ⟨.any _, ?_⟩)) ⟨⟨rfl, rfl, rfl, rfl⟩, ⟨rfl, rfl, rfl, .same rfl, rfl, .same rfl, rfl, .same rfl, rfl, .same rfl, rfl, .same rfl, rfl, .same rfl, rfl, .same rfl, rfl, .same rfl, rfl, .same rfl, rfl, .same rfl, rfl, .same rfl, rfl, .same rfl, rfl, .same rfl, rfl, .same rfl, rfl, .same rfl, rfl, .same rfl, rfl, .same rfl, rfl, .same rfl, rfl, .same rfl, rfl, .same rfl, rfl, .same rfl, rfl, .same rfl, rfl, .same rfl, rfl, .same rfl, rfl, trivial⟩, ⟨rfl, rfl, rfl, .same rfl, rfl, .same rfl, rfl, .same rfl, rfl, .same rfl, rfl, .same rfl, rfl, .same rfl, rfl, .same rfl, rfl, .same rfl, rfl, .same rfl, rfl, .same rfl, rfl, .same rfl, rfl, .same rfl, rfl, .same rfl, rfl, .same rfl, rfl, .same rfl, rfl, .same rfl, rfl, .same rfl, rfl, .same rfl, rfl, .same rfl, rfl, .same rfl, rfl, .same rfl, rfl, .same rfl, rfl, .same rfl, rfl, .same rfl, rfl, trivial⟩, trivial⟩ rfl rfl) fun s' h => ⟨m - 1, by omega, k + 1, cur, t, f, by omega, hI, h⟩
        · refine BoolCase.no (by simpa using hw) ?_
          conv => whnf
          repeat (first | (refine Conf.mk (by kernel_rfl) ?_; conv => whnf) | (refine SeqOk.go ?_; conv => whnf))
          by_cases hc0 : cs.length = 0
          · refine BoolCase.yes (by simp [hc0]) ?_
            conv => whnf
            repeat (first | (refine Conf.mk (by kernel_rfl) ?_; conv => whnf) | (refine SeqOk.go ?_; conv => whnf))
            exact Into.mono (Into.to [0, 1, 2] [(8, dInt (k + 1 : Nat)), (5, .row 0), (6, .ptr 1 0), (7, .ptr 2 0), (0, .dat (.list (cs.map encI))), (1, .dat (.list (ss.map encI)))] [(0, .rows 43 3 (cur.map Sv.enc) true), (1, .vars 58 24 [dInt (t 0 0), dInt (t 0 1), dInt (t 0 2), dInt (t 1 0), dInt (t 1 1), dInt (t 1 2), dInt (t 2 0), dInt (t 2 1), dInt (t 2 2), dInt (t 3 0), dInt (t 3 1), dInt (t 3 2), dInt (t 4 0), dInt (t 4 1), dInt (t 4 2), dInt (t 5 0), dInt (t 5 1), dInt (t 5 2), dInt (t 6 0), dInt (t 6 1), dInt (t 6 2), dInt (t 7 0), dInt (t 7 1), dInt (t 7 2)] true), (2, .vars 58 24 [dInt (f 0 0), dInt (f 0 1), dInt (f 0 2), dInt (f 1 0), dInt (f 1 1), dInt (f 1 2), dInt (f 2 0), dInt (f 2 1), dInt (f 2 2), dInt (f 3 0), dInt (f 3 1), dInt (f 3 2), dInt (f 4 0), dInt (f 4 1), dInt (f 4 2), dInt (f 5 0), dInt (f 5 1), dInt (f 5 2), dInt (f 6 0), dInt (f 6 1), dInt (f 6 2), dInt (f 7 0), dInt (f 7 1), dInt (f 7 2)] true)] (by repeat (first | exact trivial | refine ⟨.same (congrArg dInt (wrap_up (by omega))), ?_⟩ | refine ⟨.same rfl, ?_⟩ | refine ⟨.any _, ?_⟩)) ⟨⟨rfl, rfl, rfl, rfl⟩, ⟨rfl, rfl, rfl, .same rfl, rfl, .same rfl, rfl, .same rfl, rfl, .same rfl, rfl, .same rfl, rfl, .same rfl, rfl, .same rfl, rfl, .same rfl, rfl, .same rfl, rfl, .same rfl, rfl, .same rfl, rfl, .same rfl, rfl, .same rfl, rfl, .same rfl, rfl, .same rfl, rfl, .same rfl, rfl, .same rfl, rfl, .same rfl, rfl, .same rfl, rfl, .same rfl, rfl, .same rfl, rfl, .same rfl, rfl, .same rfl, rfl, .same rfl, rfl, trivial⟩, ⟨rfl, rfl, rfl, .same rfl, rfl, .same rfl, rfl, .same rfl, rfl, .same rfl, rfl, .same rfl, rfl, .same rfl, rfl, .same rfl, rfl, .same rfl, rfl, .same rfl, rfl, .same rfl, rfl, .same rfl, rfl, .same rfl, rfl, .same rfl, rfl, .same rfl, rfl, .same rfl, rfl, .same rfl, rfl, .same rfl, rfl, .same rfl, rfl, .same rfl, rfl, .same rfl, rfl, .same rfl, rfl, .same rfl, rfl, .same rfl, rfl, .same rfl, rfl, trivial⟩, trivial⟩ rfl rfl) fun s' h => ⟨m - 1, by omega, k + 1, cur, t, f, by omega, hI, h⟩
          · refine BoolCase.no (by simpa using hc0) ?_
            conv => whnf
            repeat (first | (refine Conf.mk (by kernel_rfl) ?_; conv => whnf) | (refine SeqOk.go ?_; conv => whnf))
            refine ⟨by decide, ?_⟩
            conv => whnf
            repeat (first | (refine Conf.mk (by kernel_rfl) ?_; conv => whnf) | (refine SeqOk.go ?_; conv => whnf))
            refine ⟨by simpa using hc0, ?_⟩
            conv => whnf
            repeat (first | (refine Conf.mk (by kernel_rfl) ?_; conv => whnf) | (refine SeqOk.go ?_; conv => whnf))
            refine ⟨by decide, ?_⟩
            conv => whnf
            repeat (first | (refine Conf.mk (by kernel_rfl) ?_; conv => whnf) | (refine SeqOk.go ?_; conv => whnf))
            obtain ⟨nn, hn1, hnl, hnn⟩ : ∃ nn : Nat, 1 ≤ nn ∧ nn ≤ cs.length ∧ IntKind.i64.wrap ((IntKind.i64.wrap (w.tdiv 3)).tmod (((cs.map encI).length : Nat) : Int) + 1) = (nn : Int) := by
              rw [List.length_map, Int.tdiv_eq_ediv_of_nonneg (by omega), wrap_id (n := w / 3) (by omega) (by omega), Int.tmod_eq_emod_of_nonneg (by omega)]
              have h1 := Int.emod_nonneg (w / 3) (b := (cs.length : Int)) (by omega)
              have h2 := Int.emod_lt_of_pos (w / 3) (b := (cs.length : Int)) (by omega)
              generalize (w / 3) % (cs.length : Int) = r at h1 h2
              exact ⟨r.toNat + 1, by omega, by omega, by rw [wrap_id (by omega) (by omega)]; omega⟩
            obtain ⟨ii, hi3, hii⟩ : ∃ ii : Nat, ii < 3 ∧ w.tmod 3 = (ii : Int) := by
              rw [Int.tmod_eq_emod_of_nonneg (by omega)]
              exact ⟨(w % 3).toNat, by omega, by omega⟩
            rw [hnn, hii]
            have hcol : cs[nn - 1]'(by omega) = colN cs nn := by unfold colN; rw [List.getD_eq_getElem?_getD, List.getElem?_eq_getElem (by omega)]; rfl
            refine AtIdx.ofMap' (nn - 1) (by rw [wrap_id (by omega) (by omega)]; omega) (by omega) rfl ?_
            rw [hcol]
            have hnc : nn ≤ 7 := by omega
            generalize hcc : colN cs nn = c
            clear hnn hii hcol
            conv => whnf
            repeat (first | (refine Conf.mk (by kernel_rfl) ?_; conv => whnf) | (refine SeqOk.go ?_; conv => whnf))
            simp only
            by_cases hlo : c < 1
            · refine BoolCase.yes (by simpa using hlo) ?_
              conv => whnf
              repeat (first | (refine Conf.mk (by kernel_rfl) ?_; conv => whnf) | (refine SeqOk.go ?_; conv => whnf))
              exact Into.mono (Into.to [0, 1, 2] [(8, dInt (k + 1 : Nat)), (5, .row 0), (6, .ptr 1 0), (7, .ptr 2 0), (0, .dat (.list (cs.map encI))), (1, .dat (.list (ss.map encI)))] [(0, .rows 43 3 (cur.map Sv.enc) true), (1, .vars 58 24 [dInt (t 0 0), dInt (t 0 1), dInt (t 0 2), dInt (t 1 0), dInt (t 1 1), dInt (t 1 2), dInt (t 2 0), dInt (t 2 1), dInt (t 2 2), dInt (t 3 0), dInt (t 3 1), dInt (t 3 2), dInt (t 4 0), dInt (t 4 1), dInt (t 4 2), dInt (t 5 0), dInt (t 5 1), dInt (t 5 2), dInt (t 6 0), dInt (t 6 1), dInt (t 6 2), dInt (t 7 0), dInt (t 7 1), dInt (t 7 2)] true), (2, .vars 58 24 [dInt (f 0 0), dInt (f 0 1), dInt (f 0 2), dInt (f 1 0), dInt (f 1 1), dInt (f 1 2), dInt (f 2 0), dInt (f 2 1), dInt (f 2 2), dInt (f 3 0), dInt (f 3 1), dInt (f 3 2), dInt (f 4 0), dInt (f 4 1), dInt (f 4 2), dInt (f 5 0), dInt (f 5 1), dInt (f 5 2), dInt (f 6 0), dInt (f 6 1), dInt (f 6 2), dInt (f 7 0), dInt (f 7 1), dInt (f 7 2)] true)] (by repeat (first | exact trivial | refine ⟨.same (congrArg dInt (wrap_up (by omega))), ?_⟩ | refine ⟨.same rfl, ?_⟩ | refine ⟨.any _, ?_⟩)) ⟨⟨rfl, rfl, rfl, rfl⟩, ⟨rfl, rfl, rfl, .same rfl, rfl, .same rfl, rfl, .same rfl, rfl, .same rfl, rfl, .same rfl, rfl, .same rfl, rfl, .same rfl, rfl, .same rfl, rfl, .same rfl, rfl, .same rfl, rfl, .same rfl, rfl, .same rfl, rfl, .same rfl, rfl, .same rfl, rfl, .same rfl, rfl, .same rfl, rfl, .same rfl, rfl, .same rfl, rfl, .same rfl, rfl, .same rfl, rfl, .same rfl, rfl, .same rfl, rfl, .same rfl, rfl, .same rfl, rfl, trivial⟩, ⟨rfl, rfl, rfl, .same rfl, rfl, .same rfl, rfl, .same rfl, rfl, .same rfl, rfl, .same rfl, rfl, .same rfl, rfl, .same rfl, rfl, .same rfl, rfl, .same rfl, rfl, .same rfl, rfl, .same rfl, rfl, .same rfl, rfl, .same rfl, rfl, .same rfl, rfl, .same rfl, rfl, .same rfl, rfl, .same rfl, rfl, .same rfl, rfl, .same rfl, rfl, .same rfl, rfl, .same rfl, rfl, .same rfl, rfl, .same rfl, rfl, .same rfl, rfl, trivial⟩, trivial⟩ rfl rfl) fun s' h => ⟨m - 1, by omega, k + 1, cur, t, f, by omega, hI, h⟩
            · refine BoolCase.no (by simpa using hlo) ?_
              conv => whnf
              repeat (first | (refine Conf.mk (by kernel_rfl) ?_; conv => whnf) | (refine SeqOk.go ?_; conv => whnf))
              by_cases hhi : 7 < c
              · refine BoolCase.yes (by simpa using hhi) ?_
                conv => whnf
                repeat (first | (refine Conf.mk (by kernel_rfl) ?_; conv => whnf) | (refine SeqOk.go ?_; conv => whnf))
                exact Into.mono (Into.to [0, 1, 2] [(8, dInt (k + 1 : Nat)), (5, .row 0), (6, .ptr 1 0), (7, .ptr 2 0), (0, .dat (.list (cs.map encI))), (1, .dat (.list (ss.map encI)))] [(0, .rows 43 3 (cur.map Sv.enc) true), (1, .vars 58 24 [dInt (t 0 0), dInt (t 0 1), dInt (t 0 2), dInt (t 1 0), dInt (t 1 1), dInt (t 1 2), dInt (t 2 0), dInt (t 2 1), dInt (t 2 2), dInt (t 3 0), dInt (t 3 1), dInt (t 3 2), dInt (t 4 0), dInt (t 4 1), dInt (t 4 2), dInt (t 5 0), dInt (t 5 1), dInt (t 5 2), dInt (t 6 0), dInt (t 6 1), dInt (t 6 2), dInt (t 7 0), dInt (t 7 1), dInt (t 7 2)] true), (2, .vars 58 24 [dInt (f 0 0), dInt (f 0 1), dInt (f 0 2), dInt (f 1 0), dInt (f 1 1), dInt (f 1 2), dInt (f 2 0), dInt (f 2 1), dInt (f 2 2), dInt (f 3 0), dInt (f 3 1), dInt (f 3 2), dInt (f 4 0), dInt (f 4 1), dInt (f 4 2), dInt (f 5 0), dInt (f 5 1), dInt (f 5 2), dInt (f 6 0), dInt (f 6 1), dInt (f 6 2), dInt (f 7 0), dInt (f 7 1), dInt (f 7 2)] true)] (by repeat (first | exact trivial | refine ⟨.same (congrArg dInt (wrap_up (by omega))), ?_⟩ | refine ⟨.same rfl, ?_⟩ | refine ⟨.any _, ?_⟩)) ⟨⟨rfl, rfl, rfl, rfl⟩, ⟨rfl, rfl, rfl, .same rfl, rfl, .same rfl, rfl, .same rfl, rfl, .same rfl, rfl, .same rfl, rfl, .same rfl, rfl, .same rfl, rfl, .same rfl, rfl, .same rfl, rfl, .same rfl, rfl, .same rfl, rfl, .same rfl, rfl, .same rfl, rfl, .same rfl, rfl, .same rfl, rfl, .same rfl, rfl, .same rfl, rfl, .same rfl, rfl, .same rfl, rfl, .same rfl, rfl, .same rfl, rfl, .same rfl, rfl, .same rfl, rfl, .same rfl, rfl, trivial⟩, ⟨rfl, rfl, rfl, .same rfl, rfl, .same rfl, rfl, .same rfl, rfl, .same rfl, rfl, .same rfl, rfl, .same rfl, rfl, .same rfl, rfl, .same rfl, rfl, .same rfl, rfl, .same rfl, rfl, .same rfl, rfl, .same rfl, rfl, .same rfl, rfl, .same rfl, rfl, .same rfl, rfl, .same rfl, rfl, .same rfl, rfl, .same rfl, rfl, .same rfl, rfl, .same rfl, rfl, .same rfl, rfl, .same rfl, rfl, .same rfl, rfl, .same rfl, rfl, trivial⟩, trivial⟩ rfl rfl) fun s' h => ⟨m - 1, by omega, k + 1, cur, t, f, by omega, hI, h⟩
              · refine BoolCase.no (by simpa using hhi) ?_
                conv => whnf
                repeat (first | (refine Conf.mk (by kernel_rfl) ?_; conv => whnf) | (refine SeqOk.go ?_; conv => whnf))
                refine .look _ _ (isOf_ok c ii (by omega) hi3) rfl rfl ?_
                conv => whnf
                repeat (first | (refine Conf.mk (by kernel_rfl) ?_; conv => whnf) | (refine SeqOk.go ?_; conv => whnf))
                cases hb : bitOf c ii
                · refine BoolCase.yes rfl ?_
                  conv => whnf
                  repeat (first | (refine Conf.mk (by kernel_rfl) ?_; conv => whnf) | (refine SeqOk.go ?_; conv => whnf))
                  exact Into.mono (Into.to [0, 1, 2] [(8, dInt (k + 1 : Nat)), (5, .row 0), (6, .ptr 1 0), (7, .ptr 2 0), (0, .dat (.list (cs.map encI))), (1, .dat (.list (ss.map encI)))] [(0, .rows 43 3 (cur.map Sv.enc) true), (1, .vars 58 24 [dInt (t 0 0), dInt (t 0 1), dInt (t 0 2), dInt (t 1 0), dInt (t 1 1), dInt (t 1 2), dInt (t 2 0), dInt (t 2 1), dInt (t 2 2), dInt (t 3 0), dInt (t 3 1), dInt (t 3 2), dInt (t 4 0), dInt (t 4 1), dInt (t 4 2), dInt (t 5 0), dInt (t 5 1), dInt (t 5 2), dInt (t 6 0), dInt (t 6 1), dInt (t 6 2), dInt (t 7 0), dInt (t 7 1), dInt (t 7 2)] true), (2, .vars 58 24 [dInt (f 0 0), dInt (f 0 1), dInt (f 0 2), dInt (f 1 0), dInt (f 1 1), dInt (f 1 2), dInt (f 2 0), dInt (f 2 1), dInt (f 2 2), dInt (f 3 0), dInt (f 3 1), dInt (f 3 2), dInt (f 4 0), dInt (f 4 1), dInt (f 4 2), dInt (f 5 0), dInt (f 5 1), dInt (f 5 2), dInt (f 6 0), dInt (f 6 1), dInt (f 6 2), dInt (f 7 0), dInt (f 7 1), dInt (f 7 2)] true)] (by repeat (first | exact trivial | refine ⟨.same (congrArg dInt (wrap_up (by omega))), ?_⟩ | refine ⟨.same rfl, ?_⟩ | refine ⟨.any _, ?_⟩)) ⟨⟨rfl, rfl, rfl, rfl⟩, ⟨rfl, rfl, rfl, .same rfl, rfl, .same rfl, rfl, .same rfl, rfl, .same rfl, rfl, .same rfl, rfl, .same rfl, rfl, .same rfl, rfl, .same rfl, rfl, .same rfl, rfl, .same rfl, rfl, .same rfl, rfl, .same rfl, rfl, .same rfl, rfl, .same rfl, rfl, .same rfl, rfl, .same rfl, rfl, .same rfl, rfl, .same rfl, rfl, .same rfl, rfl, .same rfl, rfl, .same rfl, rfl, .same rfl, rfl, .same rfl, rfl, .same rfl, rfl, trivial⟩, ⟨rfl, rfl, rfl, .same rfl, rfl, .same rfl, rfl, .same rfl, rfl, .same rfl, rfl, .same rfl, rfl, .same rfl, rfl, .same rfl, rfl, .same rfl, rfl, .same rfl, rfl, .same rfl, rfl, .same rfl, rfl, .same rfl, rfl, .same rfl, rfl, .same rfl, rfl, .same rfl, rfl, .same rfl, rfl, .same rfl, rfl, .same rfl, rfl, .same rfl, rfl, .same rfl, rfl, .same rfl, rfl, .same rfl, rfl, .same rfl, rfl, .same rfl, rfl, trivial⟩, trivial⟩ rfl rfl) fun s' h => ⟨m - 1, by omega, k + 1, cur, t, f, by omega, hI, h⟩
                · refine BoolCase.no rfl ?_
                  conv => whnf
                  repeat (first | (refine Conf.mk (by kernel_rfl) ?_; conv => whnf) | (refine SeqOk.go ?_; conv => whnf))
                  simp only
                  have hget : ∀ j, j < 3 → ∃ s, cur[j]? = some s := fun j hj => ⟨cur[j]'(by have := hI.len; omega), List.getElem?_eq_getElem _⟩
                  have hcn : nn = 1 ∨ nn = 2 ∨ nn = 3 ∨ nn = 4 ∨ nn = 5 ∨ nn = 6 ∨ nn = 7 := by omega
                  have hcj : ii = 0 ∨ ii = 1 ∨ ii = 2 := by omega
                  rcases hcn with rfl | rfl | rfl | rfl | rfl | rfl | rfl <;> rcases hcj with rfl | rfl | rfl
                  · refine .mk 1 rfl (by decide) ?_
                    conv => whnf
                    repeat (first | (refine Conf.mk (by kernel_rfl) ?_; conv => whnf) | (refine SeqOk.go ?_; conv => whnf))
                    refine .mk 0 rfl (by decide) ?_
                    conv => whnf
                    repeat (first | (refine Conf.mk (by kernel_rfl) ?_; conv => whnf) | (refine SeqOk.go ?_; conv => whnf))
                    obtain ⟨s, hs⟩ := hget 0 (by decide)
                    have hbn : bitOf (colN cs 1) 0 = true := by rw [hcc]; exact hb
                    have hsr := hI.right 0 s hs
                    have hso := right_ok hsr
                    by_cases hf0 : 0 < f 1 0
                    · refine BoolCase.yes (by simpa using hf0) ?_
                      conv => whnf
                      repeat (first | (refine Conf.mk (by kernel_rfl) ?_; conv => whnf) | (refine SeqOk.go ?_; conv => whnf))
                      exact Into.mono (Into.to [0, 1, 2] [(8, dInt (k + 1 : Nat)), (5, .row 0), (6, .ptr 1 0), (7, .ptr 2 0), (0, .dat (.list (cs.map encI))), (1, .dat (.list (ss.map encI)))] [(0, .rows 43 3 (cur.map Sv.enc) true), (1, .vars 58 24 [dInt (t 0 0), dInt (t 0 1), dInt (t 0 2), dInt (t 1 0), dInt (t 1 1), dInt (t 1 2), dInt (t 2 0), dInt (t 2 1), dInt (t 2 2), dInt (t 3 0), dInt (t 3 1), dInt (t 3 2), dInt (t 4 0), dInt (t 4 1), dInt (t 4 2), dInt (t 5 0), dInt (t 5 1), dInt (t 5 2), dInt (t 6 0), dInt (t 6 1), dInt (t 6 2), dInt (t 7 0), dInt (t 7 1), dInt (t 7 2)] true), (2, .vars 58 24 [dInt (f 0 0), dInt (f 0 1), dInt (f 0 2), dInt (f 1 0), dInt (f 1 1), dInt (f 1 2), dInt (f 2 0), dInt (f 2 1), dInt (f 2 2), dInt (f 3 0), dInt (f 3 1), dInt (f 3 2), dInt (f 4 0), dInt (f 4 1), dInt (f 4 2), dInt (f 5 0), dInt (f 5 1), dInt (f 5 2), dInt (f 6 0), dInt (f 6 1), dInt (f 6 2), dInt (f 7 0), dInt (f 7 1), dInt (f 7 2)] true)] (by repeat (first | exact trivial | refine ⟨.same (congrArg dInt (wrap_up (by omega))), ?_⟩ | refine ⟨.same rfl, ?_⟩ | refine ⟨.any _, ?_⟩)) ⟨⟨rfl, rfl, rfl, rfl⟩, ⟨rfl, rfl, rfl, .same rfl, rfl, .same rfl, rfl, .same rfl, rfl, .same rfl, rfl, .same rfl, rfl, .same rfl, rfl, .same rfl, rfl, .same rfl, rfl, .same rfl, rfl, .same rfl, rfl, .same rfl, rfl, .same rfl, rfl, .same rfl, rfl, .same rfl, rfl, .same rfl, rfl, .same rfl, rfl, .same rfl, rfl, .same rfl, rfl, .same rfl, rfl, .same rfl, rfl, .same rfl, rfl, .same rfl, rfl, .same rfl, rfl, .same rfl, rfl, trivial⟩, ⟨rfl, rfl, rfl, .same rfl, rfl, .same rfl, rfl, .same rfl, rfl, .same rfl, rfl, .same rfl, rfl, .same rfl, rfl, .same rfl, rfl, .same rfl, rfl, .same rfl, rfl, .same rfl, rfl, .same rfl, rfl, .same rfl, rfl, .same rfl, rfl, .same rfl, rfl, .same rfl, rfl, .same rfl, rfl, .same rfl, rfl, .same rfl, rfl, .same rfl, rfl, .same rfl, rfl, .same rfl, rfl, .same rfl, rfl, .same rfl, rfl, .same rfl, rfl, trivial⟩, trivial⟩ rfl rfl) fun s' h => ⟨m - 1, by omega, k + 1, cur, t, f, by omega, hI, h⟩
                    · refine BoolCase.no (by simpa using hf0) ?_
                      conv => whnf
                      repeat (first | (refine Conf.mk (by kernel_rfl) ?_; conv => whnf) | (refine SeqOk.go ?_; conv => whnf))
                      simp only
                      refine .mk 1 rfl (by decide) ?_
                      conv => whnf
                      repeat (first | (refine Conf.mk (by kernel_rfl) ?_; conv => whnf) | (refine SeqOk.go ?_; conv => whnf))
                      refine .mk 0 rfl (by decide) ?_
                      conv => whnf
                      repeat (first | (refine Conf.mk (by kernel_rfl) ?_; conv => whnf) | (refine SeqOk.go ?_; conv => whnf))
                      by_cases ht0 : t 1 0 = 0
                      · obtain ⟨p1, p2, p3⟩ := hI.prop hs (by decide) (by decide) (by decide) hbn ht0
                        refine BoolCase.yes (by simpa using ht0) ?_
                        conv => whnf
                        repeat (first | (refine Conf.mk (by kernel_rfl) ?_; conv => whnf) | (refine SeqOk.go ?_; conv => whnf))
                        refine atS rfl hs ?_
                        conv => whnf
                        repeat (first | (refine Conf.mk (by kernel_rfl) ?_; conv => whnf) | (refine SeqOk.go ?_; conv => whnf))
                        refine elS hs ?_
                        conv => whnf
                        repeat (first | (refine Conf.mk (by kernel_rfl) ?_; conv => whnf) | (refine SeqOk.go ?_; conv => whnf))
                        refine .data _ _ (sprop_ok s (1 : Nat) hso.1 hso.2) rfl ?_
                        conv => whnf
                        repeat (first | (refine Conf.mk (by kernel_rfl) ?_; conv => whnf) | (refine SeqOk.go ?_; conv => whnf))
                        simp only
                        refine BoolCase.no (by rw [p1]; rfl) ?_
                        conv => whnf
                        repeat (first | (refine Conf.mk (by kernel_rfl) ?_; conv => whnf) | (refine SeqOk.go ?_; conv => whnf))
                        refine BoolCase.no (by simp; omega) ?_
                        conv => whnf
                        repeat (first | (refine Conf.mk (by kernel_rfl) ?_; conv => whnf) | (refine SeqOk.go ?_; conv => whnf))
                        simp only
                        refine atS rfl hs ?_
                        conv => whnf
                        repeat (first | (refine Conf.mk (by kernel_rfl) ?_; conv => whnf) | (refine SeqOk.go ?_; conv => whnf))
                        refine elS hs ?_
                        conv => whnf
                        repeat (first | (refine Conf.mk (by kernel_rfl) ?_; conv => whnf) | (refine SeqOk.go ?_; conv => whnf))
                        refine .mk 1 rfl (by decide) ?_
                        conv => whnf
                        repeat (first | (refine Conf.mk (by kernel_rfl) ?_; conv => whnf) | (refine SeqOk.go ?_; conv => whnf))
                        refine .mk 0 rfl (by decide) ?_
                        conv => whnf
                        repeat (first | (refine Conf.mk (by kernel_rfl) ?_; conv => whnf) | (refine SeqOk.go ?_; conv => whnf))
                        simp only
                        generalize s.propR ((1 : Nat) : Int) = x at p2 p3
                        exact Into.mono (Into.to [0, 1, 2] [(8, dInt (k + 1 : Nat)), (5, .row 0), (6, .ptr 1 0), (7, .ptr 2 0), (0, .dat (.list (cs.map encI))), (1, .dat (.list (ss.map encI)))] [(0, .rows 43 3 ((cur.set 0 x).map Sv.enc) true), (1, .vars 58 24 [dInt (upd t 1 0 x.clock 0 0), dInt (upd t 1 0 x.clock 0 1), dInt (upd t 1 0 x.clock 0 2), dInt (upd t 1 0 x.clock 1 0), dInt (upd t 1 0 x.clock 1 1), dInt (upd t 1 0 x.clock 1 2), dInt (upd t 1 0 x.clock 2 0), dInt (upd t 1 0 x.clock 2 1), dInt (upd t 1 0 x.clock 2 2), dInt (upd t 1 0 x.clock 3 0), dInt (upd t 1 0 x.clock 3 1), dInt (upd t 1 0 x.clock 3 2), dInt (upd t 1 0 x.clock 4 0), dInt (upd t 1 0 x.clock 4 1), dInt (upd t 1 0 x.clock 4 2), dInt (upd t 1 0 x.clock 5 0), dInt (upd t 1 0 x.clock 5 1), dInt (upd t 1 0 x.clock 5 2), dInt (upd t 1 0 x.clock 6 0), dInt (upd t 1 0 x.clock 6 1), dInt (upd t 1 0 x.clock 6 2), dInt (upd t 1 0 x.clock 7 0), dInt (upd t 1 0 x.clock 7 1), dInt (upd t 1 0 x.clock 7 2)] true), (2, .vars 58 24 [dInt (f 0 0), dInt (f 0 1), dInt (f 0 2), dInt (f 1 0), dInt (f 1 1), dInt (f 1 2), dInt (f 2 0), dInt (f 2 1), dInt (f 2 2), dInt (f 3 0), dInt (f 3 1), dInt (f 3 2), dInt (f 4 0), dInt (f 4 1), dInt (f 4 2), dInt (f 5 0), dInt (f 5 1), dInt (f 5 2), dInt (f 6 0), dInt (f 6 1), dInt (f 6 2), dInt (f 7 0), dInt (f 7 1), dInt (f 7 2)] true)] (by repeat (first | exact trivial | refine ⟨.same (congrArg dInt (wrap_up (by omega))), ?_⟩ | refine ⟨.same rfl, ?_⟩ | refine ⟨.any _, ?_⟩)) ⟨⟨rfl, rfl, rfl, setS⟩, ⟨rfl, rfl, rfl, .same rfl, rfl, .same rfl, rfl, .same rfl, rfl, .same rfl, rfl, .same rfl, rfl, .same rfl, rfl, .same rfl, rfl, .same rfl, rfl, .same rfl, rfl, .same rfl, rfl, .same rfl, rfl, .same rfl, rfl, .same rfl, rfl, .same rfl, rfl, .same rfl, rfl, .same rfl, rfl, .same rfl, rfl, .same rfl, rfl, .same rfl, rfl, .same rfl, rfl, .same rfl, rfl, .same rfl, rfl, .same rfl, rfl, .same rfl, rfl, trivial⟩, ⟨rfl, rfl, rfl, .same rfl, rfl, .same rfl, rfl, .same rfl, rfl, .same rfl, rfl, .same rfl, rfl, .same rfl, rfl, .same rfl, rfl, .same rfl, rfl, .same rfl, rfl, .same rfl, rfl, .same rfl, rfl, .same rfl, rfl, .same rfl, rfl, .same rfl, rfl, .same rfl, rfl, .same rfl, rfl, .same rfl, rfl, .same rfl, rfl, .same rfl, rfl, .same rfl, rfl, .same rfl, rfl, .same rfl, rfl, .same rfl, rfl, .same rfl, rfl, trivial⟩, trivial⟩ rfl rfl) fun s' h => ⟨m - 1, by omega, k + 1, _, _, f, by omega, p3, h⟩
                      · refine BoolCase.no (by simpa using ht0) ?_
                        conv => whnf
                        repeat (first | (refine Conf.mk (by kernel_rfl) ?_; conv => whnf) | (refine SeqOk.go ?_; conv => whnf))
                        refine .look _ _ (most_ok t 1 c (by decide) (by decide) (by omega)) rfl rfl ?_
                        conv => whnf
                        repeat (first | (refine Conf.mk (by kernel_rfl) ?_; conv => whnf) | (refine SeqOk.go ?_; conv => whnf))
                        simp only
                        cases hmo : (mostV c (t 1)).2
                        · refine BoolCase.no rfl ?_
                          conv => whnf
                          repeat (first | (refine Conf.mk (by kernel_rfl) ?_; conv => whnf) | (refine SeqOk.go ?_; conv => whnf))
                          exact Into.mono (Into.to [0, 1, 2] [(8, dInt (k + 1 : Nat)), (5, .row 0), (6, .ptr 1 0), (7, .ptr 2 0), (0, .dat (.list (cs.map encI))), (1, .dat (.list (ss.map encI)))] [(0, .rows 43 3 (cur.map Sv.enc) true), (1, .vars 58 24 [dInt (t 0 0), dInt (t 0 1), dInt (t 0 2), dInt (t 1 0), dInt (t 1 1), dInt (t 1 2), dInt (t 2 0), dInt (t 2 1), dInt (t 2 2), dInt (t 3 0), dInt (t 3 1), dInt (t 3 2), dInt (t 4 0), dInt (t 4 1), dInt (t 4 2), dInt (t 5 0), dInt (t 5 1), dInt (t 5 2), dInt (t 6 0), dInt (t 6 1), dInt (t 6 2), dInt (t 7 0), dInt (t 7 1), dInt (t 7 2)] true), (2, .vars 58 24 [dInt (f 0 0), dInt (f 0 1), dInt (f 0 2), dInt (f 1 0), dInt (f 1 1), dInt (f 1 2), dInt (f 2 0), dInt (f 2 1), dInt (f 2 2), dInt (f 3 0), dInt (f 3 1), dInt (f 3 2), dInt (f 4 0), dInt (f 4 1), dInt (f 4 2), dInt (f 5 0), dInt (f 5 1), dInt (f 5 2), dInt (f 6 0), dInt (f 6 1), dInt (f 6 2), dInt (f 7 0), dInt (f 7 1), dInt (f 7 2)] true)] (by repeat (first | exact trivial | refine ⟨.same (congrArg dInt (wrap_up (by omega))), ?_⟩ | refine ⟨.same rfl, ?_⟩ | refine ⟨.any _, ?_⟩)) ⟨⟨rfl, rfl, rfl, rfl⟩, ⟨rfl, rfl, rfl, .same rfl, rfl, .same rfl, rfl, .same rfl, rfl, .same rfl, rfl, .same rfl, rfl, .same rfl, rfl, .same rfl, rfl, .same rfl, rfl, .same rfl, rfl, .same rfl, rfl, .same rfl, rfl, .same rfl, rfl, .same rfl, rfl, .same rfl, rfl, .same rfl, rfl, .same rfl, rfl, .same rfl, rfl, .same rfl, rfl, .same rfl, rfl, .same rfl, rfl, .same rfl, rfl, .same rfl, rfl, .same rfl, rfl, .same rfl, rfl, trivial⟩, ⟨rfl, rfl, rfl, .same rfl, rfl, .same rfl, rfl, .same rfl, rfl, .same rfl, rfl, .same rfl, rfl, .same rfl, rfl, .same rfl, rfl, .same rfl, rfl, .same rfl, rfl, .same rfl, rfl, .same rfl, rfl, .same rfl, rfl, .same rfl, rfl, .same rfl, rfl, .same rfl, rfl, .same rfl, rfl, .same rfl, rfl, .same rfl, rfl, .same rfl, rfl, .same rfl, rfl, .same rfl, rfl, .same rfl, rfl, .same rfl, rfl, .same rfl, rfl, trivial⟩, trivial⟩ rfl rfl) fun s' h => ⟨m - 1, by omega, k + 1, cur, t, f, by omega, hI, h⟩
                        · have hmv : mostV (colN cs 1) (t 1) = ((mostV c (t 1)).1, true) := by rw [hcc, ← hmo]
                          obtain ⟨p1, p2, p3⟩ := hI.comm hs (by decide) (by decide) (by decide) hbn ht0 hf0 hmv
                          have hso2 := right_ok (right_of_err p2)
                          generalize (mostV c (t 1)).1 = T at p1 p2 p3 hso2
                          refine BoolCase.yes rfl ?_
                          conv => whnf
                          repeat (first | (refine Conf.mk (by kernel_rfl) ?_; conv => whnf) | (refine SeqOk.go ?_; conv => whnf))
                          refine atS rfl hs ?_
                          conv => whnf
                          repeat (first | (refine Conf.mk (by kernel_rfl) ?_; conv => whnf) | (refine SeqOk.go ?_; conv => whnf))
                          refine elS hs ?_
                          conv => whnf
                          repeat (first | (refine Conf.mk (by kernel_rfl) ?_; conv => whnf) | (refine SeqOk.go ?_; conv => whnf))
                          refine .data _ _ (scomm_ok s (1 : Nat) T hso.1 hso.2) rfl ?_
                          conv => whnf
                          repeat (first | (refine Conf.mk (by kernel_rfl) ?_; conv => whnf) | (refine SeqOk.go ?_; conv => whnf))
                          simp only
                          refine BoolCase.no (by rw [p1]; rfl) ?_
                          conv => whnf
                          repeat (first | (refine Conf.mk (by kernel_rfl) ?_; conv => whnf) | (refine SeqOk.go ?_; conv => whnf))
                          refine .data _ _ (scheck_ok (s.commR ((1 : Nat) : Int) T) hso2.1 hso2.2) rfl ?_
                          conv => whnf
                          repeat (first | (refine Conf.mk (by kernel_rfl) ?_; conv => whnf) | (refine SeqOk.go ?_; conv => whnf))
                          refine BoolCase.no (by rw [p2]; rfl) ?_
                          conv => whnf
                          repeat (first | (refine Conf.mk (by kernel_rfl) ?_; conv => whnf) | (refine SeqOk.go ?_; conv => whnf))
                          simp only
                          refine atS rfl hs ?_
                          conv => whnf
                          repeat (first | (refine Conf.mk (by kernel_rfl) ?_; conv => whnf) | (refine SeqOk.go ?_; conv => whnf))
                          refine elS hs ?_
                          conv => whnf
                          repeat (first | (refine Conf.mk (by kernel_rfl) ?_; conv => whnf) | (refine SeqOk.go ?_; conv => whnf))
                          refine .mk 1 rfl (by decide) ?_
                          conv => whnf
                          repeat (first | (refine Conf.mk (by kernel_rfl) ?_; conv => whnf) | (refine SeqOk.go ?_; conv => whnf))
                          refine .mk 0 rfl (by decide) ?_
                          conv => whnf
                          repeat (first | (refine Conf.mk (by kernel_rfl) ?_; conv => whnf) | (refine SeqOk.go ?_; conv => whnf))
                          simp only
                          generalize s.commR ((1 : Nat) : Int) T = x at p3
                          exact Into.mono (Into.to [0, 1, 2] [(8, dInt (k + 1 : Nat)), (5, .row 0), (6, .ptr 1 0), (7, .ptr 2 0), (0, .dat (.list (cs.map encI))), (1, .dat (.list (ss.map encI)))] [(0, .rows 43 3 ((cur.set 0 x).map Sv.enc) true), (1, .vars 58 24 [dInt (t 0 0), dInt (t 0 1), dInt (t 0 2), dInt (t 1 0), dInt (t 1 1), dInt (t 1 2), dInt (t 2 0), dInt (t 2 1), dInt (t 2 2), dInt (t 3 0), dInt (t 3 1), dInt (t 3 2), dInt (t 4 0), dInt (t 4 1), dInt (t 4 2), dInt (t 5 0), dInt (t 5 1), dInt (t 5 2), dInt (t 6 0), dInt (t 6 1), dInt (t 6 2), dInt (t 7 0), dInt (t 7 1), dInt (t 7 2)] true), (2, .vars 58 24 [dInt (upd f 1 0 T 0 0), dInt (upd f 1 0 T 0 1), dInt (upd f 1 0 T 0 2), dInt (upd f 1 0 T 1 0), dInt (upd f 1 0 T 1 1), dInt (upd f 1 0 T 1 2), dInt (upd f 1 0 T 2 0), dInt (upd f 1 0 T 2 1), dInt (upd f 1 0 T 2 2), dInt (upd f 1 0 T 3 0), dInt (upd f 1 0 T 3 1), dInt (upd f 1 0 T 3 2), dInt (upd f 1 0 T 4 0), dInt (upd f 1 0 T 4 1), dInt (upd f 1 0 T 4 2), dInt (upd f 1 0 T 5 0), dInt (upd f 1 0 T 5 1), dInt (upd f 1 0 T 5 2), dInt (upd f 1 0 T 6 0), dInt (upd f 1 0 T 6 1), dInt (upd f 1 0 T 6 2), dInt (upd f 1 0 T 7 0), dInt (upd f 1 0 T 7 1), dInt (upd f 1 0 T 7 2)] true)] (by repeat (first | exact trivial | refine ⟨.same (congrArg dInt (wrap_up (by omega))), ?_⟩ | refine ⟨.same rfl, ?_⟩ | refine ⟨.any _, ?_⟩)) ⟨⟨rfl, rfl, rfl, setS⟩, ⟨rfl, rfl, rfl, .same rfl, rfl, .same rfl, rfl, .same rfl, rfl, .same rfl, rfl, .same rfl, rfl, .same rfl, rfl, .same rfl, rfl, .same rfl, rfl, .same rfl, rfl, .same rfl, rfl, .same rfl, rfl, .same rfl, rfl, .same rfl, rfl, .same rfl, rfl, .same rfl, rfl, .same rfl, rfl, .same rfl, rfl, .same rfl, rfl, .same rfl, rfl, .same rfl, rfl, .same rfl, rfl, .same rfl, rfl, .same rfl, rfl, .same rfl, rfl, trivial⟩, ⟨rfl, rfl, rfl, .same rfl, rfl, .same rfl, rfl, .same rfl, rfl, .same rfl, rfl, .same rfl, rfl, .same rfl, rfl, .same rfl, rfl, .same rfl, rfl, .same rfl, rfl, .same rfl, rfl, .same rfl, rfl, .same rfl, rfl, .same rfl, rfl, .same rfl, rfl, .same rfl, rfl, .same rfl, rfl, .same rfl, rfl, .same rfl, rfl, .same rfl, rfl, .same rfl, rfl, .same rfl, rfl, .same rfl, rfl, .same rfl, rfl, .same rfl, rfl, trivial⟩, trivial⟩ rfl rfl) fun s' h => ⟨m - 1, by omega, k + 1, _, t, _, by omega, p3, h⟩
                  · refine .mk 1 rfl (by decide) ?_
                    conv => whnf
                    repeat (first | (refine Conf.mk (by kernel_rfl) ?_; conv => whnf) | (refine SeqOk.go ?_; conv => whnf))
                    refine .mk 1 rfl (by decide) ?_
                    conv => whnf
                    repeat (first | (refine Conf.mk (by kernel_rfl) ?_; conv => whnf) | (refine SeqOk.go ?_; conv => whnf))
                    obtain ⟨s, hs⟩ := hget 1 (by decide)
                    have hbn : bitOf (colN cs 1) 1 = true := by rw [hcc]; exact hb
                    have hsr := hI.right 1 s hs
                    have hso := right_ok hsr
                    by_cases hf0 : 0 < f 1 1
                    · refine BoolCase.yes (by simpa using hf0) ?_
                      conv => whnf
                      repeat (first | (refine Conf.mk (by kernel_rfl) ?_; conv => whnf) | (refine SeqOk.go ?_; conv => whnf))
                      exact Into.mono (Into.to [0, 1, 2] [(8, dInt (k + 1 : Nat)), (5, .row 0), (6, .ptr 1 0), (7, .ptr 2 0), (0, .dat (.list (cs.map encI))), (1, .dat (.list (ss.map encI)))] [(0, .rows 43 3 (cur.map Sv.enc) true), (1, .vars 58 24 [dInt (t 0 0), dInt (t 0 1), dInt (t 0 2), dInt (t 1 0), dInt (t 1 1), dInt (t 1 2), dInt (t 2 0), dInt (t 2 1), dInt (t 2 2), dInt (t 3 0), dInt (t 3 1), dInt (t 3 2), dInt (t 4 0), dInt (t 4 1), dInt (t 4 2), dInt (t 5 0), dInt (t 5 1), dInt (t 5 2), dInt (t 6 0), dInt (t 6 1), dInt (t 6 2), dInt (t 7 0), dInt (t 7 1), dInt (t 7 2)] true), (2, .vars 58 24 [dInt (f 0 0), dInt (f 0 1), dInt (f 0 2), dInt (f 1 0), dInt (f 1 1), dInt (f 1 2), dInt (f 2 0), dInt (f 2 1), dInt (f 2 2), dInt (f 3 0), dInt (f 3 1), dInt (f 3 2), dInt (f 4 0), dInt (f 4 1), dInt (f 4 2), dInt (f 5 0), dInt (f 5 1), dInt (f 5 2), dInt (f 6 0), dInt (f 6 1), dInt (f 6 2), dInt (f 7 0), dInt (f 7 1), dInt (f 7 2)] true)] (by repeat (first | exact trivial | refine ⟨.same (congrArg dInt (wrap_up (by omega))), ?_⟩ | refine ⟨.same rfl, ?_⟩ | refine ⟨.any _, ?_⟩)) ⟨⟨rfl, rfl, rfl, rfl⟩, ⟨rfl, rfl, rfl, .same rfl, rfl, .same rfl, rfl, .same rfl, rfl, .same rfl, rfl, .same rfl, rfl, .same rfl, rfl, .same rfl, rfl, .same rfl, rfl, .same rfl, rfl, .same rfl, rfl, .same rfl, rfl, .same rfl, rfl, .same rfl, rfl, .same rfl, rfl, .same rfl, rfl, .same rfl, rfl, .same rfl, rfl, .same rfl, rfl, .same rfl, rfl, .same rfl, rfl, .same rfl, rfl, .same rfl, rfl, .same rfl, rfl, .same rfl, rfl, trivial⟩, ⟨rfl, rfl, rfl, .same rfl, rfl, .same rfl, rfl, .same rfl, rfl, .same rfl, rfl, .same rfl, rfl, .same rfl, rfl, .same rfl, rfl, .same rfl, rfl, .same rfl, rfl, .same rfl, rfl, .same rfl, rfl, .same rfl, rfl, .same rfl, rfl, .same rfl, rfl, .same rfl, rfl, .same rfl, rfl, .same rfl, rfl, .same rfl, rfl, .same rfl, rfl, .same rfl, rfl, .same rfl, rfl, .same rfl, rfl, .same rfl, rfl, .same rfl, rfl, trivial⟩, trivial⟩ rfl rfl) fun s' h => ⟨m - 1, by omega, k + 1, cur, t, f, by omega, hI, h⟩
                    · refine BoolCase.no (by simpa using hf0) ?_
                      conv => whnf
                      repeat (first | (refine Conf.mk (by kernel_rfl) ?_; conv => whnf) | (refine SeqOk.go ?_; conv => whnf))
                      simp only
                      refine .mk 1 rfl (by decide) ?_
                      conv => whnf
                      repeat (first | (refine Conf.mk (by kernel_rfl) ?_; conv => whnf) | (refine SeqOk.go ?_; conv => whnf))
                      refine .mk 1 rfl (by decide) ?_
                      conv => whnf
                      repeat (first | (refine Conf.mk (by kernel_rfl) ?_; conv => whnf) | (refine SeqOk.go ?_; conv => whnf))
                      by_cases ht0 : t 1 1 = 0
                      · obtain ⟨p1, p2, p3⟩ := hI.prop hs (by decide) (by decide) (by decide) hbn ht0
                        refine BoolCase.yes (by simpa using ht0) ?_
                        conv => whnf
                        repeat (first | (refine Conf.mk (by kernel_rfl) ?_; conv => whnf) | (refine SeqOk.go ?_; conv => whnf))
                        refine atS rfl hs ?_
                        conv => whnf
                        repeat (first | (refine Conf.mk (by kernel_rfl) ?_; conv => whnf) | (refine SeqOk.go ?_; conv => whnf))
                        refine elS hs ?_
                        conv => whnf
                        repeat (first | (refine Conf.mk (by kernel_rfl) ?_; conv => whnf) | (refine SeqOk.go ?_; conv => whnf))
                        refine .data _ _ (sprop_ok s (1 : Nat) hso.1 hso.2) rfl ?_
                        conv => whnf
                        repeat (first | (refine Conf.mk (by kernel_rfl) ?_; conv => whnf) | (refine SeqOk.go ?_; conv => whnf))
                        simp only
                        refine BoolCase.no (by rw [p1]; rfl) ?_
                        conv => whnf
                        repeat (first | (refine Conf.mk (by kernel_rfl) ?_; conv => whnf) | (refine SeqOk.go ?_; conv => whnf))
                        refine BoolCase.no (by simp; omega) ?_
                        conv => whnf
                        repeat (first | (refine Conf.mk (by kernel_rfl) ?_; conv => whnf) | (refine SeqOk.go ?_; conv => whnf))
                        simp only
                        refine atS rfl hs ?_
                        conv => whnf
                        repeat (first | (refine Conf.mk (by kernel_rfl) ?_; conv => whnf) | (refine SeqOk.go ?_; conv => whnf))
                        refine elS hs ?_
                        conv => whnf
                        repeat (first | (refine Conf.mk (by kernel_rfl) ?_; conv => whnf) | (refine SeqOk.go ?_; conv => whnf))
                        refine .mk 1 rfl (by decide) ?_
                        conv => whnf
                        repeat (first | (refine Conf.mk (by kernel_rfl) ?_; conv => whnf) | (refine SeqOk.go ?_; conv => whnf))
                        refine .mk 1 rfl (by decide) ?_
                        conv => whnf
                        repeat (first | (refine Conf.mk (by kernel_rfl) ?_; conv => whnf) | (refine SeqOk.go ?_; conv => whnf))
                        simp only
                        generalize s.propR ((1 : Nat) : Int) = x at p2 p3
                        exact Into.mono (Into.to [0, 1, 2] [(8, dInt (k + 1 : Nat)), (5, .row 0), (6, .ptr 1 0), (7, .ptr 2 0), (0, .dat (.list (cs.map encI))), (1, .dat (.list (ss.map encI)))] [(0, .rows 43 3 ((cur.set 1 x).map Sv.enc) true), (1, .vars 58 24 [dInt (upd t 1 1 x.clock 0 0), dInt (upd t 1 1 x.clock 0 1), dInt (upd t 1 1 x.clock 0 2), dInt (upd t 1 1 x.clock 1 0), dInt (upd t 1 1 x.clock 1 1), dInt (upd t 1 1 x.clock 1 2), dInt (upd t 1 1 x.clock 2 0), dInt (upd t 1 1 x.clock 2 1), dInt (upd t 1 1 x.clock 2 2), dInt (upd t 1 1 x.clock 3 0), dInt (upd t 1 1 x.clock 3 1), dInt (upd t 1 1 x.clock 3 2), dInt (upd t 1 1 x.clock 4 0), dInt (upd t 1 1 x.clock 4 1), dInt (upd t 1 1 x.clock 4 2), dInt (upd t 1 1 x.clock 5 0), dInt (upd t 1 1 x.clock 5 1), dInt (upd t 1 1 x.clock 5 2), dInt (upd t 1 1 x.clock 6 0), dInt (upd t 1 1 x.clock 6 1), dInt (upd t 1 1 x.clock 6 2), dInt (upd t 1 1 x.clock 7 0), dInt (upd t 1 1 x.clock 7 1), dInt (upd t 1 1 x.clock 7 2)] true), (2, .vars 58 24 [dInt (f 0 0), dInt (f 0 1), dInt (f 0 2), dInt (f 1 0), dInt (f 1 1), dInt (f 1 2), dInt (f 2 0), dInt (f 2 1), dInt (f 2 2), dInt (f 3 0), dInt (f 3 1), dInt (f 3 2), dInt (f 4 0), dInt (f 4 1), dInt (f 4 2), dInt (f 5 0), dInt (f 5 1), dInt (f 5 2), dInt (f 6 0), dInt (f 6 1), dInt (f 6 2), dInt (f 7 0), dInt (f 7 1), dInt (f 7 2)] true)] (by repeat (first | exact trivial | refine ⟨.same (congrArg dInt (wrap_up (by omega))), ?_⟩ | refine ⟨.same rfl, ?_⟩ | refine ⟨.any _, ?_⟩)) ⟨⟨rfl, rfl, rfl, setS⟩, ⟨rfl, rfl, rfl, .same rfl, rfl, .same rfl, rfl, .same rfl, rfl, .same rfl, rfl, .same rfl, rfl, .same rfl, rfl, .same rfl, rfl, .same rfl, rfl, .same rfl, rfl, .same rfl, rfl, .same rfl, rfl, .same rfl, rfl, .same rfl, rfl, .same rfl, rfl, .same rfl, rfl, .same rfl, rfl, .same rfl, rfl, .same rfl, rfl, .same rfl, rfl, .same rfl, rfl, .same rfl, rfl, .same rfl, rfl, .same rfl, rfl, .same rfl, rfl, trivial⟩, ⟨rfl, rfl, rfl, .same rfl, rfl, .same rfl, rfl, .same rfl, rfl, .same rfl, rfl, .same rfl, rfl, .same rfl, rfl, .same rfl, rfl, .same rfl, rfl, .same rfl, rfl, .same rfl, rfl, .same rfl, rfl, .same rfl, rfl, .same rfl, rfl, .same rfl, rfl, .same rfl, rfl, .same rfl, rfl, .same rfl, rfl, .same rfl, rfl, .same rfl, rfl, .same rfl, rfl, .same rfl, rfl, .same rfl, rfl, .same rfl, rfl, .same rfl, rfl, trivial⟩, trivial⟩ rfl rfl) fun s' h => ⟨m - 1, by omega, k + 1, _, _, f, by omega, p3, h⟩
                      · refine BoolCase.no (by simpa using ht0) ?_
                        conv => whnf
                        repeat (first | (refine Conf.mk (by kernel_rfl) ?_; conv => whnf) | (refine SeqOk.go ?_; conv => whnf))
                        refine .look _ _ (most_ok t 1 c (by decide) (by decide) (by omega)) rfl rfl ?_
                        conv => whnf
                        repeat (first | (refine Conf.mk (by kernel_rfl) ?_; conv => whnf) | (refine SeqOk.go ?_; conv => whnf))
                        simp only
                        cases hmo : (mostV c (t 1)).2
                        · refine BoolCase.no rfl ?_
                          conv => whnf
                          repeat (first | (refine Conf.mk (by kernel_rfl) ?_; conv => whnf) | (refine SeqOk.go ?_; conv => whnf))
                          exact Into.mono (Into.to [0, 1, 2] [(8, dInt (k + 1 : Nat)), (5, .row 0), (6, .ptr 1 0), (7, .ptr 2 0), (0, .dat (.list (cs.map encI))), (1, .dat (.list (ss.map encI)))] [(0, .rows 43 3 (cur.map Sv.enc) true), (1, .vars 58 24 [dInt (t 0 0), dInt (t 0 1), dInt (t 0 2), dInt (t 1 0), dInt (t 1 1), dInt (t 1 2), dInt (t 2 0), dInt (t 2 1), dInt (t 2 2), dInt (t 3 0), dInt (t 3 1), dInt (t 3 2), dInt (t 4 0), dInt (t 4 1), dInt (t 4 2), dInt (t 5 0), dInt (t 5 1), dInt (t 5 2), dInt (t 6 0), dInt (t 6 1), dInt (t 6 2), dInt (t 7 0), dInt (t 7 1), dInt (t 7 2)] true), (2, .vars 58 24 [dInt (f 0 0), dInt (f 0 1), dInt (f 0 2), dInt (f 1 0), dInt (f 1 1), dInt (f 1 2), dInt (f 2 0), dInt (f 2 1), dInt (f 2 2), dInt (f 3 0), dInt (f 3 1), dInt (f 3 2), dInt (f 4 0), dInt (f 4 1), dInt (f 4 2), dInt (f 5 0), dInt (f 5 1), dInt (f 5 2), dInt (f 6 0), dInt (f 6 1), dInt (f 6 2), dInt (f 7 0), dInt (f 7 1), dInt (f 7 2)] true)] (by repeat (first | exact trivial | refine ⟨.same (congrArg dInt (wrap_up (by omega))), ?_⟩ | refine ⟨.same rfl, ?_⟩ | refine ⟨.any _, ?_⟩)) ⟨⟨rfl, rfl, rfl, rfl⟩, ⟨rfl, rfl, rfl, .same rfl, rfl, .same rfl, rfl, .same rfl, rfl, .same rfl, rfl, .same rfl, rfl, .same rfl, rfl, .same rfl, rfl, .same rfl, rfl, .same rfl, rfl, .same rfl, rfl, .same rfl, rfl, .same rfl, rfl, .same rfl, rfl, .same rfl, rfl, .same rfl, rfl, .same rfl, rfl, .same rfl, rfl, .same rfl, rfl, .same rfl, rfl, .same rfl, rfl, .same rfl, rfl, .same rfl, rfl, .same rfl, rfl, .same rfl, rfl, trivial⟩, ⟨rfl, rfl, rfl, .same rfl, rfl, .same rfl, rfl, .same rfl, rfl, .same rfl, rfl, .same rfl, rfl, .same rfl, rfl, .same rfl, rfl, .same rfl, rfl, .same rfl, rfl, .same rfl, rfl, .same rfl, rfl, .same rfl, rfl, .same rfl, rfl, .same rfl, rfl, .same rfl, rfl, .same rfl, rfl, .same rfl, rfl, .same rfl, rfl, .same rfl, rfl, .same rfl, rfl, .same rfl, rfl, .same rfl, rfl, .same rfl, rfl, .same rfl, rfl, trivial⟩, trivial⟩ rfl rfl) fun s' h => ⟨m - 1, by omega, k + 1, cur, t, f, by omega, hI, h⟩
                        · have hmv : mostV (colN cs 1) (t 1) = ((mostV c (t 1)).1, true) := by rw [hcc, ← hmo]
                          obtain ⟨p1, p2, p3⟩ := hI.comm hs (by decide) (by decide) (by decide) hbn ht0 hf0 hmv
                          have hso2 := right_ok (right_of_err p2)
                          generalize (mostV c (t 1)).1 = T at p1 p2 p3 hso2
                          refine BoolCase.yes rfl ?_
                          conv => whnf
                          repeat (first | (refine Conf.mk (by kernel_rfl) ?_; conv => whnf) | (refine SeqOk.go ?_; conv => whnf))
                          refine atS rfl hs ?_
                          conv => whnf
                          repeat (first | (refine Conf.mk (by kernel_rfl) ?_; conv => whnf) | (refine SeqOk.go ?_; conv => whnf))
                          refine elS hs ?_
                          conv => whnf
                          repeat (first | (refine Conf.mk (by kernel_rfl) ?_; conv => whnf) | (refine SeqOk.go ?_; conv => whnf))
                          refine .data _ _ (scomm_ok s (1 : Nat) T hso.1 hso.2) rfl ?_
                          conv => whnf
                          repeat (first | (refine Conf.mk (by kernel_rfl) ?_; conv => whnf) | (refine SeqOk.go ?_; conv => whnf))
                          simp only
                          refine BoolCase.no (by rw [p1]; rfl) ?_
                          conv => whnf
                          repeat (first | (refine Conf.mk (by kernel_rfl) ?_; conv => whnf) | (refine SeqOk.go ?_; conv => whnf))
                          refine .data _ _ (scheck_ok (s.commR ((1 : Nat) : Int) T) hso2.1 hso2.2) rfl ?_
                          conv => whnf
                          repeat (first | (refine Conf.mk (by kernel_rfl) ?_; conv => whnf) | (refine SeqOk.go ?_; conv => whnf))
                          refine BoolCase.no (by rw [p2]; rfl) ?_
                          conv => whnf
                          repeat (first | (refine Conf.mk (by kernel_rfl) ?_; conv => whnf) | (refine SeqOk.go ?_; conv => whnf))
                          simp only
                          refine atS rfl hs ?_
                          conv => whnf
                          repeat (first | (refine Conf.mk (by kernel_rfl) ?_; conv => whnf) | (refine SeqOk.go ?_; conv => whnf))
                          refine elS hs ?_
                          conv => whnf
                          repeat (first | (refine Conf.mk (by kernel_rfl) ?_; conv => whnf) | (refine SeqOk.go ?_; conv => whnf))
                          refine .mk 1 rfl (by decide) ?_
                          conv => whnf
                          repeat (first | (refine Conf.mk (by kernel_rfl) ?_; conv => whnf) | (refine SeqOk.go ?_; conv => whnf))
                          refine .mk 1 rfl (by decide) ?_
                          conv => whnf
                          repeat (first | (refine Conf.mk (by kernel_rfl) ?_; conv => whnf) | (refine SeqOk.go ?_; conv => whnf))
                          simp only
                          generalize s.commR ((1 : Nat) : Int) T = x at p3
                          exact Into.mono (Into.to [0, 1, 2] [(8, dInt (k + 1 : Nat)), (5, .row 0), (6, .ptr 1 0), (7, .ptr 2 0), (0, .dat (.list (cs.map encI))), (1, .dat (.list (ss.map encI)))] [(0, .rows 43 3 ((cur.set 1 x).map Sv.enc) true), (1, .vars 58 24 [dInt (t 0 0), dInt (t 0 1), dInt (t 0 2), dInt (t 1 0), dInt (t 1 1), dInt (t 1 2), dInt (t 2 0), dInt (t 2 1), dInt (t 2 2), dInt (t 3 0), dInt (t 3 1), dInt (t 3 2), dInt (t 4 0), dInt (t 4 1), dInt (t 4 2), dInt (t 5 0), dInt (t 5 1), dInt (t 5 2), dInt (t 6 0), dInt (t 6 1), dInt (t 6 2), dInt (t 7 0), dInt (t 7 1), dInt (t 7 2)] true), (2, .vars 58 24 [dInt (upd f 1 1 T 0 0), dInt (upd f 1 1 T 0 1), dInt (upd f 1 1 T 0 2), dInt (upd f 1 1 T 1 0), dInt (upd f 1 1 T 1 1), dInt (upd f 1 1 T 1 2), dInt (upd f 1 1 T 2 0), dInt (upd f 1 1 T 2 1), dInt (upd f 1 1 T 2 2), dInt (upd f 1 1 T 3 0), dInt (upd f 1 1 T 3 1), dInt (upd f 1 1 T 3 2), dInt (upd f 1 1 T 4 0), dInt (upd f 1 1 T 4 1), dInt (upd f 1 1 T 4 2), dInt (upd f 1 1 T 5 0), dInt (upd f 1 1 T 5 1), dInt (upd f 1 1 T 5 2), dInt (upd f 1 1 T 6 0), dInt (upd f 1 1 T 6 1), dInt (upd f 1 1 T 6 2), dInt (upd f 1 1 T 7 0), dInt (upd f 1 1 T 7 1), dInt (upd f 1 1 T 7 2)] true)] (by repeat (first | exact trivial | refine ⟨.same (congrArg dInt (wrap_up (by omega))), ?_⟩ | refine ⟨.same rfl, ?_⟩ | refine ⟨.any _, ?_⟩)) ⟨⟨rfl, rfl, rfl, setS⟩, ⟨rfl, rfl, rfl, .same rfl, rfl, .same rfl, rfl, .same rfl, rfl, .same rfl, rfl, .same rfl, rfl, .same rfl, rfl, .same rfl, rfl, .same rfl, rfl, .same rfl, rfl, .same rfl, rfl, .same rfl, rfl, .same rfl, rfl, .same rfl, rfl, .same rfl, rfl, .same rfl, rfl, .same rfl, rfl, .same rfl, rfl, .same rfl, rfl, .same rfl, rfl, .same rfl, rfl, .same rfl, rfl, .same rfl, rfl, .same rfl, rfl, .same rfl, rfl, trivial⟩, ⟨rfl, rfl, rfl, .same rfl, rfl, .same rfl, rfl, .same rfl, rfl, .same rfl, rfl, .same rfl, rfl, .same rfl, rfl, .same rfl, rfl, .same rfl, rfl, .same rfl, rfl, .same rfl, rfl, .same rfl, rfl, .same rfl, rfl, .same rfl, rfl, .same rfl, rfl, .same rfl, rfl, .same rfl, rfl, .same rfl, rfl, .same rfl, rfl, .same rfl, rfl, .same rfl, rfl, .same rfl, rfl, .same rfl, rfl, .same rfl, rfl, .same rfl, rfl, trivial⟩, trivial⟩ rfl rfl) fun s' h => ⟨m - 1, by omega, k + 1, _, t, _, by omega, p3, h⟩
                  · refine .mk 1 rfl (by decide) ?_
                    conv => whnf
                    repeat (first | (refine Conf.mk (by kernel_rfl) ?_; conv => whnf) | (refine SeqOk.go ?_; conv => whnf))
                    refine .mk 2 rfl (by decide) ?_
                    conv => whnf
                    repeat (first | (refine Conf.mk (by kernel_rfl) ?_; conv => whnf) | (refine SeqOk.go ?_; conv => whnf))
                    obtain ⟨s, hs⟩ := hget 2 (by decide)
                    have hbn : bitOf (colN cs 1) 2 = true := by rw [hcc]; exact hb
                    have hsr := hI.right 2 s hs
                    have hso := right_ok hsr
                    by_cases hf0 : 0 < f 1 2
                    · refine BoolCase.yes (by simpa using hf0) ?_
                      conv => whnf
                      repeat (first | (refine Conf.mk (by kernel_rfl) ?_; conv => whnf) | (refine SeqOk.go ?_; conv => whnf))
                      exact Into.mono (Into.to [0, 1, 2] [(8, dInt (k + 1 : Nat)), (5, .row 0), (6, .ptr 1 0), (7, .ptr 2 0), (0, .dat (.list (cs.map encI))), (1, .dat (.list (ss.map encI)))] [(0, .rows 43 3 (cur.map Sv.enc) true), (1, .vars 58 24 [dInt (t 0 0), dInt (t 0 1), dInt (t 0 2), dInt (t 1 0), dInt (t 1 1), dInt (t 1 2), dInt (t 2 0), dInt (t 2 1), dInt (t 2 2), dInt (t 3 0), dInt (t 3 1), dInt (t 3 2), dInt (t 4 0), dInt (t 4 1), dInt (t 4 2), dInt (t 5 0), dInt (t 5 1), dInt (t 5 2), dInt (t 6 0), dInt (t 6 1), dInt (t 6 2), dInt (t 7 0), dInt (t 7 1), dInt (t 7 2)] true), (2, .vars 58 24 [dInt (f 0 0), dInt (f 0 1), dInt (f 0 2), dInt (f 1 0), dInt (f 1 1), dInt (f 1 2), dInt (f 2 0), dInt (f 2 1), dInt (f 2 2), dInt (f 3 0), dInt (f 3 1), dInt (f 3 2), dInt (f 4 0), dInt (f 4 1), dInt (f 4 2), dInt (f 5 0), dInt (f 5 1), dInt (f 5 2), dInt (f 6 0), dInt (f 6 1), dInt (f 6 2), dInt (f 7 0), dInt (f 7 1), dInt (f 7 2)] true)] (by repeat (first | exact trivial | refine ⟨.same (congrArg dInt (wrap_up (by omega))), ?_⟩ | refine ⟨.same rfl, ?_⟩ | refine ⟨.any _, ?_⟩)) ⟨⟨rfl, rfl, rfl, rfl⟩, ⟨rfl, rfl, rfl, .same rfl, rfl, .same rfl, rfl, .same rfl, rfl, .same rfl, rfl, .same rfl, rfl, .same rfl, rfl, .same rfl, rfl, .same rfl, rfl, .same rfl, rfl, .same rfl, rfl, .same rfl, rfl, .same rfl, rfl, .same rfl, rfl, .same rfl, rfl, .same rfl, rfl, .same rfl, rfl, .same rfl, rfl, .same rfl, rfl, .same rfl, rfl, .same rfl, rfl, .same rfl, rfl, .same rfl, rfl, .same rfl, rfl, .same rfl, rfl, trivial⟩, ⟨rfl, rfl, rfl, .same rfl, rfl, .same rfl, rfl, .same rfl, rfl, .same rfl, rfl, .same rfl, rfl, .same rfl, rfl, .same rfl, rfl, .same rfl, rfl, .same rfl, rfl, .same rfl, rfl, .same rfl, rfl, .same rfl, rfl, .same rfl, rfl, .same rfl, rfl, .same rfl, rfl, .same rfl, rfl, .same rfl, rfl, .same rfl, rfl, .same rfl, rfl, .same rfl, rfl, .same rfl, rfl, .same rfl, rfl, .same rfl, rfl, .same rfl, rfl, trivial⟩, trivial⟩ rfl rfl) fun s' h => ⟨m - 1, by omega, k + 1, cur, t, f, by omega, hI, h⟩
                    · refine BoolCase.no (by simpa using hf0) ?_
                      conv => whnf
                      repeat (first | (refine Conf.mk (by kernel_rfl) ?_; conv => whnf) | (refine SeqOk.go ?_; conv => whnf))
                      simp only
                      refine .mk 1 rfl (by decide) ?_
                      conv => whnf
                      repeat (first | (refine Conf.mk (by kernel_rfl) ?_; conv => whnf) | (refine SeqOk.go ?_; conv => whnf))
                      refine .mk 2 rfl (by decide) ?_
                      conv => whnf
                      repeat (first | (refine Conf.mk (by kernel_rfl) ?_; conv => whnf) | (refine SeqOk.go ?_; conv => whnf))
                      by_cases ht0 : t 1 2 = 0
                      · obtain ⟨p1, p2, p3⟩ := hI.prop hs (by decide) (by decide) (by decide) hbn ht0
                        refine BoolCase.yes (by simpa using ht0) ?_
                        conv => whnf
                        repeat (first | (refine Conf.mk (by kernel_rfl) ?_; conv => whnf) | (refine SeqOk.go ?_; conv => whnf))
                        refine atS rfl hs ?_
                        conv => whnf
                        repeat (first | (refine Conf.mk (by kernel_rfl) ?_; conv => whnf) | (refine SeqOk.go ?_; conv => whnf))
                        refine elS hs ?_
                        conv => whnf
                        repeat (first | (refine Conf.mk (by kernel_rfl) ?_; conv => whnf) | (refine SeqOk.go ?_; conv => whnf))
                        refine .data _ _ (sprop_ok s (1 : Nat) hso.1 hso.2) rfl ?_
                        conv => whnf
                        repeat (first | (refine Conf.mk (by kernel_rfl) ?_; conv => whnf) | (refine SeqOk.go ?_; conv => whnf))
                        simp only
                        refine BoolCase.no (by rw [p1]; rfl) ?_
                        conv => whnf
                        repeat (first | (refine Conf.mk (by kernel_rfl) ?_; conv => whnf) | (refine SeqOk.go ?_; conv => whnf))
                        refine BoolCase.no (by simp; omega) ?_
                        conv => whnf
                        repeat (first | (refine Conf.mk (by kernel_rfl) ?_; conv => whnf) | (refine SeqOk.go ?_; conv => whnf))
                        simp only
                        refine atS rfl hs ?_
                        conv => whnf
                        repeat (first | (refine Conf.mk (by kernel_rfl) ?_; conv => whnf) | (refine SeqOk.go ?_; conv => whnf))
                        refine elS hs ?_
                        conv => whnf
                        repeat (first | (refine Conf.mk (by kernel_rfl) ?_; conv => whnf) | (refine SeqOk.go ?_; conv => whnf))
                        refine .mk 1 rfl (by decide) ?_
                        conv => whnf
                        repeat (first | (refine Conf.mk (by kernel_rfl) ?_; conv => whnf) | (refine SeqOk.go ?_; conv => whnf))
                        refine .mk 2 rfl (by decide) ?_
                        conv => whnf
                        repeat (first | (refine Conf.mk (by kernel_rfl) ?_; conv => whnf) | (refine SeqOk.go ?_; conv => whnf))
                        simp only
                        generalize s.propR ((1 : Nat) : Int) = x at p2 p3
                        exact Into.mono (Into.to [0, 1, 2] [(8, dInt (k + 1 : Nat)), (5, .row 0), (6, .ptr 1 0), (7, .ptr 2 0), (0, .dat (.list (cs.map encI))), (1, .dat (.list (ss.map encI)))] [(0, .rows 43 3 ((cur.set 2 x).map Sv.enc) true), (1, .vars 58 24 [dInt (upd t 1 2 x.clock 0 0), dInt (upd t 1 2 x.clock 0 1), dInt (upd t 1 2 x.clock 0 2), dInt (upd t 1 2 x.clock 1 0), dInt (upd t 1 2 x.clock 1 1), dInt (upd t 1 2 x.clock 1 2), dInt (upd t 1 2 x.clock 2 0), dInt (upd t 1 2 x.clock 2 1), dInt (upd t 1 2 x.clock 2 2), dInt (upd t 1 2 x.clock 3 0), dInt (upd t 1 2 x.clock 3 1), dInt (upd t 1 2 x.clock 3 2), dInt (upd t 1 2 x.clock 4 0), dInt (upd t 1 2 x.clock 4 1), dInt (upd t 1 2 x.clock 4 2), dInt (upd t 1 2 x.clock 5 0), dInt (upd t 1 2 x.clock 5 1), dInt (upd t 1 2 x.clock 5 2), dInt (upd t 1 2 x.clock 6 0), dInt (upd t 1 2 x.clock 6 1), dInt (upd t 1 2 x.clock 6 2), dInt (upd t 1 2 x.clock 7 0), dInt (upd t 1 2 x.clock 7 1), dInt (upd t 1 2 x.clock 7 2)] true), (2, .vars 58 24 [dInt (f 0 0), dInt (f 0 1), dInt (f 0 2), dInt (f 1 0), dInt (f 1 1), dInt (f 1 2), dInt (f 2 0), dInt (f 2 1), dInt (f 2 2), dInt (f 3 0), dInt (f 3 1), dInt (f 3 2), dInt (f 4 0), dInt (f 4 1), dInt (f 4 2), dInt (f 5 0), dInt (f 5 1), dInt (f 5 2), dInt (f 6 0), dInt (f 6 1), dInt (f 6 2), dInt (f 7 0), dInt (f 7 1), dInt (f 7 2)] true)] (by repeat (first | exact trivial | refine ⟨.same (congrArg dInt (wrap_up (by omega))), ?_⟩ | refine ⟨.same rfl, ?_⟩ | refine ⟨.any _, ?_⟩)) ⟨⟨rfl, rfl, rfl, setS⟩, ⟨rfl, rfl, rfl, .same rfl, rfl, .same rfl, rfl, .same rfl, rfl, .same rfl, rfl, .same rfl, rfl, .same rfl, rfl, .same rfl, rfl, .same rfl, rfl, .same rfl, rfl, .same rfl, rfl, .same rfl, rfl, .same rfl, rfl, .same rfl, rfl, .same rfl, rfl, .same rfl, rfl, .same rfl, rfl, .same rfl, rfl, .same rfl, rfl, .same rfl, rfl, .same rfl, rfl, .same rfl, rfl, .same rfl, rfl, .same rfl, rfl, .same rfl, rfl, trivial⟩, ⟨rfl, rfl, rfl, .same rfl, rfl, .same rfl, rfl, .same rfl, rfl, .same rfl, rfl, .same rfl, rfl, .same rfl, rfl, .same rfl, rfl, .same rfl, rfl, .same rfl, rfl, .same rfl, rfl, .same rfl, rfl, .same rfl, rfl, .same rfl, rfl, .same rfl, rfl, .same rfl, rfl, .same rfl, rfl, .same rfl, rfl, .same rfl, rfl, .same rfl, rfl, .same rfl, rfl, .same rfl, rfl, .same rfl, rfl, .same rfl, rfl, .same rfl, rfl, trivial⟩, trivial⟩ rfl rfl) fun s' h => ⟨m - 1, by omega, k + 1, _, _, f, by omega, p3, h⟩
                      · refine BoolCase.no (by simpa using ht0) ?_
                        conv => whnf
                        repeat (first | (refine Conf.mk (by kernel_rfl) ?_; conv => whnf) | (refine SeqOk.go ?_; conv => whnf))
                        refine .look _ _ (most_ok t 1 c (by decide) (by decide) (by omega)) rfl rfl ?_
                        conv => whnf
                        repeat (first | (refine Conf.mk (by kernel_rfl) ?_; conv => whnf) | (refine SeqOk.go ?_; conv => whnf))
                        simp only
                        cases hmo : (mostV c (t 1)).2
                        · refine BoolCase.no rfl ?_
                          conv => whnf
                          repeat (first | (refine Conf.mk (by kernel_rfl) ?_; conv => whnf) | (refine SeqOk.go ?_; conv => whnf))
                          exact Into.mono (Into.to [0, 1, 2] [(8, dInt (k + 1 : Nat)), (5, .row 0), (6, .ptr 1 0), (7, .ptr 2 0), (0, .dat (.list (cs.map encI))), (1, .dat (.list (ss.map encI)))] [(0, .rows 43 3 (cur.map Sv.enc) true), (1, .vars 58 24 [dInt (t 0 0), dInt (t 0 1), dInt (t 0 2), dInt (t 1 0), dInt (t 1 1), dInt (t 1 2), dInt (t 2 0), dInt (t 2 1), dInt (t 2 2), dInt (t 3 0), dInt (t 3 1), dInt (t 3 2), dInt (t 4 0), dInt (t 4 1), dInt (t 4 2), dInt (t 5 0), dInt (t 5 1), dInt (t 5 2), dInt (t 6 0), dInt (t 6 1), dInt (t 6 2), dInt (t 7 0), dInt (t 7 1), dInt (t 7 2)] true), (2, .vars 58 24 [dInt (f 0 0), dInt (f 0 1), dInt (f 0 2), dInt (f 1 0), dInt (f 1 1), dInt (f 1 2), dInt (f 2 0), dInt (f 2 1), dInt (f 2 2), dInt (f 3 0), dInt (f 3 1), dInt (f 3 2), dInt (f 4 0), dInt (f 4 1), dInt (f 4 2), dInt (f 5 0), dInt (f 5 1), dInt (f 5 2), dInt (f 6 0), dInt (f 6 1), dInt (f 6 2), dInt (f 7 0), dInt (f 7 1), dInt (f 7 2)] true)] (by repeat (first | exact trivial | refine ⟨.same (congrArg dInt (wrap_up (by omega))), ?_⟩ | refine ⟨.same rfl, ?_⟩ | refine ⟨.any _, ?_⟩)) ⟨⟨rfl, rfl, rfl, rfl⟩, ⟨rfl, rfl, rfl, .same rfl, rfl, .same rfl, rfl, .same rfl, rfl, .same rfl, rfl, .same rfl, rfl, .same rfl, rfl, .same rfl, rfl, .same rfl, rfl, .same rfl, rfl, .same rfl, rfl, .same rfl, rfl, .same rfl, rfl, .same rfl, rfl, .same rfl, rfl, .same rfl, rfl, .same rfl, rfl, .same rfl, rfl, .same rfl, rfl, .same rfl, rfl, .same rfl, rfl, .same rfl, rfl, .same rfl, rfl, .same rfl, rfl, .same rfl, rfl, trivial⟩, ⟨rfl, rfl, rfl, .same rfl, rfl, .same rfl, rfl, .same rfl, rfl, .same rfl, rfl, .same rfl, rfl, .same rfl, rfl, .same rfl, rfl, .same rfl, rfl, .same rfl, rfl, .same rfl, rfl, .same rfl, rfl, .same rfl, rfl, .same rfl, rfl, .same rfl, rfl, .same rfl, rfl, .same rfl, rfl, .same rfl, rfl, .same rfl, rfl, .same rfl, rfl, .same rfl, rfl, .same rfl, rfl, .same rfl, rfl, .same rfl, rfl, .same rfl, rfl, trivial⟩, trivial⟩ rfl rfl) fun s' h => ⟨m - 1, by omega, k + 1, cur, t, f, by omega, hI, h⟩
                        · have hmv : mostV (colN cs 1) (t 1) = ((mostV c (t 1)).1, true) := by rw [hcc, ← hmo]
                          obtain ⟨p1, p2, p3⟩ := hI.comm hs (by decide) (by decide) (by decide) hbn ht0 hf0 hmv
                          have hso2 := right_ok (right_of_err p2)
                          generalize (mostV c (t 1)).1 = T at p1 p2 p3 hso2
                          refine BoolCase.yes rfl ?_
                          conv => whnf
                          repeat (first | (refine Conf.mk (by kernel_rfl) ?_; conv => whnf) | (refine SeqOk.go ?_; conv => whnf))
                          refine atS rfl hs ?_
                          conv => whnf
                          repeat (first | (refine Conf.mk (by kernel_rfl) ?_; conv => whnf) | (refine SeqOk.go ?_; conv => whnf))
                          refine elS hs ?_
                          conv => whnf
                          repeat (first | (refine Conf.mk (by kernel_rfl) ?_; conv => whnf) | (refine SeqOk.go ?_; conv => whnf))
                          refine .data _ _ (scomm_ok s (1 : Nat) T hso.1 hso.2) rfl ?_
                          conv => whnf
                          repeat (first | (refine Conf.mk (by kernel_rfl) ?_; conv => whnf) | (refine SeqOk.go ?_; conv => whnf))
                          simp only
                          refine BoolCase.no (by rw [p1]; rfl) ?_
                          conv => whnf
                          repeat (first | (refine Conf.mk (by kernel_rfl) ?_; conv => whnf) | (refine SeqOk.go ?_; conv => whnf))
                          refine .data _ _ (scheck_ok (s.commR ((1 : Nat) : Int) T) hso2.1 hso2.2) rfl ?_
                          conv => whnf
                          repeat (first | (refine Conf.mk (by kernel_rfl) ?_; conv => whnf) | (refine SeqOk.go ?_; conv => whnf))
                          refine BoolCase.no (by rw [p2]; rfl) ?_
                          conv => whnf
                          repeat (first | (refine Conf.mk (by kernel_rfl) ?_; conv => whnf) | (refine SeqOk.go ?_; conv => whnf))
                          simp only
                          refine atS rfl hs ?_
                          conv => whnf
                          repeat (first | (refine Conf.mk (by kernel_rfl) ?_; conv => whnf) | (refine SeqOk.go ?_; conv => whnf))
                          refine elS hs ?_
                          conv => whnf
                          repeat (first | (refine Conf.mk (by kernel_rfl) ?_; conv => whnf) | (refine SeqOk.go ?_; conv => whnf))
                          refine .mk 1 rfl (by decide) ?_
                          conv => whnf
                          repeat (first | (refine Conf.mk (by kernel_rfl) ?_; conv => whnf) | (refine SeqOk.go ?_; conv => whnf))
                          refine .mk 2 rfl (by decide) ?_
                          conv => whnf
                          repeat (first | (refine Conf.mk (by kernel_rfl) ?_; conv => whnf) | (refine SeqOk.go ?_; conv => whnf))
                          simp only
                          generalize s.commR ((1 : Nat) : Int) T = x at p3
                          exact Into.mono (Into.to [0, 1, 2] [(8, dInt (k + 1 : Nat)), (5, .row 0), (6, .ptr 1 0), (7, .ptr 2 0), (0, .dat (.list (cs.map encI))), (1, .dat (.list (ss.map encI)))] [(0, .rows 43 3 ((cur.set 2 x).map Sv.enc) true), (1, .vars 58 24 [dInt (t 0 0), dInt (t 0 1), dInt (t 0 2), dInt (t 1 0), dInt (t 1 1), dInt (t 1 2), dInt (t 2 0), dInt (t 2 1), dInt (t 2 2), dInt (t 3 0), dInt (t 3 1), dInt (t 3 2), dInt (t 4 0), dInt (t 4 1), dInt (t 4 2), dInt (t 5 0), dInt (t 5 1), dInt (t 5 2), dInt (t 6 0), dInt (t 6 1), dInt (t 6 2), dInt (t 7 0), dInt (t 7 1), dInt (t 7 2)] true), (2, .vars 58 24 [dInt (upd f 1 2 T 0 0), dInt (upd f 1 2 T 0 1), dInt (upd f 1 2 T 0 2), dInt (upd f 1 2 T 1 0), dInt (upd f 1 2 T 1 1), dInt (upd f 1 2 T 1 2), dInt (upd f 1 2 T 2 0), dInt (upd f 1 2 T 2 1), dInt (upd f 1 2 T 2 2), dInt (upd f 1 2 T 3 0), dInt (upd f 1 2 T 3 1), dInt (upd f 1 2 T 3 2), dInt (upd f 1 2 T 4 0), dInt (upd f 1 2 T 4 1), dInt (upd f 1 2 T 4 2), dInt (upd f 1 2 T 5 0), dInt (upd f 1 2 T 5 1), dInt (upd f 1 2 T 5 2), dInt (upd f 1 2 T 6 0), dInt (upd f 1 2 T 6 1), dInt (upd f 1 2 T 6 2), dInt (upd f 1 2 T 7 0), dInt (upd f 1 2 T 7 1), dInt (upd f 1 2 T 7 2)] true)] (by repeat (first | exact trivial | refine ⟨.same (congrArg dInt (wrap_up (by omega))), ?_⟩ | refine ⟨.same rfl, ?_⟩ | refine ⟨.any _, ?_⟩)) ⟨⟨rfl, rfl, rfl, setS⟩, ⟨rfl, rfl, rfl, .same rfl, rfl, .same rfl, rfl, .same rfl, rfl, .same rfl, rfl, .same rfl, rfl, .same rfl, rfl, .same rfl, rfl, .same rfl, rfl, .same rfl, rfl, .same rfl, rfl, .same rfl, rfl, .same rfl, rfl, .same rfl, rfl, .same rfl, rfl, .same rfl, rfl, .same rfl, rfl, .same rfl, rfl, .same rfl, rfl, .same rfl, rfl, .same rfl, rfl, .same rfl, rfl, .same rfl, rfl, .same rfl, rfl, .same rfl, rfl, trivial⟩, ⟨rfl, rfl, rfl, .same rfl, rfl, .same rfl, rfl, .same rfl, rfl, .same rfl, rfl, .same rfl, rfl, .same rfl, rfl, .same rfl, rfl, .same rfl, rfl, .same rfl, rfl, .same rfl, rfl, .same rfl, rfl, .same rfl, rfl, .same rfl, rfl, .same rfl, rfl, .same rfl, rfl, .same rfl, rfl, .same rfl, rfl, .same rfl, rfl, .same rfl, rfl, .same rfl, rfl, .same rfl, rfl, .same rfl, rfl, .same rfl, rfl, .same rfl, rfl, trivial⟩, trivial⟩ rfl rfl) fun s' h => ⟨m - 1, by omega, k + 1, _, t, _, by omega, p3, h⟩
                  · refine .mk 2 rfl (by decide) ?_
                    conv => whnf
                    repeat (first | (refine Conf.mk (by kernel_rfl) ?_; conv => whnf) | (refine SeqOk.go ?_; conv => whnf))
                    refine .mk 0 rfl (by decide) ?_
                    conv => whnf
                    repeat (first | (refine Conf.mk (by kernel_rfl) ?_; conv => whnf) | (refine SeqOk.go ?_; conv => whnf))
                    obtain ⟨s, hs⟩ := hget 0 (by decide)
                    have hbn : bitOf (colN cs 2) 0 = true := by rw [hcc]; exact hb
                    have hsr := hI.right 0 s hs
                    have hso := right_ok hsr
                    by_cases hf0 : 0 < f 2 0
                    · refine BoolCase.yes (by simpa using hf0) ?_
                      conv => whnf
                      repeat (first | (refine Conf.mk (by kernel_rfl) ?_; conv => whnf) | (refine SeqOk.go ?_; conv => whnf))
                      exact Into.mono (Into.to [0, 1, 2] [(8, dInt (k + 1 : Nat)), (5, .row 0), (6, .ptr 1 0), (7, .ptr 2 0), (0, .dat (.list (cs.map encI))), (1, .dat (.list (ss.map encI)))] [(0, .rows 43 3 (cur.map Sv.enc) true), (1, .vars 58 24 [dInt (t 0 0), dInt (t 0 1), dInt (t 0 2), dInt (t 1 0), dInt (t 1 1), dInt (t 1 2), dInt (t 2 0), dInt (t 2 1), dInt (t 2 2), dInt (t 3 0), dInt (t 3 1), dInt (t 3 2), dInt (t 4 0), dInt (t 4 1), dInt (t 4 2), dInt (t 5 0), dInt (t 5 1), dInt (t 5 2), dInt (t 6 0), dInt (t 6 1), dInt (t 6 2), dInt (t 7 0), dInt (t 7 1), dInt (t 7 2)] true), (2, .vars 58 24 [dInt (f 0 0), dInt (f 0 1), dInt (f 0 2), dInt (f 1 0), dInt (f 1 1), dInt (f 1 2), dInt (f 2 0), dInt (f 2 1), dInt (f 2 2), dInt (f 3 0), dInt (f 3 1), dInt (f 3 2), dInt (f 4 0), dInt (f 4 1), dInt (f 4 2), dInt (f 5 0), dInt (f 5 1), dInt (f 5 2), dInt (f 6 0), dInt (f 6 1), dInt (f 6 2), dInt (f 7 0), dInt (f 7 1), dInt (f 7 2)] true)] (by repeat (first | exact trivial | refine ⟨.same (congrArg dInt (wrap_up (by omega))), ?_⟩ | refine ⟨.same rfl, ?_⟩ | refine ⟨.any _, ?_⟩)) ⟨⟨rfl, rfl, rfl, rfl⟩, ⟨rfl, rfl, rfl, .same rfl, rfl, .same rfl, rfl, .same rfl, rfl, .same rfl, rfl, .same rfl, rfl, .same rfl, rfl, .same rfl, rfl, .same rfl, rfl, .same rfl, rfl, .same rfl, rfl, .same rfl, rfl, .same rfl, rfl, .same rfl, rfl, .same rfl, rfl, .same rfl, rfl, .same rfl, rfl, .same rfl, rfl, .same rfl, rfl, .same rfl, rfl, .same rfl, rfl, .same rfl, rfl, .same rfl, rfl, .same rfl, rfl, .same rfl, rfl, trivial⟩, ⟨rfl, rfl, rfl, .same rfl, rfl, .same rfl, rfl, .same rfl, rfl, .same rfl, rfl, .same rfl, rfl, .same rfl, rfl, .same rfl, rfl, .same rfl, rfl, .same rfl, rfl, .same rfl, rfl, .same rfl, rfl, .same rfl, rfl, .same rfl, rfl, .same rfl, rfl, .same rfl, rfl, .same rfl, rfl, .same rfl, rfl, .same rfl, rfl, .same rfl, rfl, .same rfl, rfl, .same rfl, rfl, .same rfl, rfl, .same rfl, rfl, .same rfl, rfl, trivial⟩, trivial⟩ rfl rfl) fun s' h => ⟨m - 1, by omega, k + 1, cur, t, f, by omega, hI, h⟩
                    · refine BoolCase.no (by simpa using hf0) ?_
                      conv => whnf
                      repeat (first | (refine Conf.mk (by kernel_rfl) ?_; conv => whnf) | (refine SeqOk.go ?_; conv => whnf))
                      simp only
                      refine .mk 2 rfl (by decide) ?_
                      conv => whnf
                      repeat (first | (refine Conf.mk (by kernel_rfl) ?_; conv => whnf) | (refine SeqOk.go ?_; conv => whnf))
                      refine .mk 0 rfl (by decide) ?_
                      conv => whnf
                      repeat (first | (refine Conf.mk (by kernel_rfl) ?_; conv => whnf) | (refine SeqOk.go ?_; conv => whnf))
                      by_cases ht0 : t 2 0 = 0
                      · obtain ⟨p1, p2, p3⟩ := hI.prop hs (by decide) (by decide) (by decide) hbn ht0
                        refine BoolCase.yes (by simpa using ht0) ?_
                        conv => whnf
                        repeat (first | (refine Conf.mk (by kernel_rfl) ?_; conv => whnf) | (refine SeqOk.go ?_; conv => whnf))
                        refine atS rfl hs ?_
                        conv => whnf
                        repeat (first | (refine Conf.mk (by kernel_rfl) ?_; conv => whnf) | (refine SeqOk.go ?_; conv => whnf))
                        refine elS hs ?_
                        conv => whnf
                        repeat (first | (refine Conf.mk (by kernel_rfl) ?_; conv => whnf) | (refine SeqOk.go ?_; conv => whnf))
                        refine .data _ _ (sprop_ok s (2 : Nat) hso.1 hso.2) rfl ?_
                        conv => whnf
                        repeat (first | (refine Conf.mk (by kernel_rfl) ?_; conv => whnf) | (refine SeqOk.go ?_; conv => whnf))
                        simp only
                        refine BoolCase.no (by rw [p1]; rfl) ?_
                        conv => whnf
                        repeat (first | (refine Conf.mk (by kernel_rfl) ?_; conv => whnf) | (refine SeqOk.go ?_; conv => whnf))
                        refine BoolCase.no (by simp; omega) ?_
                        conv => whnf
                        repeat (first | (refine Conf.mk (by kernel_rfl) ?_; conv => whnf) | (refine SeqOk.go ?_; conv => whnf))
                        simp only
                        refine atS rfl hs ?_
                        conv => whnf
                        repeat (first | (refine Conf.mk (by kernel_rfl) ?_; conv => whnf) | (refine SeqOk.go ?_; conv => whnf))
                        refine elS hs ?_
                        conv => whnf
                        repeat (first | (refine Conf.mk (by kernel_rfl) ?_; conv => whnf) | (refine SeqOk.go ?_; conv => whnf))
                        refine .mk 2 rfl (by decide) ?_
                        conv => whnf
                        repeat (first | (refine Conf.mk (by kernel_rfl) ?_; conv => whnf) | (refine SeqOk.go ?_; conv => whnf))
                        refine .mk 0 rfl (by decide) ?_
                        conv => whnf
                        repeat (first | (refine Conf.mk (by kernel_rfl) ?_; conv => whnf) | (refine SeqOk.go ?_; conv => whnf))
                        simp only
                        generalize s.propR ((2 : Nat) : Int) = x at p2 p3
                        exact Into.mono (Into.to [0, 1, 2] [(8, dInt (k + 1 : Nat)), (5, .row 0), (6, .ptr 1 0), (7, .ptr 2 0), (0, .dat (.list (cs.map encI))), (1, .dat (.list (ss.map encI)))] [(0, .rows 43 3 ((cur.set 0 x).map Sv.enc) true), (1, .vars 58 24 [dInt (upd t 2 0 x.clock 0 0), dInt (upd t 2 0 x.clock 0 1), dInt (upd t 2 0 x.clock 0 2), dInt (upd t 2 0 x.clock 1 0), dInt (upd t 2 0 x.clock 1 1), dInt (upd t 2 0 x.clock 1 2), dInt (upd t 2 0 x.clock 2 0), dInt (upd t 2 0 x.clock 2 1), dInt (upd t 2 0 x.clock 2 2), dInt (upd t 2 0 x.clock 3 0), dInt (upd t 2 0 x.clock 3 1), dInt (upd t 2 0 x.clock 3 2), dInt (upd t 2 0 x.clock 4 0), dInt (upd t 2 0 x.clock 4 1), dInt (upd t 2 0 x.clock 4 2), dInt (upd t 2 0 x.clock 5 0), dInt (upd t 2 0 x.clock 5 1), dInt (upd t 2 0 x.clock 5 2), dInt (upd t 2 0 x.clock 6 0), dInt (upd t 2 0 x.clock 6 1), dInt (upd t 2 0 x.clock 6 2), dInt (upd t 2 0 x.clock 7 0), dInt (upd t 2 0 x.clock 7 1), dInt (upd t 2 0 x.clock 7 2)] true), (2, .vars 58 24 [dInt (f 0 0), dInt (f 0 1), dInt (f 0 2), dInt (f 1 0), dInt (f 1 1), dInt (f 1 2), dInt (f 2 0), dInt (f 2 1), dInt (f 2 2), dInt (f 3 0), dInt (f 3 1), dInt (f 3 2), dInt (f 4 0), dInt (f 4 1), dInt (f 4 2), dInt (f 5 0), dInt (f 5 1), dInt (f 5 2), dInt (f 6 0), dInt (f 6 1), dInt (f 6 2), dInt (f 7 0), dInt (f 7 1), dInt (f 7 2)] true)] (by repeat (first | exact trivial | refine ⟨.same (congrArg dInt (wrap_up (by omega))), ?_⟩ | refine ⟨.same rfl, ?_⟩ | refine ⟨.any _, ?_⟩)) ⟨⟨rfl, rfl, rfl, setS⟩, ⟨rfl, rfl, rfl, .same rfl, rfl, .same rfl, rfl, .same rfl, rfl, .same rfl, rfl, .same rfl, rfl, .same rfl, rfl, .same rfl, rfl, .same rfl, rfl, .same rfl, rfl, .same rfl, rfl, .same rfl, rfl, .same rfl, rfl, .same rfl, rfl, .same rfl, rfl, .same rfl, rfl, .same rfl, rfl, .same rfl, rfl, .same rfl, rfl, .same rfl, rfl, .same rfl, rfl, .same rfl, rfl, .same rfl, rfl, .same rfl, rfl, .same rfl, rfl, trivial⟩, ⟨rfl, rfl, rfl, .same rfl, rfl, .same rfl, rfl, .same rfl, rfl, .same rfl, rfl, .same rfl, rfl, .same rfl, rfl, .same rfl, rfl, .same rfl, rfl, .same rfl, rfl, .same rfl, rfl, .same rfl, rfl, .same rfl, rfl, .same rfl, rfl, .same rfl, rfl, .same rfl, rfl, .same rfl, rfl, .same rfl, rfl, .same rfl, rfl, .same rfl, rfl, .same rfl, rfl, .same rfl, rfl, .same rfl, rfl, .same rfl, rfl, .same rfl, rfl, trivial⟩, trivial⟩ rfl rfl) fun s' h => ⟨m - 1, by omega, k + 1, _, _, f, by omega, p3, h⟩
                      · refine BoolCase.no (by simpa using ht0) ?_
                        conv => whnf
                        repeat (first | (refine Conf.mk (by kernel_rfl) ?_; conv => whnf) | (refine SeqOk.go ?_; conv => whnf))
                        refine .look _ _ (most_ok t 2 c (by decide) (by decide) (by omega)) rfl rfl ?_
                        conv => whnf
                        repeat (first | (refine Conf.mk (by kernel_rfl) ?_; conv => whnf) | (refine SeqOk.go ?_; conv => whnf))
                        simp only
                        cases hmo : (mostV c (t 2)).2
                        · refine BoolCase.no rfl ?_
                          conv => whnf
                          repeat (first | (refine Conf.mk (by kernel_rfl) ?_; conv => whnf) | (refine SeqOk.go ?_; conv => whnf))
                          exact Into.mono (Into.to [0, 1, 2] [(8, dInt (k + 1 : Nat)), (5, .row 0), (6, .ptr 1 0), (7, .ptr 2 0), (0, .dat (.list (cs.map encI))), (1, .dat (.list (ss.map encI)))] [(0, .rows 43 3 (cur.map Sv.enc) true), (1, .vars 58 24 [dInt (t 0 0), dInt (t 0 1), dInt (t 0 2), dInt (t 1 0), dInt (t 1 1), dInt (t 1 2), dInt (t 2 0), dInt (t 2 1), dInt (t 2 2), dInt (t 3 0), dInt (t 3 1), dInt (t 3 2), dInt (t 4 0), dInt (t 4 1), dInt (t 4 2), dInt (t 5 0), dInt (t 5 1), dInt (t 5 2), dInt (t 6 0), dInt (t 6 1), dInt (t 6 2), dInt (t 7 0), dInt (t 7 1), dInt (t 7 2)] true), (2, .vars 58 24 [dInt (f 0 0), dInt (f 0 1), dInt (f 0 2), dInt (f 1 0), dInt (f 1 1), dInt (f 1 2), dInt (f 2 0), dInt (f 2 1), dInt (f 2 2), dInt (f 3 0), dInt (f 3 1), dInt (f 3 2), dInt (f 4 0), dInt (f 4 1), dInt (f 4 2), dInt (f 5 0), dInt (f 5 1), dInt (f 5 2), dInt (f 6 0), dInt (f 6 1), dInt (f 6 2), dInt (f 7 0), dInt (f 7 1), dInt (f 7 2)] true)] (by repeat (first | exact trivial | refine ⟨.same (congrArg dInt (wrap_up (by omega))), ?_⟩ | refine ⟨.same rfl, ?_⟩ | refine ⟨.any _, ?_⟩)) ⟨⟨rfl, rfl, rfl, rfl⟩, ⟨rfl, rfl, rfl, .same rfl, rfl, .same rfl, rfl, .same rfl, rfl, .same rfl, rfl, .same rfl, rfl, .same rfl, rfl, .same rfl, rfl, .same rfl, rfl, .same rfl, rfl, .same rfl, rfl, .same rfl, rfl, .same rfl, rfl, .same rfl, rfl, .same rfl, rfl, .same rfl, rfl, .same rfl, rfl, .same rfl, rfl, .same rfl, rfl, .same rfl, rfl, .same rfl, rfl, .same rfl, rfl, .same rfl, rfl, .same rfl, rfl, .same rfl, rfl, trivial⟩, ⟨rfl, rfl, rfl, .same rfl, rfl, .same rfl, rfl, .same rfl, rfl, .same rfl, rfl, .same rfl, rfl, .same rfl, rfl, .same rfl, rfl, .same rfl, rfl, .same rfl, rfl, .same rfl, rfl, .same rfl, rfl, .same rfl, rfl, .same rfl, rfl, .same rfl, rfl, .same rfl, rfl, .same rfl, rfl, .same rfl, rfl, .same rfl, rfl, .same rfl, rfl, .same rfl, rfl, .same rfl, rfl, .same rfl, rfl, .same rfl, rfl, .same rfl, rfl, trivial⟩, trivial⟩ rfl rfl) fun s' h => ⟨m - 1, by omega, k + 1, cur, t, f, by omega, hI, h⟩
                        · have hmv : mostV (colN cs 2) (t 2) = ((mostV c (t 2)).1, true) := by rw [hcc, ← hmo]
                          obtain ⟨p1, p2, p3⟩ := hI.comm hs (by decide) (by decide) (by decide) hbn ht0 hf0 hmv
                          have hso2 := right_ok (right_of_err p2)
                          generalize (mostV c (t 2)).1 = T at p1 p2 p3 hso2
                          refine BoolCase.yes rfl ?_
                          conv => whnf
                          repeat (first | (refine Conf.mk (by kernel_rfl) ?_; conv => whnf) | (refine SeqOk.go ?_; conv => whnf))
                          refine atS rfl hs ?_
                          conv => whnf
                          repeat (first | (refine Conf.mk (by kernel_rfl) ?_; conv => whnf) | (refine SeqOk.go ?_; conv => whnf))
                          refine elS hs ?_
                          conv => whnf
                          repeat (first | (refine Conf.mk (by kernel_rfl) ?_; conv => whnf) | (refine SeqOk.go ?_; conv => whnf))
                          refine .data _ _ (scomm_ok s (2 : Nat) T hso.1 hso.2) rfl ?_
                          conv => whnf
                          repeat (first | (refine Conf.mk (by kernel_rfl) ?_; conv => whnf) | (refine SeqOk.go ?_; conv => whnf))
                          simp only
                          refine BoolCase.no (by rw [p1]; rfl) ?_
                          conv => whnf
                          repeat (first | (refine Conf.mk (by kernel_rfl) ?_; conv => whnf) | (refine SeqOk.go ?_; conv => whnf))
                          refine .data _ _ (scheck_ok (s.commR ((2 : Nat) : Int) T) hso2.1 hso2.2) rfl ?_
                          conv => whnf
                          repeat (first | (refine Conf.mk (by kernel_rfl) ?_; conv => whnf) | (refine SeqOk.go ?_; conv => whnf))
                          refine BoolCase.no (by rw [p2]; rfl) ?_
                          conv => whnf
                          repeat (first | (refine Conf.mk (by kernel_rfl) ?_; conv => whnf) | (refine SeqOk.go ?_; conv => whnf))
                          simp only
                          refine atS rfl hs ?_
                          conv => whnf
                          repeat (first | (refine Conf.mk (by kernel_rfl) ?_; conv => whnf) | (refine SeqOk.go ?_; conv => whnf))
                          refine elS hs ?_
                          conv => whnf
                          repeat (first | (refine Conf.mk (by kernel_rfl) ?_; conv => whnf) | (refine SeqOk.go ?_; conv => whnf))
                          refine .mk 2 rfl (by decide) ?_
                          conv => whnf
                          repeat (first | (refine Conf.mk (by kernel_rfl) ?_; conv => whnf) | (refine SeqOk.go ?_; conv => whnf))
                          refine .mk 0 rfl (by decide) ?_
                          conv => whnf
                          repeat (first | (refine Conf.mk (by kernel_rfl) ?_; conv => whnf) | (refine SeqOk.go ?_; conv => whnf))
                          simp only
                          generalize s.commR ((2 : Nat) : Int) T = x at p3
                          exact Into.mono (Into.to [0, 1, 2] [(8, dInt (k + 1 : Nat)), (5, .row 0), (6, .ptr 1 0), (7, .ptr 2 0), (0, .dat (.list (cs.map encI))), (1, .dat (.list (ss.map encI)))] [(0, .rows 43 3 ((cur.set 0 x).map Sv.enc) true), (1, .vars 58 24 [dInt (t 0 0), dInt (t 0 1), dInt (t 0 2), dInt (t 1 0), dInt (t 1 1), dInt (t 1 2), dInt (t 2 0), dInt (t 2 1), dInt (t 2 2), dInt (t 3 0), dInt (t 3 1), dInt (t 3 2), dInt (t 4 0), dInt (t 4 1), dInt (t 4 2), dInt (t 5 0), dInt (t 5 1), dInt (t 5 2), dInt (t 6 0), dInt (t 6 1), dInt (t 6 2), dInt (t 7 0), dInt (t 7 1), dInt (t 7 2)] true), (2, .vars 58 24 [dInt (upd f 2 0 T 0 0), dInt (upd f 2 0 T 0 1), dInt (upd f 2 0 T 0 2), dInt (upd f 2 0 T 1 0), dInt (upd f 2 0 T 1 1), dInt (upd f 2 0 T 1 2), dInt (upd f 2 0 T 2 0), dInt (upd f 2 0 T 2 1), dInt (upd f 2 0 T 2 2), dInt (upd f 2 0 T 3 0), dInt (upd f 2 0 T 3 1), dInt (upd f 2 0 T 3 2), dInt (upd f 2 0 T 4 0), dInt (upd f 2 0 T 4 1), dInt (upd f 2 0 T 4 2), dInt (upd f 2 0 T 5 0), dInt (upd f 2 0 T 5 1), dInt (upd f 2 0 T 5 2), dInt (upd f 2 0 T 6 0), dInt (upd f 2 0 T 6 1), dInt (upd f 2 0 T 6 2), dInt (upd f 2 0 T 7 0), dInt (upd f 2 0 T 7 1), dInt (upd f 2 0 T 7 2)] true)] (by repeat (first | exact trivial | refine ⟨.same (congrArg dInt (wrap_up (by omega))), ?_⟩ | refine ⟨.same rfl, ?_⟩ | refine ⟨.any _, ?_⟩)) ⟨⟨rfl, rfl, rfl, setS⟩, ⟨rfl, rfl, rfl, .same rfl, rfl, .same rfl, rfl, .same rfl, rfl, .same rfl, rfl, .same rfl, rfl, .same rfl, rfl, .same rfl, rfl, .same rfl, rfl, .same rfl, rfl, .same rfl, rfl, .same rfl, rfl, .same rfl, rfl, .same rfl, rfl, .same rfl, rfl, .same rfl, rfl, .same rfl, rfl, .same rfl, rfl, .same rfl, rfl, .same rfl, rfl, .same rfl, rfl, .same rfl, rfl, .same rfl, rfl, .same rfl, rfl, .same rfl, rfl, trivial⟩, ⟨rfl, rfl, rfl, .same rfl, rfl, .same rfl, rfl, .same rfl, rfl, .same rfl, rfl, .same rfl, rfl, .same rfl, rfl, .same rfl, rfl, .same rfl, rfl, .same rfl, rfl, .same rfl, rfl, .same rfl, rfl, .same rfl, rfl, .same rfl, rfl, .same rfl, rfl, .same rfl, rfl, .same rfl, rfl, .same rfl, rfl, .same rfl, rfl, .same rfl, rfl, .same rfl, rfl, .same rfl, rfl, .same rfl, rfl, .same rfl, rfl, .same rfl, rfl, trivial⟩, trivial⟩ rfl rfl) fun s' h => ⟨m - 1, by omega, k + 1, _, t, _, by omega, p3, h⟩
                  · refine .mk 2 rfl (by decide) ?_
                    conv => whnf
                    repeat (first | (refine Conf.mk (by kernel_rfl) ?_; conv => whnf) | (refine SeqOk.go ?_; conv => whnf))
                    refine .mk 1 rfl (by decide) ?_
                    conv => whnf
                    repeat (first | (refine Conf.mk (by kernel_rfl) ?_; conv => whnf) | (refine SeqOk.go ?_; conv => whnf))
                    obtain ⟨s, hs⟩ := hget 1 (by decide)
                    have hbn : bitOf (colN cs 2) 1 = true := by rw [hcc]; exact hb
                    have hsr := hI.right 1 s hs
                    have hso := right_ok hsr
                    by_cases hf0 : 0 < f 2 1
                    · refine BoolCase.yes (by simpa using hf0) ?_
                      conv => whnf
                      repeat (first | (refine Conf.mk (by kernel_rfl) ?_; conv => whnf) | (refine SeqOk.go ?_; conv => whnf))
                      exact Into.mono (Into.to [0, 1, 2] [(8, dInt (k + 1 : Nat)), (5, .row 0), (6, .ptr 1 0), (7, .ptr 2 0), (0, .dat (.list (cs.map encI))), (1, .dat (.list (ss.map encI)))] [(0, .rows 43 3 (cur.map Sv.enc) true), (1, .vars 58 24 [dInt (t 0 0), dInt (t 0 1), dInt (t 0 2), dInt (t 1 0), dInt (t 1 1), dInt (t 1 2), dInt (t 2 0), dInt (t 2 1), dInt (t 2 2), dInt (t 3 0), dInt (t 3 1), dInt (t 3 2), dInt (t 4 0), dInt (t 4 1), dInt (t 4 2), dInt (t 5 0), dInt (t 5 1), dInt (t 5 2), dInt (t 6 0), dInt (t 6 1), dInt (t 6 2), dInt (t 7 0), dInt (t 7 1), dInt (t 7 2)] true), (2, .vars 58 24 [dInt (f 0 0), dInt (f 0 1), dInt (f 0 2), dInt (f 1 0), dInt (f 1 1), dInt (f 1 2), dInt (f 2 0), dInt (f 2 1), dInt (f 2 2), dInt (f 3 0), dInt (f 3 1), dInt (f 3 2), dInt (f 4 0), dInt (f 4 1), dInt (f 4 2), dInt (f 5 0), dInt (f 5 1), dInt (f 5 2), dInt (f 6 0), dInt (f 6 1), dInt (f 6 2), dInt (f 7 0), dInt (f 7 1), dInt (f 7 2)] true)] (by repeat (first | exact trivial | refine ⟨.same (congrArg dInt (wrap_up (by omega))), ?_⟩ | refine ⟨.same rfl, ?_⟩ | refine ⟨.any _, ?_⟩)) ⟨⟨rfl, rfl, rfl, rfl⟩, ⟨rfl, rfl, rfl, .same rfl, rfl, .same rfl, rfl, .same rfl, rfl, .same rfl, rfl, .same rfl, rfl, .same rfl, rfl, .same rfl, rfl, .same rfl, rfl, .same rfl, rfl, .same rfl, rfl, .same rfl, rfl, .same rfl, rfl, .same rfl, rfl, .same rfl, rfl, .same rfl, rfl, .same rfl, rfl, .same rfl, rfl, .same rfl, rfl, .same rfl, rfl, .same rfl, rfl, .same rfl, rfl, .same rfl, rfl, .same rfl, rfl, .same rfl, rfl, trivial⟩, ⟨rfl, rfl, rfl, .same rfl, rfl, .same rfl, rfl, .same rfl, rfl, .same rfl, rfl, .same rfl, rfl, .same rfl, rfl, .same rfl, rfl, .same rfl, rfl, .same rfl, rfl, .same rfl, rfl, .same rfl, rfl, .same rfl, rfl, .same rfl, rfl, .same rfl, rfl, .same rfl, rfl, .same rfl, rfl, .same rfl, rfl, .same rfl, rfl, .same rfl, rfl, .same rfl, rfl, .same rfl, rfl, .same rfl, rfl, .same rfl, rfl, .same rfl, rfl, trivial⟩, trivial⟩ rfl rfl) fun s' h => ⟨m - 1, by omega, k + 1, cur, t, f, by omega, hI, h⟩
                    · refine BoolCase.no (by simpa using hf0) ?_
                      conv => whnf
                      repeat (first | (refine Conf.mk (by kernel_rfl) ?_; conv => whnf) | (refine SeqOk.go ?_; conv => whnf))
                      simp only
                      refine .mk 2 rfl (by decide) ?_
                      conv => whnf
                      repeat (first | (refine Conf.mk (by kernel_rfl) ?_; conv => whnf) | (refine SeqOk.go ?_; conv => whnf))
                      refine .mk 1 rfl (by decide) ?_
                      conv => whnf
                      repeat (first | (refine Conf.mk (by kernel_rfl) ?_; conv => whnf) | (refine SeqOk.go ?_; conv => whnf))
                      by_cases ht0 : t 2 1 = 0
                      · obtain ⟨p1, p2, p3⟩ := hI.prop hs (by decide) (by decide) (by decide) hbn ht0
                        refine BoolCase.yes (by simpa using ht0) ?_
                        conv => whnf
                        repeat (first | (refine Conf.mk (by kernel_rfl) ?_; conv => whnf) | (refine SeqOk.go ?_; conv => whnf))
                        refine atS rfl hs ?_
                        conv => whnf
                        repeat (first | (refine Conf.mk (by kernel_rfl) ?_; conv => whnf) | (refine SeqOk.go ?_; conv => whnf))
                        refine elS hs ?_
                        conv => whnf
                        repeat (first | (refine Conf.mk (by kernel_rfl) ?_; conv => whnf) | (refine SeqOk.go ?_; conv => whnf))
                        refine .data _ _ (sprop_ok s (2 : Nat) hso.1 hso.2) rfl ?_
                        conv => whnf
                        repeat (first | (refine Conf.mk (by kernel_rfl) ?_; conv => whnf) | (refine SeqOk.go ?_; conv => whnf))
                        simp only
                        refine BoolCase.no (by rw [p1]; rfl) ?_
                        conv => whnf
                        repeat (first | (refine Conf.mk (by kernel_rfl) ?_; conv => whnf) | (refine SeqOk.go ?_; conv => whnf))
                        refine BoolCase.no (by simp; omega) ?_
                        conv => whnf
                        repeat (first | (refine Conf.mk (by kernel_rfl) ?_; conv => whnf) | (refine SeqOk.go ?_; conv => whnf))
                        simp only
                        refine atS rfl hs ?_
                        conv => whnf
                        repeat (first | (refine Conf.mk (by kernel_rfl) ?_; conv => whnf) | (refine SeqOk.go ?_; conv => whnf))
                        refine elS hs ?_
                        conv => whnf
                        repeat (first | (refine Conf.mk (by kernel_rfl) ?_; conv => whnf) | (refine SeqOk.go ?_; conv => whnf))
                        refine .mk 2 rfl (by decide) ?_
                        conv => whnf
                        repeat (first | (refine Conf.mk (by kernel_rfl) ?_; conv => whnf) | (refine SeqOk.go ?_; conv => whnf))
                        refine .mk 1 rfl (by decide) ?_
                        conv => whnf
                        repeat (first | (refine Conf.mk (by kernel_rfl) ?_; conv => whnf) | (refine SeqOk.go ?_; conv => whnf))
                        simp only
                        generalize s.propR ((2 : Nat) : Int) = x at p2 p3
                        exact Into.mono (Into.to [0, 1, 2] [(8, dInt (k + 1 : Nat)), (5, .row 0), (6, .ptr 1 0), (7, .ptr 2 0), (0, .dat (.list (cs.map encI))), (1, .dat (.list (ss.map encI)))] [(0, .rows 43 3 ((cur.set 1 x).map Sv.enc) true), (1, .vars 58 24 [dInt (upd t 2 1 x.clock 0 0), dInt (upd t 2 1 x.clock 0 1), dInt (upd t 2 1 x.clock 0 2), dInt (upd t 2 1 x.clock 1 0), dInt (upd t 2 1 x.clock 1 1), dInt (upd t 2 1 x.clock 1 2), dInt (upd t 2 1 x.clock 2 0), dInt (upd t 2 1 x.clock 2 1), dInt (upd t 2 1 x.clock 2 2), dInt (upd t 2 1 x.clock 3 0), dInt (upd t 2 1 x.clock 3 1), dInt (upd t 2 1 x.clock 3 2), dInt (upd t 2 1 x.clock 4 0), dInt (upd t 2 1 x.clock 4 1), dInt (upd t 2 1 x.clock 4 2), dInt (upd t 2 1 x.clock 5 0), dInt (upd t 2 1 x.clock 5 1), dInt (upd t 2 1 x.clock 5 2), dInt (upd t 2 1 x.clock 6 0), dInt (upd t 2 1 x.clock 6 1), dInt (upd t 2 1 x.clock 6 2), dInt (upd t 2 1 x.clock 7 0), dInt (upd t 2 1 x.clock 7 1), dInt (upd t 2 1 x.clock 7 2)] true), (2, .vars 58 24 [dInt (f 0 0), dInt (f 0 1), dInt (f 0 2), dInt (f 1 0), dInt (f 1 1), dInt (f 1 2), dInt (f 2 0), dInt (f 2 1), dInt (f 2 2), dInt (f 3 0), dInt (f 3 1), dInt (f 3 2), dInt (f 4 0), dInt (f 4 1), dInt (f 4 2), dInt (f 5 0), dInt (f 5 1), dInt (f 5 2), dInt (f 6 0), dInt (f 6 1), dInt (f 6 2), dInt (f 7 0), dInt (f 7 1), dInt (f 7 2)] true)] (by repeat (first | exact trivial | refine ⟨.same (congrArg dInt (wrap_up (by omega))), ?_⟩ | refine ⟨.same rfl, ?_⟩ | refine ⟨.any _, ?_⟩)) ⟨⟨rfl, rfl, rfl, setS⟩, ⟨rfl, rfl, rfl, .same rfl, rfl, .same rfl, rfl, .same rfl, rfl, .same rfl, rfl, .same rfl, rfl, .same rfl, rfl, .same rfl, rfl, .same rfl, rfl, .same rfl, rfl, .same rfl, rfl, .same rfl, rfl, .same rfl, rfl, .same rfl, rfl, .same rfl, rfl, .same rfl, rfl, .same rfl, rfl, .same rfl, rfl, .same rfl, rfl, .same rfl, rfl, .same rfl, rfl, .same rfl, rfl, .same rfl, rfl, .same rfl, rfl, .same rfl, rfl, trivial⟩, ⟨rfl, rfl, rfl, .same rfl, rfl, .same rfl, rfl, .same rfl, rfl, .same rfl, rfl, .same rfl, rfl, .same rfl, rfl, .same rfl, rfl, .same rfl, rfl, .same rfl, rfl, .same rfl, rfl, .same rfl, rfl, .same rfl, rfl, .same rfl, rfl, .same rfl, rfl, .same rfl, rfl, .same rfl, rfl, .same rfl, rfl, .same rfl, rfl, .same rfl, rfl, .same rfl, rfl, .same rfl, rfl, .same rfl, rfl, .same rfl, rfl, .same rfl, rfl, trivial⟩, trivial⟩ rfl rfl) fun s' h => ⟨m - 1, by omega, k + 1, _, _, f, by omega, p3, h⟩
                      · refine BoolCase.no (by simpa using ht0) ?_
                        conv => whnf
                        repeat (first | (refine Conf.mk (by kernel_rfl) ?_; conv => whnf) | (refine SeqOk.go ?_; conv => whnf))
                        refine .look _ _ (most_ok t 2 c (by decide) (by decide) (by omega)) rfl rfl ?_
                        conv => whnf
                        repeat (first | (refine Conf.mk (by kernel_rfl) ?_; conv => whnf) | (refine SeqOk.go ?_; conv => whnf))
                        simp only
                        cases hmo : (mostV c (t 2)).2
                        · refine BoolCase.no rfl ?_
                          conv => whnf
                          repeat (first | (refine Conf.mk (by kernel_rfl) ?_; conv => whnf) | (refine SeqOk.go ?_; conv => whnf))
                          exact Into.mono (Into.to [0, 1, 2] [(8, dInt (k + 1 : Nat)), (5, .row 0), (6, .ptr 1 0), (7, .ptr 2 0), (0, .dat (.list (cs.map encI))), (1, .dat (.list (ss.map encI)))] [(0, .rows 43 3 (cur.map Sv.enc) true), (1, .vars 58 24 [dInt (t 0 0), dInt (t 0 1), dInt (t 0 2), dInt (t 1 0), dInt (t 1 1), dInt (t 1 2), dInt (t 2 0), dInt (t 2 1), dInt (t 2 2), dInt (t 3 0), dInt (t 3 1), dInt (t 3 2), dInt (t 4 0), dInt (t 4 1), dInt (t 4 2), dInt (t 5 0), dInt (t 5 1), dInt (t 5 2), dInt (t 6 0), dInt (t 6 1), dInt (t 6 2), dInt (t 7 0), dInt (t 7 1), dInt (t 7 2)] true), (2, .vars 58 24 [dInt (f 0 0), dInt (f 0 1), dInt (f 0 2), dInt (f 1 0), dInt (f 1 1), dInt (f 1 2), dInt (f 2 0), dInt (f 2 1), dInt (f 2 2), dInt (f 3 0), dInt (f 3 1), dInt (f 3 2), dInt (f 4 0), dInt (f 4 1), dInt (f 4 2), dInt (f 5 0), dInt (f 5 1), dInt (f 5 2), dInt (f 6 0), dInt (f 6 1), dInt (f 6 2), dInt (f 7 0), dInt (f 7 1), dInt (f 7 2)] true)] (by repeat (first | exact trivial | refine ⟨.same (congrArg dInt (wrap_up (by omega))), ?_⟩ | refine ⟨.same rfl, ?_⟩ | refine ⟨.any _, ?_⟩)) ⟨⟨rfl, rfl, rfl, rfl⟩, ⟨rfl, rfl, rfl, .same rfl, rfl, .same rfl, rfl, .same rfl, rfl, .same rfl, rfl, .same rfl, rfl, .same rfl, rfl, .same rfl, rfl, .same rfl, rfl, .same rfl, rfl, .same rfl, rfl, .same rfl, rfl, .same rfl, rfl, .same rfl, rfl, .same rfl, rfl, .same rfl, rfl, .same rfl, rfl, .same rfl, rfl, .same rfl, rfl, .same rfl, rfl, .same rfl, rfl, .same rfl, rfl, .same rfl, rfl, .same rfl, rfl, .same rfl, rfl, trivial⟩, ⟨rfl, rfl, rfl, .same rfl, rfl, .same rfl, rfl, .same rfl, rfl, .same rfl, rfl, .same rfl, rfl, .same rfl, rfl, .same rfl, rfl, .same rfl, rfl, .same rfl, rfl, .same rfl, rfl, .same rfl, rfl, .same rfl, rfl, .same rfl, rfl, .same rfl, rfl, .same rfl, rfl, .same rfl, rfl, .same rfl, rfl, .same rfl, rfl, .same rfl, rfl, .same rfl, rfl, .same rfl, rfl, .same rfl, rfl, .same rfl, rfl, .same rfl, rfl, trivial⟩, trivial⟩ rfl rfl) fun s' h => ⟨m - 1, by omega, k + 1, cur, t, f, by omega, hI, h⟩
                        · have hmv : mostV (colN cs 2) (t 2) = ((mostV c (t 2)).1, true) := by rw [hcc, ← hmo]
                          obtain ⟨p1, p2, p3⟩ := hI.comm hs (by decide) (by decide) (by decide) hbn ht0 hf0 hmv
                          have hso2 := right_ok (right_of_err p2)
                          generalize (mostV c (t 2)).1 = T at p1 p2 p3 hso2
                          refine BoolCase.yes rfl ?_
                          conv => whnf
                          repeat (first | (refine Conf.mk (by kernel_rfl) ?_; conv => whnf) | (refine SeqOk.go ?_; conv => whnf))
                          refine atS rfl hs ?_
                          conv => whnf
                          repeat (first | (refine Conf.mk (by kernel_rfl) ?_; conv => whnf) | (refine SeqOk.go ?_; conv => whnf))
                          refine elS hs ?_
                          conv => whnf
                          repeat (first | (refine Conf.mk (by kernel_rfl) ?_; conv => whnf) | (refine SeqOk.go ?_; conv => whnf))
                          refine .data _ _ (scomm_ok s (2 : Nat) T hso.1 hso.2) rfl ?_
                          conv => whnf
                          repeat (first | (refine Conf.mk (by kernel_rfl) ?_; conv => whnf) | (refine SeqOk.go ?_; conv => whnf))
                          simp only
                          refine BoolCase.no (by rw [p1]; rfl) ?_
                          conv => whnf
                          repeat (first | (refine Conf.mk (by kernel_rfl) ?_; conv => whnf) | (refine SeqOk.go ?_; conv => whnf))
                          refine .data _ _ (scheck_ok (s.commR ((2 : Nat) : Int) T) hso2.1 hso2.2) rfl ?_
                          conv => whnf
                          repeat (first | (refine Conf.mk (by kernel_rfl) ?_; conv => whnf) | (refine SeqOk.go ?_; conv => whnf))
                          refine BoolCase.no (by rw [p2]; rfl) ?_
                          conv => whnf
                          repeat (first | (refine Conf.mk (by kernel_rfl) ?_; conv => whnf) | (refine SeqOk.go ?_; conv => whnf))
                          simp only
                          refine atS rfl hs ?_
                          conv => whnf
                          repeat (first | (refine Conf.mk (by kernel_rfl) ?_; conv => whnf) | (refine SeqOk.go ?_; conv => whnf))
                          refine elS hs ?_
                          conv => whnf
                          repeat (first | (refine Conf.mk (by kernel_rfl) ?_; conv => whnf) | (refine SeqOk.go ?_; conv => whnf))
                          refine .mk 2 rfl (by decide) ?_
                          conv => whnf
                          repeat (first | (refine Conf.mk (by kernel_rfl) ?_; conv => whnf) | (refine SeqOk.go ?_; conv => whnf))
                          refine .mk 1 rfl (by decide) ?_
                          conv => whnf
                          repeat (first | (refine Conf.mk (by kernel_rfl) ?_; conv => whnf) | (refine SeqOk.go ?_; conv => whnf))
                          simp only
                          generalize s.commR ((2 : Nat) : Int) T = x at p3
                          exact Into.mono (Into.to [0, 1, 2] [(8, dInt (k + 1 : Nat)), (5, .row 0), (6, .ptr 1 0), (7, .ptr 2 0), (0, .dat (.list (cs.map encI))), (1, .dat (.list (ss.map encI)))] [(0, .rows 43 3 ((cur.set 1 x).map Sv.enc) true), (1, .vars 58 24 [dInt (t 0 0), dInt (t 0 1), dInt (t 0 2), dInt (t 1 0), dInt (t 1 1), dInt (t 1 2), dInt (t 2 0), dInt (t 2 1), dInt (t 2 2), dInt (t 3 0), dInt (t 3 1), dInt (t 3 2), dInt (t 4 0), dInt (t 4 1), dInt (t 4 2), dInt (t 5 0), dInt (t 5 1), dInt (t 5 2), dInt (t 6 0), dInt (t 6 1), dInt (t 6 2), dInt (t 7 0), dInt (t 7 1), dInt (t 7 2)] true), (2, .vars 58 24 [dInt (upd f 2 1 T 0 0), dInt (upd f 2 1 T 0 1), dInt (upd f 2 1 T 0 2), dInt (upd f 2 1 T 1 0), dInt (upd f 2 1 T 1 1), dInt (upd f 2 1 T 1 2), dInt (upd f 2 1 T 2 0), dInt (upd f 2 1 T 2 1), dInt (upd f 2 1 T 2 2), dInt (upd f 2 1 T 3 0), dInt (upd f 2 1 T 3 1), dInt (upd f 2 1 T 3 2), dInt (upd f 2 1 T 4 0), dInt (upd f 2 1 T 4 1), dInt (upd f 2 1 T 4 2), dInt (upd f 2 1 T 5 0), dInt (upd f 2 1 T 5 1), dInt (upd f 2 1 T 5 2), dInt (upd f 2 1 T 6 0), dInt (upd f 2 1 T 6 1), dInt (upd f 2 1 T 6 2), dInt (upd f 2 1 T 7 0), dInt (upd f 2 1 T 7 1), dInt (upd f 2 1 T 7 2)] true)] (by repeat (first | exact trivial | refine ⟨.same (congrArg dInt (wrap_up (by omega))), ?_⟩ | refine ⟨.same rfl, ?_⟩ | refine ⟨.any _, ?_⟩)) ⟨⟨rfl, rfl, rfl, setS⟩, ⟨rfl, rfl, rfl, .same rfl, rfl, .same rfl, rfl, .same rfl, rfl, .same rfl, rfl, .same rfl, rfl, .same rfl, rfl, .same rfl, rfl, .same rfl, rfl, .same rfl, rfl, .same rfl, rfl, .same rfl, rfl, .same rfl, rfl, .same rfl, rfl, .same rfl, rfl, .same rfl, rfl, .same rfl, rfl, .same rfl, rfl, .same rfl, rfl, .same rfl, rfl, .same rfl, rfl, .same rfl, rfl, .same rfl, rfl, .same rfl, rfl, .same rfl, rfl, trivial⟩, ⟨rfl, rfl, rfl, .same rfl, rfl, .same rfl, rfl, .same rfl, rfl, .same rfl, rfl, .same rfl, rfl, .same rfl, rfl, .same rfl, rfl, .same rfl, rfl, .same rfl, rfl, .same rfl, rfl, .same rfl, rfl, .same rfl, rfl, .same rfl, rfl, .same rfl, rfl, .same rfl, rfl, .same rfl, rfl, .same rfl, rfl, .same rfl, rfl, .same rfl, rfl, .same rfl, rfl, .same rfl, rfl, .same rfl, rfl, .same rfl, rfl, .same rfl, rfl, trivial⟩, trivial⟩ rfl rfl) fun s' h => ⟨m - 1, by omega, k + 1, _, t, _, by omega, p3, h⟩
                  · refine .mk 2 rfl (by decide) ?_
                    conv => whnf
                    repeat (first | (refine Conf.mk (by kernel_rfl) ?_; conv => whnf) | (refine SeqOk.go ?_; conv => whnf))
                    refine .mk 2 rfl (by decide) ?_
                    conv => whnf
                    repeat (first | (refine Conf.mk (by kernel_rfl) ?_; conv => whnf) | (refine SeqOk.go ?_; conv => whnf))
                    obtain ⟨s, hs⟩ := hget 2 (by decide)
                    have hbn : bitOf (colN cs 2) 2 = true := by rw [hcc]; exact hb
                    have hsr := hI.right 2 s hs
                    have hso := right_ok hsr
                    by_cases hf0 : 0 < f 2 2
                    · refine BoolCase.yes (by simpa using hf0) ?_
                      conv => whnf
                      repeat (first | (refine Conf.mk (by kernel_rfl) ?_; conv => whnf) | (refine SeqOk.go ?_; conv => whnf))
                      exact Into.mono (Into.to [0, 1, 2] [(8, dInt (k + 1 : Nat)), (5, .row 0), (6, .ptr 1 0), (7, .ptr 2 0), (0, .dat (.list (cs.map encI))), (1, .dat (.list (ss.map encI)))] [(0, .rows 43 3 (cur.map Sv.enc) true), (1, .vars 58 24 [dInt (t 0 0), dInt (t 0 1), dInt (t 0 2), dInt (t 1 0), dInt (t 1 1), dInt (t 1 2), dInt (t 2 0), dInt (t 2 1), dInt (t 2 2), dInt (t 3 0), dInt (t 3 1), dInt (t 3 2), dInt (t 4 0), dInt (t 4 1), dInt (t 4 2), dInt (t 5 0), dInt (t 5 1), dInt (t 5 2), dInt (t 6 0), dInt (t 6 1), dInt (t 6 2), dInt (t 7 0), dInt (t 7 1), dInt (t 7 2)] true), (2, .vars 58 24 [dInt (f 0 0), dInt (f 0 1), dInt (f 0 2), dInt (f 1 0), dInt (f 1 1), dInt (f 1 2), dInt (f 2 0), dInt (f 2 1), dInt (f 2 2), dInt (f 3 0), dInt (f 3 1), dInt (f 3 2), dInt (f 4 0), dInt (f 4 1), dInt (f 4 2), dInt (f 5 0), dInt (f 5 1), dInt (f 5 2), dInt (f 6 0), dInt (f 6 1), dInt (f 6 2), dInt (f 7 0), dInt (f 7 1), dInt (f 7 2)] true)] (by repeat (first | exact trivial | refine ⟨.same (congrArg dInt (wrap_up (by omega))), ?_⟩ | refine ⟨.same rfl, ?_⟩ | refine ⟨.any _, ?_⟩)) ⟨⟨rfl, rfl, rfl, rfl⟩, ⟨rfl, rfl, rfl, .same rfl, rfl, .same rfl, rfl, .same rfl, rfl, .same rfl, rfl, .same rfl, rfl, .same rfl, rfl, .same rfl, rfl, .same rfl, rfl, .same rfl, rfl, .same rfl, rfl, .same rfl, rfl, .same rfl, rfl, .same rfl, rfl, .same rfl, rfl, .same rfl, rfl, .same rfl, rfl, .same rfl, rfl, .same rfl, rfl, .same rfl, rfl, .same rfl, rfl, .same rfl, rfl, .same rfl, rfl, .same rfl, rfl, .same rfl, rfl, trivial⟩, ⟨rfl, rfl, rfl, .same rfl, rfl, .same rfl, rfl, .same rfl, rfl, .same rfl, rfl, .same rfl, rfl, .same rfl, rfl, .same rfl, rfl, .same rfl, rfl, .same rfl, rfl, .same rfl, rfl, .same rfl, rfl, .same rfl, rfl, .same rfl, rfl, .same rfl, rfl, .same rfl, rfl, .same rfl, rfl, .same rfl, rfl, .same rfl, rfl, .same rfl, rfl, .same rfl, rfl, .same rfl, rfl, .same rfl, rfl, .same rfl, rfl, .same rfl, rfl, trivial⟩, trivial⟩ rfl rfl) fun s' h => ⟨m - 1, by omega, k + 1, cur, t, f, by omega, hI, h⟩
                    · refine BoolCase.no (by simpa using hf0) ?_
                      conv => whnf
                      repeat (first | (refine Conf.mk (by kernel_rfl) ?_; conv => whnf) | (refine SeqOk.go ?_; conv => whnf))
                      simp only
                      refine .mk 2 rfl (by decide) ?_
                      conv => whnf
                      repeat (first | (refine Conf.mk (by kernel_rfl) ?_; conv => whnf) | (refine SeqOk.go ?_; conv => whnf))
                      refine .mk 2 rfl (by decide) ?_
                      conv => whnf
                      repeat (first | (refine Conf.mk (by kernel_rfl) ?_; conv => whnf) | (refine SeqOk.go ?_; conv => whnf))
                      by_cases ht0 : t 2 2 = 0
                      · obtain ⟨p1, p2, p3⟩ := hI.prop hs (by decide) (by decide) (by decide) hbn ht0
                        refine BoolCase.yes (by simpa using ht0) ?_
                        conv => whnf
                        repeat (first | (refine Conf.mk (by kernel_rfl) ?_; conv => whnf) | (refine SeqOk.go ?_; conv => whnf))
                        refine atS rfl hs ?_
                        conv => whnf
                        repeat (first | (refine Conf.mk (by kernel_rfl) ?_; conv => whnf) | (refine SeqOk.go ?_; conv => whnf))
                        refine elS hs ?_
                        conv => whnf
                        repeat (first | (refine Conf.mk (by kernel_rfl) ?_; conv => whnf) | (refine SeqOk.go ?_; conv => whnf))
                        refine .data _ _ (sprop_ok s (2 : Nat) hso.1 hso.2) rfl ?_
                        conv => whnf
                        repeat (first | (refine Conf.mk (by kernel_rfl) ?_; conv => whnf) | (refine SeqOk.go ?_; conv => whnf))
                        simp only
                        refine BoolCase.no (by rw [p1]; rfl) ?_
                        conv => whnf
                        repeat (first | (refine Conf.mk (by kernel_rfl) ?_; conv => whnf) | (refine SeqOk.go ?_; conv => whnf))
                        refine BoolCase.no (by simp; omega) ?_
                        conv => whnf
                        repeat (first | (refine Conf.mk (by kernel_rfl) ?_; conv => whnf) | (refine SeqOk.go ?_; conv => whnf))
                        simp only
                        refine atS rfl hs ?_
                        conv => whnf
                        repeat (first | (refine Conf.mk (by kernel_rfl) ?_; conv => whnf) | (refine SeqOk.go ?_; conv => whnf))
                        refine elS hs ?_
                        conv => whnf
                        repeat (first | (refine Conf.mk (by kernel_rfl) ?_; conv => whnf) | (refine SeqOk.go ?_; conv => whnf))
                        refine .mk 2 rfl (by decide) ?_
                        conv => whnf
                        repeat (first | (refine Conf.mk (by kernel_rfl) ?_; conv => whnf) | (refine SeqOk.go ?_; conv => whnf))
                        refine .mk 2 rfl (by decide) ?_
                        conv => whnf
                        repeat (first | (refine Conf.mk (by kernel_rfl) ?_; conv => whnf) | (refine SeqOk.go ?_; conv => whnf))
                        simp only
                        generalize s.propR ((2 : Nat) : Int) = x at p2 p3
                        exact Into.mono (Into.to [0, 1, 2] [(8, dInt (k + 1 : Nat)), (5, .row 0), (6, .ptr 1 0), (7, .ptr 2 0), (0, .dat (.list (cs.map encI))), (1, .dat (.list (ss.map encI)))] [(0, .rows 43 3 ((cur.set 2 x).map Sv.enc) true), (1, .vars 58 24 [dInt (upd t 2 2 x.clock 0 0), dInt (upd t 2 2 x.clock 0 1), dInt (upd t 2 2 x.clock 0 2), dInt (upd t 2 2 x.clock 1 0), dInt (upd t 2 2 x.clock 1 1), dInt (upd t 2 2 x.clock 1 2), dInt (upd t 2 2 x.clock 2 0), dInt (upd t 2 2 x.clock 2 1), dInt (upd t 2 2 x.clock 2 2), dInt (upd t 2 2 x.clock 3 0), dInt (upd t 2 2 x.clock 3 1), dInt (upd t 2 2 x.clock 3 2), dInt (upd t 2 2 x.clock 4 0), dInt (upd t 2 2 x.clock 4 1), dInt (upd t 2 2 x.clock 4 2), dInt (upd t 2 2 x.clock 5 0), dInt (upd t 2 2 x.clock 5 1), dInt (upd t 2 2 x.clock 5 2), dInt (upd t 2 2 x.clock 6 0), dInt (upd t 2 2 x.clock 6 1), dInt (upd t 2 2 x.clock 6 2), dInt (upd t 2 2 x.clock 7 0), dInt (upd t 2 2 x.clock 7 1), dInt (upd t 2 2 x.clock 7 2)] true), (2, .vars 58 24 [dInt (f 0 0), dInt (f 0 1), dInt (f 0 2), dInt (f 1 0), dInt (f 1 1), dInt (f 1 2), dInt (f 2 0), dInt (f 2 1), dInt (f 2 2), dInt (f 3 0), dInt (f 3 1), dInt (f 3 2), dInt (f 4 0), dInt (f 4 1), dInt (f 4 2), dInt (f 5 0), dInt (f 5 1), dInt (f 5 2), dInt (f 6 0), dInt (f 6 1), dInt (f 6 2), dInt (f 7 0), dInt (f 7 1), dInt (f 7 2)] true)] (by repeat (first | exact trivial | refine ⟨.same (congrArg dInt (wrap_up (by omega))), ?_⟩ | refine ⟨.same rfl, ?_⟩ | refine ⟨.any _, ?_⟩)) ⟨⟨rfl, rfl, rfl, setS⟩, ⟨rfl, rfl, rfl, .same rfl, rfl, .same rfl, rfl, .same rfl, rfl, .same rfl, rfl, .same rfl, rfl, .same rfl, rfl, .same rfl, rfl, .same rfl, rfl, .same rfl, rfl, .same rfl, rfl, .same rfl, rfl, .same rfl, rfl, .same rfl, rfl, .same rfl, rfl, .same rfl, rfl, .same rfl, rfl, .same rfl, rfl, .same rfl, rfl, .same rfl, rfl, .same rfl, rfl, .same rfl, rfl, .same rfl, rfl, .same rfl, rfl, .same rfl, rfl, trivial⟩, ⟨rfl, rfl, rfl, .same rfl, rfl, .same rfl, rfl, .same rfl, rfl, .same rfl, rfl, .same rfl, rfl, .same rfl, rfl, .same rfl, rfl, .same rfl, rfl, .same rfl, rfl, .same rfl, rfl, .same rfl, rfl, .same rfl, rfl, .same rfl, rfl, .same rfl, rfl, .same rfl, rfl, .same rfl, rfl, .same rfl, rfl, .same rfl, rfl, .same rfl, rfl, .same rfl, rfl, .same rfl, rfl, .same rfl, rfl, .same rfl, rfl, .same rfl, rfl, trivial⟩, trivial⟩ rfl rfl) fun s' h => ⟨m - 1, by omega, k + 1, _, _, f, by omega, p3, h⟩
                      · refine BoolCase.no (by simpa using ht0) ?_
                        conv => whnf
                        repeat (first | (refine Conf.mk (by kernel_rfl) ?_; conv => whnf) | (refine SeqOk.go ?_; conv => whnf))
                        refine .look _ _ (most_ok t 2 c (by decide) (by decide) (by omega)) rfl rfl ?_
                        conv => whnf
                        repeat (first | (refine Conf.mk (by kernel_rfl) ?_; conv => whnf) | (refine SeqOk.go ?_; conv => whnf))
                        simp only
                        cases hmo : (mostV c (t 2)).2
                        · refine BoolCase.no rfl ?_
                          conv => whnf
                          repeat (first | (refine Conf.mk (by kernel_rfl) ?_; conv => whnf) | (refine SeqOk.go ?_; conv => whnf))
                          exact Into.mono (Into.to [0, 1, 2] [(8, dInt (k + 1 : Nat)), (5, .row 0), (6, .ptr 1 0), (7, .ptr 2 0), (0, .dat (.list (cs.map encI))), (1, .dat (.list (ss.map encI)))] [(0, .rows 43 3 (cur.map Sv.enc) true), (1, .vars 58 24 [dInt (t 0 0), dInt (t 0 1), dInt (t 0 2), dInt (t 1 0), dInt (t 1 1), dInt (t 1 2), dInt (t 2 0), dInt (t 2 1), dInt (t 2 2), dInt (t 3 0), dInt (t 3 1), dInt (t 3 2), dInt (t 4 0), dInt (t 4 1), dInt (t 4 2), dInt (t 5 0), dInt (t 5 1), dInt (t 5 2), dInt (t 6 0), dInt (t 6 1), dInt (t 6 2), dInt (t 7 0), dInt (t 7 1), dInt (t 7 2)] true), (2, .vars 58 24 [dInt (f 0 0), dInt (f 0 1), dInt (f 0 2), dInt (f 1 0), dInt (f 1 1), dInt (f 1 2), dInt (f 2 0), dInt (f 2 1), dInt (f 2 2), dInt (f 3 0), dInt (f 3 1), dInt (f 3 2), dInt (f 4 0), dInt (f 4 1), dInt (f 4 2), dInt (f 5 0), dInt (f 5 1), dInt (f 5 2), dInt (f 6 0), dInt (f 6 1), dInt (f 6 2), dInt (f 7 0), dInt (f 7 1), dInt (f 7 2)] true)] (by repeat (first | exact trivial | refine ⟨.same (congrArg dInt (wrap_up (by omega))), ?_⟩ | refine ⟨.same rfl, ?_⟩ | refine ⟨.any _, ?_⟩)) ⟨⟨rfl, rfl, rfl, rfl⟩, ⟨rfl, rfl, rfl, .same rfl, rfl, .same rfl, rfl, .same rfl, rfl, .same rfl, rfl, .same rfl, rfl, .same rfl, rfl, .same rfl, rfl, .same rfl, rfl, .same rfl, rfl, .same rfl, rfl, .same rfl, rfl, .same rfl, rfl, .same rfl, rfl, .same rfl, rfl, .same rfl, rfl, .same rfl, rfl, .same rfl, rfl, .same rfl, rfl, .same rfl, rfl, .same rfl, rfl, .same rfl, rfl, .same rfl, rfl, .same rfl, rfl, .same rfl, rfl, trivial⟩, ⟨rfl, rfl, rfl, .same rfl, rfl, .same rfl, rfl, .same rfl, rfl, .same rfl, rfl, .same rfl, rfl, .same rfl, rfl, .same rfl, rfl, .same rfl, rfl, .same rfl, rfl, .same rfl, rfl, .same rfl, rfl, .same rfl, rfl, .same rfl, rfl, .same rfl, rfl, .same rfl, rfl, .same rfl, rfl, .same rfl, rfl, .same rfl, rfl, .same rfl, rfl, .same rfl, rfl, .same rfl, rfl, .same rfl, rfl, .same rfl, rfl, .same rfl, rfl, trivial⟩, trivial⟩ rfl rfl) fun s' h => ⟨m - 1, by omega, k + 1, cur, t, f, by omega, hI, h⟩
                        · have hmv : mostV (colN cs 2) (t 2) = ((mostV c (t 2)).1, true) := by rw [hcc, ← hmo]
                          obtain ⟨p1, p2, p3⟩ := hI.comm hs (by decide) (by decide) (by decide) hbn ht0 hf0 hmv
                          have hso2 := right_ok (right_of_err p2)
                          generalize (mostV c (t 2)).1 = T at p1 p2 p3 hso2
                          refine BoolCase.yes rfl ?_
                          conv => whnf
                          repeat (first | (refine Conf.mk (by kernel_rfl) ?_; conv => whnf) | (refine SeqOk.go ?_; conv => whnf))
                          refine atS rfl hs ?_
                          conv => whnf
                          repeat (first | (refine Conf.mk (by kernel_rfl) ?_; conv => whnf) | (refine SeqOk.go ?_; conv => whnf))
                          refine elS hs ?_
                          conv => whnf
                          repeat (first | (refine Conf.mk (by kernel_rfl) ?_; conv => whnf) | (refine SeqOk.go ?_; conv => whnf))
                          refine .data _ _ (scomm_ok s (2 : Nat) T hso.1 hso.2) rfl ?_
                          conv => whnf
                          repeat (first | (refine Conf.mk (by kernel_rfl) ?_; conv => whnf) | (refine SeqOk.go ?_; conv => whnf))
                          simp only
                          refine BoolCase.no (by rw [p1]; rfl) ?_
                          conv => whnf
                          repeat (first | (refine Conf.mk (by kernel_rfl) ?_; conv => whnf) | (refine SeqOk.go ?_; conv => whnf))
                          refine .data _ _ (scheck_ok (s.commR ((2 : Nat) : Int) T) hso2.1 hso2.2) rfl ?_
                          conv => whnf
                          repeat (first | (refine Conf.mk (by kernel_rfl) ?_; conv => whnf) | (refine SeqOk.go ?_; conv => whnf))
                          refine BoolCase.no (by rw [p2]; rfl) ?_
                          conv => whnf
                          repeat (first | (refine Conf.mk (by kernel_rfl) ?_; conv => whnf) | (refine SeqOk.go ?_; conv => whnf))
                          simp only
                          refine atS rfl hs ?_
                          conv => whnf
                          repeat (first | (refine Conf.mk (by kernel_rfl) ?_; conv => whnf) | (refine SeqOk.go ?_; conv => whnf))
                          refine elS hs ?_
                          conv => whnf
                          repeat (first | (refine Conf.mk (by kernel_rfl) ?_; conv => whnf) | (refine SeqOk.go ?_; conv => whnf))
                          refine .mk 2 rfl (by decide) ?_
                          conv => whnf
                          repeat (first | (refine Conf.mk (by kernel_rfl) ?_; conv => whnf) | (refine SeqOk.go ?_; conv => whnf))
                          refine .mk 2 rfl (by decide) ?_
                          conv => whnf
                          repeat (first | (refine Conf.mk (by kernel_rfl) ?_; conv => whnf) | (refine SeqOk.go ?_; conv => whnf))
                          simp only
                          generalize s.commR ((2 : Nat) : Int) T = x at p3
                          exact Into.mono (Into.to [0, 1, 2] [(8, dInt (k + 1 : Nat)), (5, .row 0), (6, .ptr 1 0), (7, .ptr 2 0), (0, .dat (.list (cs.map encI))), (1, .dat (.list (ss.map encI)))] [(0, .rows 43 3 ((cur.set 2 x).map Sv.enc) true), (1, .vars 58 24 [dInt (t 0 0), dInt (t 0 1), dInt (t 0 2), dInt (t 1 0), dInt (t 1 1), dInt (t 1 2), dInt (t 2 0), dInt (t 2 1), dInt (t 2 2), dInt (t 3 0), dInt (t 3 1), dInt (t 3 2), dInt (t 4 0), dInt (t 4 1), dInt (t 4 2), dInt (t 5 0), dInt (t 5 1), dInt (t 5 2), dInt (t 6 0), dInt (t 6 1), dInt (t 6 2), dInt (t 7 0), dInt (t 7 1), dInt (t 7 2)] true), (2, .vars 58 24 [dInt (upd f 2 2 T 0 0), dInt (upd f 2 2 T 0 1), dInt (upd f 2 2 T 0 2), dInt (upd f 2 2 T 1 0), dInt (upd f 2 2 T 1 1), dInt (upd f 2 2 T 1 2), dInt (upd f 2 2 T 2 0), dInt (upd f 2 2 T 2 1), dInt (upd f 2 2 T 2 2), dInt (upd f 2 2 T 3 0), dInt (upd f 2 2 T 3 1), dInt (upd f 2 2 T 3 2), dInt (upd f 2 2 T 4 0), dInt (upd f 2 2 T 4 1), dInt (upd f 2 2 T 4 2), dInt (upd f 2 2 T 5 0), dInt (upd f 2 2 T 5 1), dInt (upd f 2 2 T 5 2), dInt (upd f 2 2 T 6 0), dInt (upd f 2 2 T 6 1), dInt (upd f 2 2 T 6 2), dInt (upd f 2 2 T 7 0), dInt (upd f 2 2 T 7 1), dInt (upd f 2 2 T 7 2)] true)] (by repeat (first | exact trivial | refine ⟨.same (congrArg dInt (wrap_up (by omega))), ?_⟩ | refine ⟨.same rfl, ?_⟩ | refine ⟨.any _, ?_⟩)) ⟨⟨rfl, rfl, rfl, setS⟩, ⟨rfl, rfl, rfl, .same rfl, rfl, .same rfl, rfl, .same rfl, rfl, .same rfl, rfl, .same rfl, rfl, .same rfl, rfl, .same rfl, rfl, .same rfl, rfl, .same rfl, rfl, .same rfl, rfl, .same rfl, rfl, .same rfl, rfl, .same rfl, rfl, .same rfl, rfl, .same rfl, rfl, .same rfl, rfl, .same rfl, rfl, .same rfl, rfl, .same rfl, rfl, .same rfl, rfl, .same rfl, rfl, .same rfl, rfl, .same rfl, rfl, .same rfl, rfl, trivial⟩, ⟨rfl, rfl, rfl, .same rfl, rfl, .same rfl, rfl, .same rfl, rfl, .same rfl, rfl, .same rfl, rfl, .same rfl, rfl, .same rfl, rfl, .same rfl, rfl, .same rfl, rfl, .same rfl, rfl, .same rfl, rfl, .same rfl, rfl, .same rfl, rfl, .same rfl, rfl, .same rfl, rfl, .same rfl, rfl, .same rfl, rfl, .same rfl, rfl, .same rfl, rfl, .same rfl, rfl, .same rfl, rfl, .same rfl, rfl, .same rfl, rfl, .same rfl, rfl, trivial⟩, trivial⟩ rfl rfl) fun s' h => ⟨m - 1, by omega, k + 1, _, t, _, by omega, p3, h⟩
                  · refine .mk 3 rfl (by decide) ?_
                    conv => whnf
                    repeat (first | (refine Conf.mk (by kernel_rfl) ?_; conv => whnf) | (refine SeqOk.go ?_; conv => whnf))
                    refine .mk 0 rfl (by decide) ?_
                    conv => whnf
                    repeat (first | (refine Conf.mk (by kernel_rfl) ?_; conv => whnf) | (refine SeqOk.go ?_; conv => whnf))
                    obtain ⟨s, hs⟩ := hget 0 (by decide)
                    have hbn : bitOf (colN cs 3) 0 = true := by rw [hcc]; exact hb
                    have hsr := hI.right 0 s hs
                    have hso := right_ok hsr
                    by_cases hf0 : 0 < f 3 0
                    · refine BoolCase.yes (by simpa using hf0) ?_
                      conv => whnf
                      repeat (first | (refine Conf.mk (by kernel_rfl) ?_; conv => whnf) | (refine SeqOk.go ?_; conv => whnf))
                      exact Into.mono (Into.to [0, 1, 2] [(8, dInt (k + 1 : Nat)), (5, .row 0), (6, .ptr 1 0), (7, .ptr 2 0), (0, .dat (.list (cs.map encI))), (1, .dat (.list (ss.map encI)))] [(0, .rows 43 3 (cur.map Sv.enc) true), (1, .vars 58 24 [dInt (t 0 0), dInt (t 0 1), dInt (t 0 2), dInt (t 1 0), dInt (t 1 1), dInt (t 1 2), dInt (t 2 0), dInt (t 2 1), dInt (t 2 2), dInt (t 3 0), dInt (t 3 1), dInt (t 3 2), dInt (t 4 0), dInt (t 4 1), dInt (t 4 2), dInt (t 5 0), dInt (t 5 1), dInt (t 5 2), dInt (t 6 0), dInt (t 6 1), dInt (t 6 2), dInt (t 7 0), dInt (t 7 1), dInt (t 7 2)] true), (2, .vars 58 24 [dInt (f 0 0), dInt (f 0 1), dInt (f 0 2), dInt (f 1 0), dInt (f 1 1), dInt (f 1 2), dInt (f 2 0), dInt (f 2 1), dInt (f 2 2), dInt (f 3 0), dInt (f 3 1), dInt (f 3 2), dInt (f 4 0), dInt (f 4 1), dInt (f 4 2), dInt (f 5 0), dInt (f 5 1), dInt (f 5 2), dInt (f 6 0), dInt (f 6 1), dInt (f 6 2), dInt (f 7 0), dInt (f 7 1), dInt (f 7 2)] true)] (by repeat (first | exact trivial | refine ⟨.same (congrArg dInt (wrap_up (by omega))), ?_⟩ | refine ⟨.same rfl, ?_⟩ | refine ⟨.any _, ?_⟩)) ⟨⟨rfl, rfl, rfl, rfl⟩, ⟨rfl, rfl, rfl, .same rfl, rfl, .same rfl, rfl, .same rfl, rfl, .same rfl, rfl, .same rfl, rfl, .same rfl, rfl, .same rfl, rfl, .same rfl, rfl, .same rfl, rfl, .same rfl, rfl, .same rfl, rfl, .same rfl, rfl, .same rfl, rfl, .same rfl, rfl, .same rfl, rfl, .same rfl, rfl, .same rfl, rfl, .same rfl, rfl, .same rfl, rfl, .same rfl, rfl, .same rfl, rfl, .same rfl, rfl, .same rfl, rfl, .same rfl, rfl, trivial⟩, ⟨rfl, rfl, rfl, .same rfl, rfl, .same rfl, rfl, .same rfl, rfl, .same rfl, rfl, .same rfl, rfl, .same rfl, rfl, .same rfl, rfl, .same rfl, rfl, .same rfl, rfl, .same rfl, rfl, .same rfl, rfl, .same rfl, rfl, .same rfl, rfl, .same rfl, rfl, .same rfl, rfl, .same rfl, rfl, .same rfl, rfl, .same rfl, rfl, .same rfl, rfl, .same rfl, rfl, .same rfl, rfl, .same rfl, rfl, .same rfl, rfl, .same rfl, rfl, trivial⟩, trivial⟩ rfl rfl) fun s' h => ⟨m - 1, by omega, k + 1, cur, t, f, by omega, hI, h⟩
                    · refine BoolCase.no (by simpa using hf0) ?_
                      conv => whnf
                      repeat (first | (refine Conf.mk (by kernel_rfl) ?_; conv => whnf) | (refine SeqOk.go ?_; conv => whnf))
                      simp only
                      refine .mk 3 rfl (by decide) ?_
                      conv => whnf
                      repeat (first | (refine Conf.mk (by kernel_rfl) ?_; conv => whnf) | (refine SeqOk.go ?_; conv => whnf))
                      refine .mk 0 rfl (by decide) ?_
                      conv => whnf
                      repeat (first | (refine Conf.mk (by kernel_rfl) ?_; conv => whnf) | (refine SeqOk.go ?_; conv => whnf))
                      by_cases ht0 : t 3 0 = 0
                      · obtain ⟨p1, p2, p3⟩ := hI.prop hs (by decide) (by decide) (by decide) hbn ht0
                        refine BoolCase.yes (by simpa using ht0) ?_
                        conv => whnf
                        repeat (first | (refine Conf.mk (by kernel_rfl) ?_; conv => whnf) | (refine SeqOk.go ?_; conv => whnf))
                        refine atS rfl hs ?_
                        conv => whnf
                        repeat (first | (refine Conf.mk (by kernel_rfl) ?_; conv => whnf) | (refine SeqOk.go ?_; conv => whnf))
                        refine elS hs ?_
                        conv => whnf
                        repeat (first | (refine Conf.mk (by kernel_rfl) ?_; conv => whnf) | (refine SeqOk.go ?_; conv => whnf))
                        refine .data _ _ (sprop_ok s (3 : Nat) hso.1 hso.2) rfl ?_
                        conv => whnf
                        repeat (first | (refine Conf.mk (by kernel_rfl) ?_; conv => whnf) | (refine SeqOk.go ?_; conv => whnf))
                        simp only
                        refine BoolCase.no (by rw [p1]; rfl) ?_
                        conv => whnf
                        repeat (first | (refine Conf.mk (by kernel_rfl) ?_; conv => whnf) | (refine SeqOk.go ?_; conv => whnf))
                        refine BoolCase.no (by simp; omega) ?_
                        conv => whnf
                        repeat (first | (refine Conf.mk (by kernel_rfl) ?_; conv => whnf) | (refine SeqOk.go ?_; conv => whnf))
                        simp only
                        refine atS rfl hs ?_
                        conv => whnf
                        repeat (first | (refine Conf.mk (by kernel_rfl) ?_; conv => whnf) | (refine SeqOk.go ?_; conv => whnf))
                        refine elS hs ?_
                        conv => whnf
                        repeat (first | (refine Conf.mk (by kernel_rfl) ?_; conv => whnf) | (refine SeqOk.go ?_; conv => whnf))
                        refine .mk 3 rfl (by decide) ?_
                        conv => whnf
                        repeat (first | (refine Conf.mk (by kernel_rfl) ?_; conv => whnf) | (refine SeqOk.go ?_; conv => whnf))
                        refine .mk 0 rfl (by decide) ?_
                        conv => whnf
                        repeat (first | (refine Conf.mk (by kernel_rfl) ?_; conv => whnf) | (refine SeqOk.go ?_; conv => whnf))
                        simp only
                        generalize s.propR ((3 : Nat) : Int) = x at p2 p3
                        exact Into.mono (Into.to [0, 1, 2] [(8, dInt (k + 1 : Nat)), (5, .row 0), (6, .ptr 1 0), (7, .ptr 2 0), (0, .dat (.list (cs.map encI))), (1, .dat (.list (ss.map encI)))] [(0, .rows 43 3 ((cur.set 0 x).map Sv.enc) true), (1, .vars 58 24 [dInt (upd t 3 0 x.clock 0 0), dInt (upd t 3 0 x.clock 0 1), dInt (upd t 3 0 x.clock 0 2), dInt (upd t 3 0 x.clock 1 0), dInt (upd t 3 0 x.clock 1 1), dInt (upd t 3 0 x.clock 1 2), dInt (upd t 3 0 x.clock 2 0), dInt (upd t 3 0 x.clock 2 1), dInt (upd t 3 0 x.clock 2 2), dInt (upd t 3 0 x.clock 3 0), dInt (upd t 3 0 x.clock 3 1), dInt (upd t 3 0 x.clock 3 2), dInt (upd t 3 0 x.clock 4 0), dInt (upd t 3 0 x.clock 4 1), dInt (upd t 3 0 x.clock 4 2), dInt (upd t 3 0 x.clock 5 0), dInt (upd t 3 0 x.clock 5 1), dInt (upd t 3 0 x.clock 5 2), dInt (upd t 3 0 x.clock 6 0), dInt (upd t 3 0 x.clock 6 1), dInt (upd t 3 0 x.clock 6 2), dInt (upd t 3 0 x.clock 7 0), dInt (upd t 3 0 x.clock 7 1), dInt (upd t 3 0 x.clock 7 2)] true), (2, .vars 58 24 [dInt (f 0 0), dInt (f 0 1), dInt (f 0 2), dInt (f 1 0), dInt (f 1 1), dInt (f 1 2), dInt (f 2 0), dInt (f 2 1), dInt (f 2 2), dInt (f 3 0), dInt (f 3 1), dInt (f 3 2), dInt (f 4 0), dInt (f 4 1), dInt (f 4 2), dInt (f 5 0), dInt (f 5 1), dInt (f 5 2), dInt (f 6 0), dInt (f 6 1), dInt (f 6 2), dInt (f 7 0), dInt (f 7 1), dInt (f 7 2)] true)] (by repeat (first | exact trivial | refine ⟨.same (congrArg dInt (wrap_up (by omega))), ?_⟩ | refine ⟨.same rfl, ?_⟩ | refine ⟨.any _, ?_⟩)) ⟨⟨rfl, rfl, rfl, setS⟩, ⟨rfl, rfl, rfl, .same rfl, rfl, .same rfl, rfl, .same rfl, rfl, .same rfl, rfl, .same rfl, rfl, .same rfl, rfl, .same rfl, rfl, .same rfl, rfl, .same rfl, rfl, .same rfl, rfl, .same rfl, rfl, .same rfl, rfl, .same rfl, rfl, .same rfl, rfl, .same rfl, rfl, .same rfl, rfl, .same rfl, rfl, .same rfl, rfl, .same rfl, rfl, .same rfl, rfl, .same rfl, rfl, .same rfl, rfl, .same rfl, rfl, .same rfl, rfl, trivial⟩, ⟨rfl, rfl, rfl, .same rfl, rfl, .same rfl, rfl, .same rfl, rfl, .same rfl, rfl, .same rfl, rfl, .same rfl, rfl, .same rfl, rfl, .same rfl, rfl, .same rfl, rfl, .same rfl, rfl, .same rfl, rfl, .same rfl, rfl, .same rfl, rfl, .same rfl, rfl, .same rfl, rfl, .same rfl, rfl, .same rfl, rfl, .same rfl, rfl, .same rfl, rfl, .same rfl, rfl, .same rfl, rfl, .same rfl, rfl, .same rfl, rfl, .same rfl, rfl, trivial⟩, trivial⟩ rfl rfl) fun s' h => ⟨m - 1, by omega, k + 1, _, _, f, by omega, p3, h⟩
                      · refine BoolCase.no (by simpa using ht0) ?_
                        conv => whnf
                        repeat (first | (refine Conf.mk (by kernel_rfl) ?_; conv => whnf) | (refine SeqOk.go ?_; conv => whnf))
                        refine .look _ _ (most_ok t 3 c (by decide) (by decide) (by omega)) rfl rfl ?_
                        conv => whnf
                        repeat (first | (refine Conf.mk (by kernel_rfl) ?_; conv => whnf) | (refine SeqOk.go ?_; conv => whnf))
                        simp only
                        cases hmo : (mostV c (t 3)).2
                        · refine BoolCase.no rfl ?_
                          conv => whnf
                          repeat (first | (refine Conf.mk (by kernel_rfl) ?_; conv => whnf) | (refine SeqOk.go ?_; conv => whnf))
                          exact Into.mono (Into.to [0, 1, 2] [(8, dInt (k + 1 : Nat)), (5, .row 0), (6, .ptr 1 0), (7, .ptr 2 0), (0, .dat (.list (cs.map encI))), (1, .dat (.list (ss.map encI)))] [(0, .rows 43 3 (cur.map Sv.enc) true), (1, .vars 58 24 [dInt (t 0 0), dInt (t 0 1), dInt (t 0 2), dInt (t 1 0), dInt (t 1 1), dInt (t 1 2), dInt (t 2 0), dInt (t 2 1), dInt (t 2 2), dInt (t 3 0), dInt (t 3 1), dInt (t 3 2), dInt (t 4 0), dInt (t 4 1), dInt (t 4 2), dInt (t 5 0), dInt (t 5 1), dInt (t 5 2), dInt (t 6 0), dInt (t 6 1), dInt (t 6 2), dInt (t 7 0), dInt (t 7 1), dInt (t 7 2)] true), (2, .vars 58 24 [dInt (f 0 0), dInt (f 0 1), dInt (f 0 2), dInt (f 1 0), dInt (f 1 1), dInt (f 1 2), dInt (f 2 0), dInt (f 2 1), dInt (f 2 2), dInt (f 3 0), dInt (f 3 1), dInt (f 3 2), dInt (f 4 0), dInt (f 4 1), dInt (f 4 2), dInt (f 5 0), dInt (f 5 1), dInt (f 5 2), dInt (f 6 0), dInt (f 6 1), dInt (f 6 2), dInt (f 7 0), dInt (f 7 1), dInt (f 7 2)] true)] (by repeat (first | exact trivial | refine ⟨.same (congrArg dInt (wrap_up (by omega))), ?_⟩ | refine ⟨.same rfl, ?_⟩ | refine ⟨.any _, ?_⟩)) ⟨⟨rfl, rfl, rfl, rfl⟩, ⟨rfl, rfl, rfl, .same rfl, rfl, .same rfl, rfl, .same rfl, rfl, .same rfl, rfl, .same rfl, rfl, .same rfl, rfl, .same rfl, rfl, .same rfl, rfl, .same rfl, rfl, .same rfl, rfl, .same rfl, rfl, .same rfl, rfl, .same rfl, rfl, .same rfl, rfl, .same rfl, rfl, .same rfl, rfl, .same rfl, rfl, .same rfl, rfl, .same rfl, rfl, .same rfl, rfl, .same rfl, rfl, .same rfl, rfl, .same rfl, rfl, .same rfl, rfl, trivial⟩, ⟨rfl, rfl, rfl, .same rfl, rfl, .same rfl, rfl, .same rfl, rfl, .same rfl, rfl, .same rfl, rfl, .same rfl, rfl, .same rfl, rfl, .same rfl, rfl, .same rfl, rfl, .same rfl, rfl, .same rfl, rfl, .same rfl, rfl, .same rfl, rfl, .same rfl, rfl, .same rfl, rfl, .same rfl, rfl, .same rfl, rfl, .same rfl, rfl, .same rfl, rfl, .same rfl, rfl, .same rfl, rfl, .same rfl, rfl, .same rfl, rfl, .same rfl, rfl, trivial⟩, trivial⟩ rfl rfl) fun s' h => ⟨m - 1, by omega, k + 1, cur, t, f, by omega, hI, h⟩
                        · have hmv : mostV (colN cs 3) (t 3) = ((mostV c (t 3)).1, true) := by rw [hcc, ← hmo]
                          obtain ⟨p1, p2, p3⟩ := hI.comm hs (by decide) (by decide) (by decide) hbn ht0 hf0 hmv
                          have hso2 := right_ok (right_of_err p2)
                          generalize (mostV c (t 3)).1 = T at p1 p2 p3 hso2
                          refine BoolCase.yes rfl ?_
                          conv => whnf
                          repeat (first | (refine Conf.mk (by kernel_rfl) ?_; conv => whnf) | (refine SeqOk.go ?_; conv => whnf))
                          refine atS rfl hs ?_
                          conv => whnf
                          repeat (first | (refine Conf.mk (by kernel_rfl) ?_; conv => whnf) | (refine SeqOk.go ?_; conv => whnf))
                          refine elS hs ?_
                          conv => whnf
                          repeat (first | (refine Conf.mk (by kernel_rfl) ?_; conv => whnf) | (refine SeqOk.go ?_; conv => whnf))
                          refine .data _ _ (scomm_ok s (3 : Nat) T hso.1 hso.2) rfl ?_
                          conv => whnf
                          repeat (first | (refine Conf.mk (by kernel_rfl) ?_; conv => whnf) | (refine SeqOk.go ?_; conv => whnf))
                          simp only
                          refine BoolCase.no (by rw [p1]; rfl) ?_
                          conv => whnf
                          repeat (first | (refine Conf.mk (by kernel_rfl) ?_; conv => whnf) | (refine SeqOk.go ?_; conv => whnf))
                          refine .data _ _ (scheck_ok (s.commR ((3 : Nat) : Int) T) hso2.1 hso2.2) rfl ?_
                          conv => whnf
                          repeat (first | (refine Conf.mk (by kernel_rfl) ?_; conv => whnf) | (refine SeqOk.go ?_; conv => whnf))
                          refine BoolCase.no (by rw [p2]; rfl) ?_
                          conv => whnf
                          repeat (first | (refine Conf.mk (by kernel_rfl) ?_; conv => whnf) | (refine SeqOk.go ?_; conv => whnf))
                          simp only
                          refine atS rfl hs ?_
                          conv => whnf
                          repeat (first | (refine Conf.mk (by kernel_rfl) ?_; conv => whnf) | (refine SeqOk.go ?_; conv => whnf))
                          refine elS hs ?_
                          conv => whnf
                          repeat (first | (refine Conf.mk (by kernel_rfl) ?_; conv => whnf) | (refine SeqOk.go ?_; conv => whnf))
                          refine .mk 3 rfl (by decide) ?_
                          conv => whnf
                          repeat (first | (refine Conf.mk (by kernel_rfl) ?_; conv => whnf) | (refine SeqOk.go ?_; conv => whnf))
                          refine .mk 0 rfl (by decide) ?_
                          conv => whnf
                          repeat (first | (refine Conf.mk (by kernel_rfl) ?_; conv => whnf) | (refine SeqOk.go ?_; conv => whnf))
                          simp only
                          generalize s.commR ((3 : Nat) : Int) T = x at p3
                          exact Into.mono (Into.to [0, 1, 2] [(8, dInt (k + 1 : Nat)), (5, .row 0), (6, .ptr 1 0), (7, .ptr 2 0), (0, .dat (.list (cs.map encI))), (1, .dat (.list (ss.map encI)))] [(0, .rows 43 3 ((cur.set 0 x).map Sv.enc) true), (1, .vars 58 24 [dInt (t 0 0), dInt (t 0 1), dInt (t 0 2), dInt (t 1 0), dInt (t 1 1), dInt (t 1 2), dInt (t 2 0), dInt (t 2 1), dInt (t 2 2), dInt (t 3 0), dInt (t 3 1), dInt (t 3 2), dInt (t 4 0), dInt (t 4 1), dInt (t 4 2), dInt (t 5 0), dInt (t 5 1), dInt (t 5 2), dInt (t 6 0), dInt (t 6 1), dInt (t 6 2), dInt (t 7 0), dInt (t 7 1), dInt (t 7 2)] true), (2, .vars 58 24 [dInt (upd f 3 0 T 0 0), dInt (upd f 3 0 T 0 1), dInt (upd f 3 0 T 0 2), dInt (upd f 3 0 T 1 0), dInt (upd f 3 0 T 1 1), dInt (upd f 3 0 T 1 2), dInt (upd f 3 0 T 2 0), dInt (upd f 3 0 T 2 1), dInt (upd f 3 0 T 2 2), dInt (upd f 3 0 T 3 0), dInt (upd f 3 0 T 3 1), dInt (upd f 3 0 T 3 2), dInt (upd f 3 0 T 4 0), dInt (upd f 3 0 T 4 1), dInt (upd f 3 0 T 4 2), dInt (upd f 3 0 T 5 0), dInt (upd f 3 0 T 5 1), dInt (upd f 3 0 T 5 2), dInt (upd f 3 0 T 6 0), dInt (upd f 3 0 T 6 1), dInt (upd f 3 0 T 6 2), dInt (upd f 3 0 T 7 0), dInt (upd f 3 0 T 7 1), dInt (upd f 3 0 T 7 2)] true)] (by repeat (first | exact trivial | refine ⟨.same (congrArg dInt (wrap_up (by omega))), ?_⟩ | refine ⟨.same rfl, ?_⟩ | refine ⟨.any _, ?_⟩)) ⟨⟨rfl, rfl, rfl, setS⟩, ⟨rfl, rfl, rfl, .same rfl, rfl, .same rfl, rfl, .same rfl, rfl, .same rfl, rfl, .same rfl, rfl, .same rfl, rfl, .same rfl, rfl, .same rfl, rfl, .same rfl, rfl, .same rfl, rfl, .same rfl, rfl, .same rfl, rfl, .same rfl, rfl, .same rfl, rfl, .same rfl, rfl, .same rfl, rfl, .same rfl, rfl, .same rfl, rfl, .same rfl, rfl, .same rfl, rfl, .same rfl, rfl, .same rfl, rfl, .same rfl, rfl, .same rfl, rfl, trivial⟩, ⟨rfl, rfl, rfl, .same rfl, rfl, .same rfl, rfl, .same rfl, rfl, .same rfl, rfl, .same rfl, rfl, .same rfl, rfl, .same rfl, rfl, .same rfl, rfl, .same rfl, rfl, .same rfl, rfl, .same rfl, rfl, .same rfl, rfl, .same rfl, rfl, .same rfl, rfl, .same rfl, rfl, .same rfl, rfl, .same rfl, rfl, .same rfl, rfl, .same rfl, rfl, .same rfl, rfl, .same rfl, rfl, .same rfl, rfl, .same rfl, rfl, .same rfl, rfl, trivial⟩, trivial⟩ rfl rfl) fun s' h => ⟨m - 1, by omega, k + 1, _, t, _, by omega, p3, h⟩
                  · refine .mk 3 rfl (by decide) ?_
                    conv => whnf
                    repeat (first | (refine Conf.mk (by kernel_rfl) ?_; conv => whnf) | (refine SeqOk.go ?_; conv => whnf))
                    refine .mk 1 rfl (by decide) ?_
                    conv => whnf
                    repeat (first | (refine Conf.mk (by kernel_rfl) ?_; conv => whnf) | (refine SeqOk.go ?_; conv => whnf))
                    obtain ⟨s, hs⟩ := hget 1 (by decide)
                    have hbn : bitOf (colN cs 3) 1 = true := by rw [hcc]; exact hb
                    have hsr := hI.right 1 s hs
                    have hso := right_ok hsr
                    by_cases hf0 : 0 < f 3 1
                    · refine BoolCase.yes (by simpa using hf0) ?_
                      conv => whnf
                      repeat (first | (refine Conf.mk (by kernel_rfl) ?_; conv => whnf) | (refine SeqOk.go ?_; conv => whnf))
                      exact Into.mono (Into.to [0, 1, 2] [(8, dInt (k + 1 : Nat)), (5, .row 0), (6, .ptr 1 0), (7, .ptr 2 0), (0, .dat (.list (cs.map encI))), (1, .dat (.list (ss.map encI)))] [(0, .rows 43 3 (cur.map Sv.enc) true), (1, .vars 58 24 [dInt (t 0 0), dInt (t 0 1), dInt (t 0 2), dInt (t 1 0), dInt (t 1 1), dInt (t 1 2), dInt (t 2 0), dInt (t 2 1), dInt (t 2 2), dInt (t 3 0), dInt (t 3 1), dInt (t 3 2), dInt (t 4 0), dInt (t 4 1), dInt (t 4 2), dInt (t 5 0), dInt (t 5 1), dInt (t 5 2), dInt (t 6 0), dInt (t 6 1), dInt (t 6 2), dInt (t 7 0), dInt (t 7 1), dInt (t 7 2)] true), (2, .vars 58 24 [dInt (f 0 0), dInt (f 0 1), dInt (f 0 2), dInt (f 1 0), dInt (f 1 1), dInt (f 1 2), dInt (f 2 0), dInt (f 2 1), dInt (f 2 2), dInt (f 3 0), dInt (f 3 1), dInt (f 3 2), dInt (f 4 0), dInt (f 4 1), dInt (f 4 2), dInt (f 5 0), dInt (f 5 1), dInt (f 5 2), dInt (f 6 0), dInt (f 6 1), dInt (f 6 2), dInt (f 7 0), dInt (f 7 1), dInt (f 7 2)] true)] (by repeat (first | exact trivial | refine ⟨.same (congrArg dInt (wrap_up (by omega))), ?_⟩ | refine ⟨.same rfl, ?_⟩ | refine ⟨.any _, ?_⟩)) ⟨⟨rfl, rfl, rfl, rfl⟩, ⟨rfl, rfl, rfl, .same rfl, rfl, .same rfl, rfl, .same rfl, rfl, .same rfl, rfl, .same rfl, rfl, .same rfl, rfl, .same rfl, rfl, .same rfl, rfl, .same rfl, rfl, .same rfl, rfl, .same rfl, rfl, .same rfl, rfl, .same rfl, rfl, .same rfl, rfl, .same rfl, rfl, .same rfl, rfl, .same rfl, rfl, .same rfl, rfl, .same rfl, rfl, .same rfl, rfl, .same rfl, rfl, .same rfl, rfl, .same rfl, rfl, .same rfl, rfl, trivial⟩, ⟨rfl, rfl, rfl, .same rfl, rfl, .same rfl, rfl, .same rfl, rfl, .same rfl, rfl, .same rfl, rfl, .same rfl, rfl, .same rfl, rfl, .same rfl, rfl, .same rfl, rfl, .same rfl, rfl, .same rfl, rfl, .same rfl, rfl, .same rfl, rfl, .same rfl, rfl, .same rfl, rfl, .same rfl, rfl, .same rfl, rfl, .same rfl, rfl, .same rfl, rfl, .same rfl, rfl, .same rfl, rfl, .same rfl, rfl, .same rfl, rfl, .same rfl, rfl, trivial⟩, trivial⟩ rfl rfl) fun s' h => ⟨m - 1, by omega, k + 1, cur, t, f, by omega, hI, h⟩
                    · refine BoolCase.no (by simpa using hf0) ?_
                      conv => whnf
                      repeat (first | (refine Conf.mk (by kernel_rfl) ?_; conv => whnf) | (refine SeqOk.go ?_; conv => whnf))
                      simp only
                      refine .mk 3 rfl (by decide) ?_
                      conv => whnf
                      repeat (first | (refine Conf.mk (by kernel_rfl) ?_; conv => whnf) | (refine SeqOk.go ?_; conv => whnf))
                      refine .mk 1 rfl (by decide) ?_
                      conv => whnf
                      repeat (first | (refine Conf.mk (by kernel_rfl) ?_; conv => whnf) | (refine SeqOk.go ?_; conv => whnf))
                      by_cases ht0 : t 3 1 = 0
                      · obtain ⟨p1, p2, p3⟩ := hI.prop hs (by decide) (by decide) (by decide) hbn ht0
                        refine BoolCase.yes (by simpa using ht0) ?_
                        conv => whnf
                        repeat (first | (refine Conf.mk (by kernel_rfl) ?_; conv => whnf) | (refine SeqOk.go ?_; conv => whnf))
                        refine atS rfl hs ?_
                        conv => whnf
                        repeat (first | (refine Conf.mk (by kernel_rfl) ?_; conv => whnf) | (refine SeqOk.go ?_; conv => whnf))
                        refine elS hs ?_
                        conv => whnf
                        repeat (first | (refine Conf.mk (by kernel_rfl) ?_; conv => whnf) | (refine SeqOk.go ?_; conv => whnf))
                        refine .data _ _ (sprop_ok s (3 : Nat) hso.1 hso.2) rfl ?_
                        conv => whnf
                        repeat (first | (refine Conf.mk (by kernel_rfl) ?_; conv => whnf) | (refine SeqOk.go ?_; conv => whnf))
                        simp only
                        refine BoolCase.no (by rw [p1]; rfl) ?_
                        conv => whnf
                        repeat (first | (refine Conf.mk (by kernel_rfl) ?_; conv => whnf) | (refine SeqOk.go ?_; conv => whnf))
                        refine BoolCase.no (by simp; omega) ?_
                        conv => whnf
                        repeat (first | (refine Conf.mk (by kernel_rfl) ?_; conv => whnf) | (refine SeqOk.go ?_; conv => whnf))
                        simp only
                        refine atS rfl hs ?_
                        conv => whnf
                        repeat (first | (refine Conf.mk (by kernel_rfl) ?_; conv => whnf) | (refine SeqOk.go ?_; conv => whnf))
                        refine elS hs ?_
                        conv => whnf
                        repeat (first | (refine Conf.mk (by kernel_rfl) ?_; conv => whnf) | (refine SeqOk.go ?_; conv => whnf))
                        refine .mk 3 rfl (by decide) ?_
                        conv => whnf
                        repeat (first | (refine Conf.mk (by kernel_rfl) ?_; conv => whnf) | (refine SeqOk.go ?_; conv => whnf))
                        refine .mk 1 rfl (by decide) ?_
                        conv => whnf
                        repeat (first | (refine Conf.mk (by kernel_rfl) ?_; conv => whnf) | (refine SeqOk.go ?_; conv => whnf))
                        simp only
                        generalize s.propR ((3 : Nat) : Int) = x at p2 p3
                        exact Into.mono (Into.to [0, 1, 2] [(8, dInt (k + 1 : Nat)), (5, .row 0), (6, .ptr 1 0), (7, .ptr 2 0), (0, .dat (.list (cs.map encI))), (1, .dat (.list (ss.map encI)))] [(0, .rows 43 3 ((cur.set 1 x).map Sv.enc) true), (1, .vars 58 24 [dInt (upd t 3 1 x.clock 0 0), dInt (upd t 3 1 x.clock 0 1), dInt (upd t 3 1 x.clock 0 2), dInt (upd t 3 1 x.clock 1 0), dInt (upd t 3 1 x.clock 1 1), dInt (upd t 3 1 x.clock 1 2), dInt (upd t 3 1 x.clock 2 0), dInt (upd t 3 1 x.clock 2 1), dInt (upd t 3 1 x.clock 2 2), dInt (upd t 3 1 x.clock 3 0), dInt (upd t 3 1 x.clock 3 1), dInt (upd t 3 1 x.clock 3 2), dInt (upd t 3 1 x.clock 4 0), dInt (upd t 3 1 x.clock 4 1), dInt (upd t 3 1 x.clock 4 2), dInt (upd t 3 1 x.clock 5 0), dInt (upd t 3 1 x.clock 5 1), dInt (upd t 3 1 x.clock 5 2), dInt (upd t 3 1 x.clock 6 0), dInt (upd t 3 1 x.clock 6 1), dInt (upd t 3 1 x.clock 6 2), dInt (upd t 3 1 x.clock 7 0), dInt (upd t 3 1 x.clock 7 1), dInt (upd t 3 1 x.clock 7 2)] true), (2, .vars 58 24 [dInt (f 0 0), dInt (f 0 1), dInt (f 0 2), dInt (f 1 0), dInt (f 1 1), dInt (f 1 2), dInt (f 2 0), dInt (f 2 1), dInt (f 2 2), dInt (f 3 0), dInt (f 3 1), dInt (f 3 2), dInt (f 4 0), dInt (f 4 1), dInt (f 4 2), dInt (f 5 0), dInt (f 5 1), dInt (f 5 2), dInt (f 6 0), dInt (f 6 1), dInt (f 6 2), dInt (f 7 0), dInt (f 7 1), dInt (f 7 2)] true)] (by repeat (first | exact trivial | refine ⟨.same (congrArg dInt (wrap_up (by omega))), ?_⟩ | refine ⟨.same rfl, ?_⟩ | refine ⟨.any _, ?_⟩)) ⟨⟨rfl, rfl, rfl, setS⟩, ⟨rfl, rfl, rfl, .same rfl, rfl, .same rfl, rfl, .same rfl, rfl, .same rfl, rfl, .same rfl, rfl, .same rfl, rfl, .same rfl, rfl, .same rfl, rfl, .same rfl, rfl, .same rfl, rfl, .same rfl, rfl, .same rfl, rfl, .same rfl, rfl, .same rfl, rfl, .same rfl, rfl, .same rfl, rfl, .same rfl, rfl, .same rfl, rfl, .same rfl, rfl, .same rfl, rfl, .same rfl, rfl, .same rfl, rfl, .same rfl, rfl, .same rfl, rfl, trivial⟩, ⟨rfl, rfl, rfl, .same rfl, rfl, .same rfl, rfl, .same rfl, rfl, .same rfl, rfl, .same rfl, rfl, .same rfl, rfl, .same rfl, rfl, .same rfl, rfl, .same rfl, rfl, .same rfl, rfl, .same rfl, rfl, .same rfl, rfl, .same rfl, rfl, .same rfl, rfl, .same rfl, rfl, .same rfl, rfl, .same rfl, rfl, .same rfl, rfl, .same rfl, rfl, .same rfl, rfl, .same rfl, rfl, .same rfl, rfl, .same rfl, rfl, .same rfl, rfl, trivial⟩, trivial⟩ rfl rfl) fun s' h => ⟨m - 1, by omega, k + 1, _, _, f, by omega, p3, h⟩
                      · refine BoolCase.no (by simpa using ht0) ?_
                        conv => whnf
                        repeat (first | (refine Conf.mk (by kernel_rfl) ?_; conv => whnf) | (refine SeqOk.go ?_; conv => whnf))
                        refine .look _ _ (most_ok t 3 c (by decide) (by decide) (by omega)) rfl rfl ?_
                        conv => whnf
                        repeat (first | (refine Conf.mk (by kernel_rfl) ?_; conv => whnf) | (refine SeqOk.go ?_; conv => whnf))
                        simp only
                        cases hmo : (mostV c (t 3)).2
                        · refine BoolCase.no rfl ?_
                          conv => whnf
                          repeat (first | (refine Conf.mk (by kernel_rfl) ?_; conv => whnf) | (refine SeqOk.go ?_; conv => whnf))
                          exact Into.mono (Into.to [0, 1, 2] [(8, dInt (k + 1 : Nat)), (5, .row 0), (6, .ptr 1 0), (7, .ptr 2 0), (0, .dat (.list (cs.map encI))), (1, .dat (.list (ss.map encI)))] [(0, .rows 43 3 (cur.map Sv.enc) true), (1, .vars 58 24 [dInt (t 0 0), dInt (t 0 1), dInt (t 0 2), dInt (t 1 0), dInt (t 1 1), dInt (t 1 2), dInt (t 2 0), dInt (t 2 1), dInt (t 2 2), dInt (t 3 0), dInt (t 3 1), dInt (t 3 2), dInt (t 4 0), dInt (t 4 1), dInt (t 4 2), dInt (t 5 0), dInt (t 5 1), dInt (t 5 2), dInt (t 6 0), dInt (t 6 1), dInt (t 6 2), dInt (t 7 0), dInt (t 7 1), dInt (t 7 2)] true), (2, .vars 58 24 [dInt (f 0 0), dInt (f 0 1), dInt (f 0 2), dInt (f 1 0), dInt (f 1 1), dInt (f 1 2), dInt (f 2 0), dInt (f 2 1), dInt (f 2 2), dInt (f 3 0), dInt (f 3 1), dInt (f 3 2), dInt (f 4 0), dInt (f 4 1), dInt (f 4 2), dInt (f 5 0), dInt (f 5 1), dInt (f 5 2), dInt (f 6 0), dInt (f 6 1), dInt (f 6 2), dInt (f 7 0), dInt (f 7 1), dInt (f 7 2)] true)] (by repeat (first | exact trivial | refine ⟨.same (congrArg dInt (wrap_up (by omega))), ?_⟩ | refine ⟨.same rfl, ?_⟩ | refine ⟨.any _, ?_⟩)) ⟨⟨rfl, rfl, rfl, rfl⟩, ⟨rfl, rfl, rfl, .same rfl, rfl, .same rfl, rfl, .same rfl, rfl, .same rfl, rfl, .same rfl, rfl, .same rfl, rfl, .same rfl, rfl, .same rfl, rfl, .same rfl, rfl, .same rfl, rfl, .same rfl, rfl, .same rfl, rfl, .same rfl, rfl, .same rfl, rfl, .same rfl, rfl, .same rfl, rfl, .same rfl, rfl, .same rfl, rfl, .same rfl, rfl, .same rfl, rfl, .same rfl, rfl, .same rfl, rfl, .same rfl, rfl, .same rfl, rfl, trivial⟩, ⟨rfl, rfl, rfl, .same rfl, rfl, .same rfl, rfl, .same rfl, rfl, .same rfl, rfl, .same rfl, rfl, .same rfl, rfl, .same rfl, rfl, .same rfl, rfl, .same rfl, rfl, .same rfl, rfl, .same rfl, rfl, .same rfl, rfl, .same rfl, rfl, .same rfl, rfl, .same rfl, rfl, .same rfl, rfl, .same rfl, rfl, .same rfl, rfl, .same rfl, rfl, .same rfl, rfl, .same rfl, rfl, .same rfl, rfl, .same rfl, rfl, .same rfl, rfl, trivial⟩, trivial⟩ rfl rfl) fun s' h => ⟨m - 1, by omega, k + 1, cur, t, f, by omega, hI, h⟩
                        · have hmv : mostV (colN cs 3) (t 3) = ((mostV c (t 3)).1, true) := by rw [hcc, ← hmo]
                          obtain ⟨p1, p2, p3⟩ := hI.comm hs (by decide) (by decide) (by decide) hbn ht0 hf0 hmv
                          have hso2 := right_ok (right_of_err p2)
                          generalize (mostV c (t 3)).1 = T at p1 p2 p3 hso2
                          refine BoolCase.yes rfl ?_
                          conv => whnf
                          repeat (first | (refine Conf.mk (by kernel_rfl) ?_; conv => whnf) | (refine SeqOk.go ?_; conv => whnf))
                          refine atS rfl hs ?_
                          conv => whnf
                          repeat (first | (refine Conf.mk (by kernel_rfl) ?_; conv => whnf) | (refine SeqOk.go ?_; conv => whnf))
                          refine elS hs ?_
                          conv => whnf
                          repeat (first | (refine Conf.mk (by kernel_rfl) ?_; conv => whnf) | (refine SeqOk.go ?_; conv => whnf))
                          refine .data _ _ (scomm_ok s (3 : Nat) T hso.1 hso.2) rfl ?_
                          conv => whnf
                          repeat (first | (refine Conf.mk (by kernel_rfl) ?_; conv => whnf) | (refine SeqOk.go ?_; conv => whnf))
                          simp only
                          refine BoolCase.no (by rw [p1]; rfl) ?_
                          conv => whnf
                          repeat (first | (refine Conf.mk (by kernel_rfl) ?_; conv => whnf) | (refine SeqOk.go ?_; conv => whnf))
                          refine .data _ _ (scheck_ok (s.commR ((3 : Nat) : Int) T) hso2.1 hso2.2) rfl ?_
                          conv => whnf
                          repeat (first | (refine Conf.mk (by kernel_rfl) ?_; conv => whnf) | (refine SeqOk.go ?_; conv => whnf))
                          refine BoolCase.no (by rw [p2]; rfl) ?_
                          conv => whnf
                          repeat (first | (refine Conf.mk (by kernel_rfl) ?_; conv => whnf) | (refine SeqOk.go ?_; conv => whnf))
                          simp only
                          refine atS rfl hs ?_
                          conv => whnf
                          repeat (first | (refine Conf.mk (by kernel_rfl) ?_; conv => whnf) | (refine SeqOk.go ?_; conv => whnf))
                          refine elS hs ?_
                          conv => whnf
                          repeat (first | (refine Conf.mk (by kernel_rfl) ?_; conv => whnf) | (refine SeqOk.go ?_; conv => whnf))
                          refine .mk 3 rfl (by decide) ?_
                          conv => whnf
                          repeat (first | (refine Conf.mk (by kernel_rfl) ?_; conv => whnf) | (refine SeqOk.go ?_; conv => whnf))
                          refine .mk 1 rfl (by decide) ?_
                          conv => whnf
                          repeat (first | (refine Conf.mk (by kernel_rfl) ?_; conv => whnf) | (refine SeqOk.go ?_; conv => whnf))
                          simp only
                          generalize s.commR ((3 : Nat) : Int) T = x at p3
                          exact Into.mono (Into.to [0, 1, 2] [(8, dInt (k + 1 : Nat)), (5, .row 0), (6, .ptr 1 0), (7, .ptr 2 0), (0, .dat (.list (cs.map encI))), (1, .dat (.list (ss.map encI)))] [(0, .rows 43 3 ((cur.set 1 x).map Sv.enc) true), (1, .vars 58 24 [dInt (t 0 0), dInt (t 0 1), dInt (t 0 2), dInt (t 1 0), dInt (t 1 1), dInt (t 1 2), dInt (t 2 0), dInt (t 2 1), dInt (t 2 2), dInt (t 3 0), dInt (t 3 1), dInt (t 3 2), dInt (t 4 0), dInt (t 4 1), dInt (t 4 2), dInt (t 5 0), dInt (t 5 1), dInt (t 5 2), dInt (t 6 0), dInt (t 6 1), dInt (t 6 2), dInt (t 7 0), dInt (t 7 1), dInt (t 7 2)] true), (2, .vars 58 24 [dInt (upd f 3 1 T 0 0), dInt (upd f 3 1 T 0 1), dInt (upd f 3 1 T 0 2), dInt (upd f 3 1 T 1 0), dInt (upd f 3 1 T 1 1), dInt (upd f 3 1 T 1 2), dInt (upd f 3 1 T 2 0), dInt (upd f 3 1 T 2 1), dInt (upd f 3 1 T 2 2), dInt (upd f 3 1 T 3 0), dInt (upd f 3 1 T 3 1), dInt (upd f 3 1 T 3 2), dInt (upd f 3 1 T 4 0), dInt (upd f 3 1 T 4 1), dInt (upd f 3 1 T 4 2), dInt (upd f 3 1 T 5 0), dInt (upd f 3 1 T 5 1), dInt (upd f 3 1 T 5 2), dInt (upd f 3 1 T 6 0), dInt (upd f 3 1 T 6 1), dInt (upd f 3 1 T 6 2), dInt (upd f 3 1 T 7 0), dInt (upd f 3 1 T 7 1), dInt (upd f 3 1 T 7 2)] true)] (by repeat (first | exact trivial | refine ⟨.same (congrArg dInt (wrap_up (by omega))), ?_⟩ | refine ⟨.same rfl, ?_⟩ | refine ⟨.any _, ?_⟩)) ⟨⟨rfl, rfl, rfl, setS⟩, ⟨rfl, rfl, rfl, .same rfl, rfl, .same rfl, rfl, .same rfl, rfl, .same rfl, rfl, .same rfl, rfl, .same rfl, rfl, .same rfl, rfl, .same rfl, rfl, .same rfl, rfl, .same rfl, rfl, .same rfl, rfl, .same rfl, rfl, .same rfl, rfl, .same rfl, rfl, .same rfl, rfl, .same rfl, rfl, .same rfl, rfl, .same rfl, rfl, .same rfl, rfl, .same rfl, rfl, .same rfl, rfl, .same rfl, rfl, .same rfl, rfl, .same rfl, rfl, trivial⟩, ⟨rfl, rfl, rfl, .same rfl, rfl, .same rfl, rfl, .same rfl, rfl, .same rfl, rfl, .same rfl, rfl, .same rfl, rfl, .same rfl, rfl, .same rfl, rfl, .same rfl, rfl, .same rfl, rfl, .same rfl, rfl, .same rfl, rfl, .same rfl, rfl, .same rfl, rfl, .same rfl, rfl, .same rfl, rfl, .same rfl, rfl, .same rfl, rfl, .same rfl, rfl, .same rfl, rfl, .same rfl, rfl, .same rfl, rfl, .same rfl, rfl, .same rfl, rfl, trivial⟩, trivial⟩ rfl rfl) fun s' h => ⟨m - 1, by omega, k + 1, _, t, _, by omega, p3, h⟩
                  · refine .mk 3 rfl (by decide) ?_
                    conv => whnf
                    repeat (first | (refine Conf.mk (by kernel_rfl) ?_; conv => whnf) | (refine SeqOk.go ?_; conv => whnf))
                    refine .mk 2 rfl (by decide) ?_
                    conv => whnf
                    repeat (first | (refine Conf.mk (by kernel_rfl) ?_; conv => whnf) | (refine SeqOk.go ?_; conv => whnf))
                    obtain ⟨s, hs⟩ := hget 2 (by decide)
                    have hbn : bitOf (colN cs 3) 2 = true := by rw [hcc]; exact hb
                    have hsr := hI.right 2 s hs
                    have hso := right_ok hsr
                    by_cases hf0 : 0 < f 3 2
                    · refine BoolCase.yes (by simpa using hf0) ?_
                      conv => whnf
                      repeat (first | (refine Conf.mk (by kernel_rfl) ?_; conv => whnf) | (refine SeqOk.go ?_; conv => whnf))
                      exact Into.mono (Into.to [0, 1, 2] [(8, dInt (k + 1 : Nat)), (5, .row 0), (6, .ptr 1 0), (7, .ptr 2 0), (0, .dat (.list (cs.map encI))), (1, .dat (.list (ss.map encI)))] [(0, .rows 43 3 (cur.map Sv.enc) true), (1, .vars 58 24 [dInt (t 0 0), dInt (t 0 1), dInt (t 0 2), dInt (t 1 0), dInt (t 1 1), dInt (t 1 2), dInt (t 2 0), dInt (t 2 1), dInt (t 2 2), dInt (t 3 0), dInt (t 3 1), dInt (t 3 2), dInt (t 4 0), dInt (t 4 1), dInt (t 4 2), dInt (t 5 0), dInt (t 5 1), dInt (t 5 2), dInt (t 6 0), dInt (t 6 1), dInt (t 6 2), dInt (t 7 0), dInt (t 7 1), dInt (t 7 2)] true), (2, .vars 58 24 [dInt (f 0 0), dInt (f 0 1), dInt (f 0 2), dInt (f 1 0), dInt (f 1 1), dInt (f 1 2), dInt (f 2 0), dInt (f 2 1), dInt (f 2 2), dInt (f 3 0), dInt (f 3 1), dInt (f 3 2), dInt (f 4 0), dInt (f 4 1), dInt (f 4 2), dInt (f 5 0), dInt (f 5 1), dInt (f 5 2), dInt (f 6 0), dInt (f 6 1), dInt (f 6 2), dInt (f 7 0), dInt (f 7 1), dInt (f 7 2)] true)] (by repeat (first | exact trivial | refine ⟨.same (congrArg dInt (wrap_up (by omega))), ?_⟩ | refine ⟨.same rfl, ?_⟩ | refine ⟨.any _, ?_⟩)) ⟨⟨rfl, rfl, rfl, rfl⟩, ⟨rfl, rfl, rfl, .same rfl, rfl, .same rfl, rfl, .same rfl, rfl, .same rfl, rfl, .same rfl, rfl, .same rfl, rfl, .same rfl, rfl, .same rfl, rfl, .same rfl, rfl, .same rfl, rfl, .same rfl, rfl, .same rfl, rfl, .same rfl, rfl, .same rfl, rfl, .same rfl, rfl, .same rfl, rfl, .same rfl, rfl, .same rfl, rfl, .same rfl, rfl, .same rfl, rfl, .same rfl, rfl, .same rfl, rfl, .same rfl, rfl, .same rfl, rfl, trivial⟩, ⟨rfl, rfl, rfl, .same rfl, rfl, .same rfl, rfl, .same rfl, rfl, .same rfl, rfl, .same rfl, rfl, .same rfl, rfl, .same rfl, rfl, .same rfl, rfl, .same rfl, rfl, .same rfl, rfl, .same rfl, rfl, .same rfl, rfl, .same rfl, rfl, .same rfl, rfl, .same rfl, rfl, .same rfl, rfl, .same rfl, rfl, .same rfl, rfl, .same rfl, rfl, .same rfl, rfl, .same rfl, rfl, .same rfl, rfl, .same rfl, rfl, .same rfl, rfl, trivial⟩, trivial⟩ rfl rfl) fun s' h => ⟨m - 1, by omega, k + 1, cur, t, f, by omega, hI, h⟩
                    · refine BoolCase.no (by simpa using hf0) ?_
                      conv => whnf
                      repeat (first | (refine Conf.mk (by kernel_rfl) ?_; conv => whnf) | (refine SeqOk.go ?_; conv => whnf))
                      simp only
                      refine .mk 3 rfl (by decide) ?_
                      conv => whnf
                      repeat (first | (refine Conf.mk (by kernel_rfl) ?_; conv => whnf) | (refine SeqOk.go ?_; conv => whnf))
                      refine .mk 2 rfl (by decide) ?_
                      conv => whnf
                      repeat (first | (refine Conf.mk (by kernel_rfl) ?_; conv => whnf) | (refine SeqOk.go ?_; conv => whnf))
                      by_cases ht0 : t 3 2 = 0
                      · obtain ⟨p1, p2, p3⟩ := hI.prop hs (by decide) (by decide) (by decide) hbn ht0
                        refine BoolCase.yes (by simpa using ht0) ?_
                        conv => whnf
                        repeat (first | (refine Conf.mk (by kernel_rfl) ?_; conv => whnf) | (refine SeqOk.go ?_; conv => whnf))
                        refine atS rfl hs ?_
                        conv => whnf
                        repeat (first | (refine Conf.mk (by kernel_rfl) ?_; conv => whnf) | (refine SeqOk.go ?_; conv => whnf))
                        refine elS hs ?_
                        conv => whnf
                        repeat (first | (refine Conf.mk (by kernel_rfl) ?_; conv => whnf) | (refine SeqOk.go ?_; conv => whnf))
                        refine .data _ _ (sprop_ok s (3 : Nat) hso.1 hso.2) rfl ?_
                        conv => whnf
                        repeat (first | (refine Conf.mk (by kernel_rfl) ?_; conv => whnf) | (refine SeqOk.go ?_; conv => whnf))
                        simp only
                        refine BoolCase.no (by rw [p1]; rfl) ?_
                        conv => whnf
                        repeat (first | (refine Conf.mk (by kernel_rfl) ?_; conv => whnf) | (refine SeqOk.go ?_; conv => whnf))
                        refine BoolCase.no (by simp; omega) ?_
                        conv => whnf
                        repeat (first | (refine Conf.mk (by kernel_rfl) ?_; conv => whnf) | (refine SeqOk.go ?_; conv => whnf))
                        simp only
                        refine atS rfl hs ?_
                        conv => whnf
                        repeat (first | (refine Conf.mk (by kernel_rfl) ?_; conv => whnf) | (refine SeqOk.go ?_; conv => whnf))
                        refine elS hs ?_
                        conv => whnf
                        repeat (first | (refine Conf.mk (by kernel_rfl) ?_; conv => whnf) | (refine SeqOk.go ?_; conv => whnf))
                        refine .mk 3 rfl (by decide) ?_
                        conv => whnf
                        repeat (first | (refine Conf.mk (by kernel_rfl) ?_; conv => whnf) | (refine SeqOk.go ?_; conv => whnf))
                        refine .mk 2 rfl (by decide) ?_
                        conv => whnf
                        repeat (first | (refine Conf.mk (by kernel_rfl) ?_; conv => whnf) | (refine SeqOk.go ?_; conv => whnf))
                        simp only
                        generalize s.propR ((3 : Nat) : Int) = x at p2 p3
                        exact Into.mono (Into.to [0, 1, 2] [(8, dInt (k + 1 : Nat)), (5, .row 0), (6, .ptr 1 0), (7, .ptr 2 0), (0, .dat (.list (cs.map encI))), (1, .dat (.list (ss.map encI)))] [(0, .rows 43 3 ((cur.set 2 x).map Sv.enc) true), (1, .vars 58 24 [dInt (upd t 3 2 x.clock 0 0), dInt (upd t 3 2 x.clock 0 1), dInt (upd t 3 2 x.clock 0 2), dInt (upd t 3 2 x.clock 1 0), dInt (upd t 3 2 x.clock 1 1), dInt (upd t 3 2 x.clock 1 2), dInt (upd t 3 2 x.clock 2 0), dInt (upd t 3 2 x.clock 2 1), dInt (upd t 3 2 x.clock 2 2), dInt (upd t 3 2 x.clock 3 0), dInt (upd t 3 2 x.clock 3 1), dInt (upd t 3 2 x.clock 3 2), dInt (upd t 3 2 x.clock 4 0), dInt (upd t 3 2 x.clock 4 1), dInt (upd t 3 2 x.clock 4 2), dInt (upd t 3 2 x.clock 5 0), dInt (upd t 3 2 x.clock 5 1), dInt (upd t 3 2 x.clock 5 2), dInt (upd t 3 2 x.clock 6 0), dInt (upd t 3 2 x.clock 6 1), dInt (upd t 3 2 x.clock 6 2), dInt (upd t 3 2 x.clock 7 0), dInt (upd t 3 2 x.clock 7 1), dInt (upd t 3 2 x.clock 7 2)] true), (2, .vars 58 24 [dInt (f 0 0), dInt (f 0 1), dInt (f 0 2), dInt (f 1 0), dInt (f 1 1), dInt (f 1 2), dInt (f 2 0), dInt (f 2 1), dInt (f 2 2), dInt (f 3 0), dInt (f 3 1), dInt (f 3 2), dInt (f 4 0), dInt (f 4 1), dInt (f 4 2), dInt (f 5 0), dInt (f 5 1), dInt (f 5 2), dInt (f 6 0), dInt (f 6 1), dInt (f 6 2), dInt (f 7 0), dInt (f 7 1), dInt (f 7 2)] true)] (by repeat (first | exact trivial | refine ⟨.same (congrArg dInt (wrap_up (by omega))), ?_⟩ | refine ⟨.same rfl, ?_⟩ | refine ⟨.any _, ?_⟩)) ⟨⟨rfl, rfl, rfl, setS⟩, ⟨rfl, rfl, rfl, .same rfl, rfl, .same rfl, rfl, .same rfl, rfl, .same rfl, rfl, .same rfl, rfl, .same rfl, rfl, .same rfl, rfl, .same rfl, rfl, .same rfl, rfl, .same rfl, rfl, .same rfl, rfl, .same rfl, rfl, .same rfl, rfl, .same rfl, rfl, .same rfl, rfl, .same rfl, rfl, .same rfl, rfl, .same rfl, rfl, .same rfl, rfl, .same rfl, rfl, .same rfl, rfl, .same rfl, rfl, .same rfl, rfl, .same rfl, rfl, trivial⟩, ⟨rfl, rfl, rfl, .same rfl, rfl, .same rfl, rfl, .same rfl, rfl, .same rfl, rfl, .same rfl, rfl, .same rfl, rfl, .same rfl, rfl, .same rfl, rfl, .same rfl, rfl, .same rfl, rfl, .same rfl, rfl, .same rfl, rfl, .same rfl, rfl, .same rfl, rfl, .same rfl, rfl, .same rfl, rfl, .same rfl, rfl, .same rfl, rfl, .same rfl, rfl, .same rfl, rfl, .same rfl, rfl, .same rfl, rfl, .same rfl, rfl, .same rfl, rfl, trivial⟩, trivial⟩ rfl rfl) fun s' h => ⟨m - 1, by omega, k + 1, _, _, f, by omega, p3, h⟩
                      · refine BoolCase.no (by simpa using ht0) ?_
                        conv => whnf
                        repeat (first | (refine Conf.mk (by kernel_rfl) ?_; conv => whnf) | (refine SeqOk.go ?_; conv => whnf))
                        refine .look _ _ (most_ok t 3 c (by decide) (by decide) (by omega)) rfl rfl ?_
                        conv => whnf
                        repeat (first | (refine Conf.mk (by kernel_rfl) ?_; conv => whnf) | (refine SeqOk.go ?_; conv => whnf))
                        simp only
                        cases hmo : (mostV c (t 3)).2
                        · refine BoolCase.no rfl ?_
                          conv => whnf
                          repeat (first | (refine Conf.mk (by kernel_rfl) ?_; conv => whnf) | (refine SeqOk.go ?_; conv => whnf))
                          exact Into.mono (Into.to [0, 1, 2] [(8, dInt (k + 1 : Nat)), (5, .row 0), (6, .ptr 1 0), (7, .ptr 2 0), (0, .dat (.list (cs.map encI))), (1, .dat (.list (ss.map encI)))] [(0, .rows 43 3 (cur.map Sv.enc) true), (1, .vars 58 24 [dInt (t 0 0), dInt (t 0 1), dInt (t 0 2), dInt (t 1 0), dInt (t 1 1), dInt (t 1 2), dInt (t 2 0), dInt (t 2 1), dInt (t 2 2), dInt (t 3 0), dInt (t 3 1), dInt (t 3 2), dInt (t 4 0), dInt (t 4 1), dInt (t 4 2), dInt (t 5 0), dInt (t 5 1), dInt (t 5 2), dInt (t 6 0), dInt (t 6 1), dInt (t 6 2), dInt (t 7 0), dInt (t 7 1), dInt (t 7 2)] true), (2, .vars 58 24 [dInt (f 0 0), dInt (f 0 1), dInt (f 0 2), dInt (f 1 0), dInt (f 1 1), dInt (f 1 2), dInt (f 2 0), dInt (f 2 1), dInt (f 2 2), dInt (f 3 0), dInt (f 3 1), dInt (f 3 2), dInt (f 4 0), dInt (f 4 1), dInt (f 4 2), dInt (f 5 0), dInt (f 5 1), dInt (f 5 2), dInt (f 6 0), dInt (f 6 1), dInt (f 6 2), dInt (f 7 0), dInt (f 7 1), dInt (f 7 2)] true)] (by repeat (first | exact trivial | refine ⟨.same (congrArg dInt (wrap_up (by omega))), ?_⟩ | refine ⟨.same rfl, ?_⟩ | refine ⟨.any _, ?_⟩)) ⟨⟨rfl, rfl, rfl, rfl⟩, ⟨rfl, rfl, rfl, .same rfl, rfl, .same rfl, rfl, .same rfl, rfl, .same rfl, rfl, .same rfl, rfl, .same rfl, rfl, .same rfl, rfl, .same rfl, rfl, .same rfl, rfl, .same rfl, rfl, .same rfl, rfl, .same rfl, rfl, .same rfl, rfl, .same rfl, rfl, .same rfl, rfl, .same rfl, rfl, .same rfl, rfl, .same rfl, rfl, .same rfl, rfl, .same rfl, rfl, .same rfl, rfl, .same rfl, rfl, .same rfl, rfl, .same rfl, rfl, trivial⟩, ⟨rfl, rfl, rfl, .same rfl, rfl, .same rfl, rfl, .same rfl, rfl, .same rfl, rfl, .same rfl, rfl, .same rfl, rfl, .same rfl, rfl, .same rfl, rfl, .same rfl, rfl, .same rfl, rfl, .same rfl, rfl, .same rfl, rfl, .same rfl, rfl, .same rfl, rfl, .same rfl, rfl, .same rfl, rfl, .same rfl, rfl, .same rfl, rfl, .same rfl, rfl, .same rfl, rfl, .same rfl, rfl, .same rfl, rfl, .same rfl, rfl, .same rfl, rfl, trivial⟩, trivial⟩ rfl rfl) fun s' h => ⟨m - 1, by omega, k + 1, cur, t, f, by omega, hI, h⟩
                        · have hmv : mostV (colN cs 3) (t 3) = ((mostV c (t 3)).1, true) := by rw [hcc, ← hmo]
                          obtain ⟨p1, p2, p3⟩ := hI.comm hs (by decide) (by decide) (by decide) hbn ht0 hf0 hmv
                          have hso2 := right_ok (right_of_err p2)
                          generalize (mostV c (t 3)).1 = T at p1 p2 p3 hso2
                          refine BoolCase.yes rfl ?_
                          conv => whnf
                          repeat (first | (refine Conf.mk (by kernel_rfl) ?_; conv => whnf) | (refine SeqOk.go ?_; conv => whnf))
                          refine atS rfl hs ?_
                          conv => whnf
                          repeat (first | (refine Conf.mk (by kernel_rfl) ?_; conv => whnf) | (refine SeqOk.go ?_; conv => whnf))
                          refine elS hs ?_
                          conv => whnf
                          repeat (first | (refine Conf.mk (by kernel_rfl) ?_; conv => whnf) | (refine SeqOk.go ?_; conv => whnf))
                          refine .data _ _ (scomm_ok s (3 : Nat) T hso.1 hso.2) rfl ?_
                          conv => whnf
                          repeat (first | (refine Conf.mk (by kernel_rfl) ?_; conv => whnf) | (refine SeqOk.go ?_; conv => whnf))
                          simp only
                          refine BoolCase.no (by rw [p1]; rfl) ?_
                          conv => whnf
                          repeat (first | (refine Conf.mk (by kernel_rfl) ?_; conv => whnf) | (refine SeqOk.go ?_; conv => whnf))
                          refine .data _ _ (scheck_ok (s.commR ((3 : Nat) : Int) T) hso2.1 hso2.2) rfl ?_
                          conv => whnf
                          repeat (first | (refine Conf.mk (by kernel_rfl) ?_; conv => whnf) | (refine SeqOk.go ?_; conv => whnf))
                          refine BoolCase.no (by rw [p2]; rfl) ?_
                          conv => whnf
                          repeat (first | (refine Conf.mk (by kernel_rfl) ?_; conv => whnf) | (refine SeqOk.go ?_; conv => whnf))
                          simp only
                          refine atS rfl hs ?_
                          conv => whnf
                          repeat (first | (refine Conf.mk (by kernel_rfl) ?_; conv => whnf) | (refine SeqOk.go ?_; conv => whnf))
                          refine elS hs ?_
                          conv => whnf
                          repeat (first | (refine Conf.mk (by kernel_rfl) ?_; conv => whnf) | (refine SeqOk.go ?_; conv => whnf))
                          refine .mk 3 rfl (by decide) ?_
                          conv => whnf
                          repeat (first | (refine Conf.mk (by kernel_rfl) ?_; conv => whnf) | (refine SeqOk.go ?_; conv => whnf))
                          refine .mk 2 rfl (by decide) ?_
                          conv => whnf
                          repeat (first | (refine Conf.mk (by kernel_rfl) ?_; conv => whnf) | (refine SeqOk.go ?_; conv => whnf))
                          simp only
                          generalize s.commR ((3 : Nat) : Int) T = x at p3
                          exact Into.mono (Into.to [0, 1, 2] [(8, dInt (k + 1 : Nat)), (5, .row 0), (6, .ptr 1 0), (7, .ptr 2 0), (0, .dat (.list (cs.map encI))), (1, .dat (.list (ss.map encI)))] [(0, .rows 43 3 ((cur.set 2 x).map Sv.enc) true), (1, .vars 58 24 [dInt (t 0 0), dInt (t 0 1), dInt (t 0 2), dInt (t 1 0), dInt (t 1 1), dInt (t 1 2), dInt (t 2 0), dInt (t 2 1), dInt (t 2 2), dInt (t 3 0), dInt (t 3 1), dInt (t 3 2), dInt (t 4 0), dInt (t 4 1), dInt (t 4 2), dInt (t 5 0), dInt (t 5 1), dInt (t 5 2), dInt (t 6 0), dInt (t 6 1), dInt (t 6 2), dInt (t 7 0), dInt (t 7 1), dInt (t 7 2)] true), (2, .vars 58 24 [dInt (upd f 3 2 T 0 0), dInt (upd f 3 2 T 0 1), dInt (upd f 3 2 T 0 2), dInt (upd f 3 2 T 1 0), dInt (upd f 3 2 T 1 1), dInt (upd f 3 2 T 1 2), dInt (upd f 3 2 T 2 0), dInt (upd f 3 2 T 2 1), dInt (upd f 3 2 T 2 2), dInt (upd f 3 2 T 3 0), dInt (upd f 3 2 T 3 1), dInt (upd f 3 2 T 3 2), dInt (upd f 3 2 T 4 0), dInt (upd f 3 2 T 4 1), dInt (upd f 3 2 T 4 2), dInt (upd f 3 2 T 5 0), dInt (upd f 3 2 T 5 1), dInt (upd f 3 2 T 5 2), dInt (upd f 3 2 T 6 0), dInt (upd f 3 2 T 6 1), dInt (upd f 3 2 T 6 2), dInt (upd f 3 2 T 7 0), dInt (upd f 3 2 T 7 1), dInt (upd f 3 2 T 7 2)] true)] (by repeat (first | exact trivial | refine ⟨.same (congrArg dInt (wrap_up (by omega))), ?_⟩ | refine ⟨.same rfl, ?_⟩ | refine ⟨.any _, ?_⟩)) ⟨⟨rfl, rfl, rfl, setS⟩, ⟨rfl, rfl, rfl, .same rfl, rfl, .same rfl, rfl, .same rfl, rfl, .same rfl, rfl, .same rfl, rfl, .same rfl, rfl, .same rfl, rfl, .same rfl, rfl, .same rfl, rfl, .same rfl, rfl, .same rfl, rfl, .same rfl, rfl, .same rfl, rfl, .same rfl, rfl, .same rfl, rfl, .same rfl, rfl, .same rfl, rfl, .same rfl, rfl, .same rfl, rfl, .same rfl, rfl, .same rfl, rfl, .same rfl, rfl, .same rfl, rfl, .same rfl, rfl, trivial⟩, ⟨rfl, rfl, rfl, .same rfl, rfl, .same rfl, rfl, .same rfl, rfl, .same rfl, rfl, .same rfl, rfl, .same rfl, rfl, .same rfl, rfl, .same rfl, rfl, .same rfl, rfl, .same rfl, rfl, .same rfl, rfl, .same rfl, rfl, .same rfl, rfl, .same rfl, rfl, .same rfl, rfl, .same rfl, rfl, .same rfl, rfl, .same rfl, rfl, .same rfl, rfl, .same rfl, rfl, .same rfl, rfl, .same rfl, rfl, .same rfl, rfl, .same rfl, rfl, trivial⟩, trivial⟩ rfl rfl) fun s' h => ⟨m - 1, by omega, k + 1, _, t, _, by omega, p3, h⟩
                  · refine .mk 4 rfl (by decide) ?_
                    conv => whnf
                    repeat (first | (refine Conf.mk (by kernel_rfl) ?_; conv => whnf) | (refine SeqOk.go ?_; conv => whnf))
                    refine .mk 0 rfl (by decide) ?_
                    conv => whnf
                    repeat (first | (refine Conf.mk (by kernel_rfl) ?_; conv => whnf) | (refine SeqOk.go ?_; conv => whnf))
                    obtain ⟨s, hs⟩ := hget 0 (by decide)
                    have hbn : bitOf (colN cs 4) 0 = true := by rw [hcc]; exact hb
                    have hsr := hI.right 0 s hs
                    have hso := right_ok hsr
                    by_cases hf0 : 0 < f 4 0
                    · refine BoolCase.yes (by simpa using hf0) ?_
                      conv => whnf
                      repeat (first | (refine Conf.mk (by kernel_rfl) ?_; conv => whnf) | (refine SeqOk.go ?_; conv => whnf))
                      exact Into.mono (Into.to [0, 1, 2] [(8, dInt (k + 1 : Nat)), (5, .row 0), (6, .ptr 1 0), (7, .ptr 2 0), (0, .dat (.list (cs.map encI))), (1, .dat (.list (ss.map encI)))] [(0, .rows 43 3 (cur.map Sv.enc) true), (1, .vars 58 24 [dInt (t 0 0), dInt (t 0 1), dInt (t 0 2), dInt (t 1 0), dInt (t 1 1), dInt (t 1 2), dInt (t 2 0), dInt (t 2 1), dInt (t 2 2), dInt (t 3 0), dInt (t 3 1), dInt (t 3 2), dInt (t 4 0), dInt (t 4 1), dInt (t 4 2), dInt (t 5 0), dInt (t 5 1), dInt (t 5 2), dInt (t 6 0), dInt (t 6 1), dInt (t 6 2), dInt (t 7 0), dInt (t 7 1), dInt (t 7 2)] true), (2, .vars 58 24 [dInt (f 0 0), dInt (f 0 1), dInt (f 0 2), dInt (f 1 0), dInt (f 1 1), dInt (f 1 2), dInt (f 2 0), dInt (f 2 1), dInt (f 2 2), dInt (f 3 0), dInt (f 3 1), dInt (f 3 2), dInt (f 4 0), dInt (f 4 1), dInt (f 4 2), dInt (f 5 0), dInt (f 5 1), dInt (f 5 2), dInt (f 6 0), dInt (f 6 1), dInt (f 6 2), dInt (f 7 0), dInt (f 7 1), dInt (f 7 2)] true)] (by repeat (first | exact trivial | refine ⟨.same (congrArg dInt (wrap_up (by omega))), ?_⟩ | refine ⟨.same rfl, ?_⟩ | refine ⟨.any _, ?_⟩)) ⟨⟨rfl, rfl, rfl, rfl⟩, ⟨rfl, rfl, rfl, .same rfl, rfl, .same rfl, rfl, .same rfl, rfl, .same rfl, rfl, .same rfl, rfl, .same rfl, rfl, .same rfl, rfl, .same rfl, rfl, .same rfl, rfl, .same rfl, rfl, .same rfl, rfl, .same rfl, rfl, .same rfl, rfl, .same rfl, rfl, .same rfl, rfl, .same rfl, rfl, .same rfl, rfl, .same rfl, rfl, .same rfl, rfl, .same rfl, rfl, .same rfl, rfl, .same rfl, rfl, .same rfl, rfl, .same rfl, rfl, trivial⟩, ⟨rfl, rfl, rfl, .same rfl, rfl, .same rfl, rfl, .same rfl, rfl, .same rfl, rfl, .same rfl, rfl, .same rfl, rfl, .same rfl, rfl, .same rfl, rfl, .same rfl, rfl, .same rfl, rfl, .same rfl, rfl, .same rfl, rfl, .same rfl, rfl, .same rfl, rfl, .same rfl, rfl, .same rfl, rfl, .same rfl, rfl, .same rfl, rfl, .same rfl, rfl, .same rfl, rfl, .same rfl, rfl, .same rfl, rfl, .same rfl, rfl, .same rfl, rfl, trivial⟩, trivial⟩ rfl rfl) fun s' h => ⟨m - 1, by omega, k + 1, cur, t, f, by omega, hI, h⟩
                    · refine BoolCase.no (by simpa using hf0) ?_
                      conv => whnf
                      repeat (first | (refine Conf.mk (by kernel_rfl) ?_; conv => whnf) | (refine SeqOk.go ?_; conv => whnf))
                      simp only
                      refine .mk 4 rfl (by decide) ?_
                      conv => whnf
                      repeat (first | (refine Conf.mk (by kernel_rfl) ?_; conv => whnf) | (refine SeqOk.go ?_; conv => whnf))
                      refine .mk 0 rfl (by decide) ?_
                      conv => whnf
                      repeat (first | (refine Conf.mk (by kernel_rfl) ?_; conv => whnf) | (refine SeqOk.go ?_; conv => whnf))
                      by_cases ht0 : t 4 0 = 0
                      · obtain ⟨p1, p2, p3⟩ := hI.prop hs (by decide) (by decide) (by decide) hbn ht0
                        refine BoolCase.yes (by simpa using ht0) ?_
                        conv => whnf
                        repeat (first | (refine Conf.mk (by kernel_rfl) ?_; conv => whnf) | (refine SeqOk.go ?_; conv => whnf))
                        refine atS rfl hs ?_
                        conv => whnf
                        repeat (first | (refine Conf.mk (by kernel_rfl) ?_; conv => whnf) | (refine SeqOk.go ?_; conv => whnf))
                        refine elS hs ?_
                        conv => whnf
                        repeat (first | (refine Conf.mk (by kernel_rfl) ?_; conv => whnf) | (refine SeqOk.go ?_; conv => whnf))
                        refine .data _ _ (sprop_ok s (4 : Nat) hso.1 hso.2) rfl ?_
                        conv => whnf
                        repeat (first | (refine Conf.mk (by kernel_rfl) ?_; conv => whnf) | (refine SeqOk.go ?_; conv => whnf))
                        simp only
                        refine BoolCase.no (by rw [p1]; rfl) ?_
                        conv => whnf
                        repeat (first | (refine Conf.mk (by kernel_rfl) ?_; conv => whnf) | (refine SeqOk.go ?_; conv => whnf))
                        refine BoolCase.no (by simp; omega) ?_
                        conv => whnf
                        repeat (first | (refine Conf.mk (by kernel_rfl) ?_; conv => whnf) | (refine SeqOk.go ?_; conv => whnf))
                        simp only
                        refine atS rfl hs ?_
                        conv => whnf
                        repeat (first | (refine Conf.mk (by kernel_rfl) ?_; conv => whnf) | (refine SeqOk.go ?_; conv => whnf))
                        refine elS hs ?_
                        conv => whnf
                        repeat (first | (refine Conf.mk (by kernel_rfl) ?_; conv => whnf) | (refine SeqOk.go ?_; conv => whnf))
                        refine .mk 4 rfl (by decide) ?_
                        conv => whnf
                        repeat (first | (refine Conf.mk (by kernel_rfl) ?_; conv => whnf) | (refine SeqOk.go ?_; conv => whnf))
                        refine .mk 0 rfl (by decide) ?_
                        conv => whnf
                        repeat (first | (refine Conf.mk (by kernel_rfl) ?_; conv => whnf) | (refine SeqOk.go ?_; conv => whnf))
                        simp only
                        generalize s.propR ((4 : Nat) : Int) = x at p2 p3
                        exact Into.mono (Into.to [0, 1, 2] [(8, dInt (k + 1 : Nat)), (5, .row 0), (6, .ptr 1 0), (7, .ptr 2 0), (0, .dat (.list (cs.map encI))), (1, .dat (.list (ss.map encI)))] [(0, .rows 43 3 ((cur.set 0 x).map Sv.enc) true), (1, .vars 58 24 [dInt (upd t 4 0 x.clock 0 0), dInt (upd t 4 0 x.clock 0 1), dInt (upd t 4 0 x.clock 0 2), dInt (upd t 4 0 x.clock 1 0), dInt (upd t 4 0 x.clock 1 1), dInt (upd t 4 0 x.clock 1 2), dInt (upd t 4 0 x.clock 2 0), dInt (upd t 4 0 x.clock 2 1), dInt (upd t 4 0 x.clock 2 2), dInt (upd t 4 0 x.clock 3 0), dInt (upd t 4 0 x.clock 3 1), dInt (upd t 4 0 x.clock 3 2), dInt (upd t 4 0 x.clock 4 0), dInt (upd t 4 0 x.clock 4 1), dInt (upd t 4 0 x.clock 4 2), dInt (upd t 4 0 x.clock 5 0), dInt (upd t 4 0 x.clock 5 1), dInt (upd t 4 0 x.clock 5 2), dInt (upd t 4 0 x.clock 6 0), dInt (upd t 4 0 x.clock 6 1), dInt (upd t 4 0 x.clock 6 2), dInt (upd t 4 0 x.clock 7 0), dInt (upd t 4 0 x.clock 7 1), dInt (upd t 4 0 x.clock 7 2)] true), (2, .vars 58 24 [dInt (f 0 0), dInt (f 0 1), dInt (f 0 2), dInt (f 1 0), dInt (f 1 1), dInt (f 1 2), dInt (f 2 0), dInt (f 2 1), dInt (f 2 2), dInt (f 3 0), dInt (f 3 1), dInt (f 3 2), dInt (f 4 0), dInt (f 4 1), dInt (f 4 2), dInt (f 5 0), dInt (f 5 1), dInt (f 5 2), dInt (f 6 0), dInt (f 6 1), dInt (f 6 2), dInt (f 7 0), dInt (f 7 1), dInt (f 7 2)] true)] (by repeat (first | exact trivial | refine ⟨.same (congrArg dInt (wrap_up (by omega))), ?_⟩ | refine ⟨.same rfl, ?_⟩ | refine ⟨.any _, ?_⟩)) ⟨⟨rfl, rfl, rfl, setS⟩, ⟨rfl, rfl, rfl, .same rfl, rfl, .same rfl, rfl, .same rfl, rfl, .same rfl, rfl, .same rfl, rfl, .same rfl, rfl, .same rfl, rfl, .same rfl, rfl, .same rfl, rfl, .same rfl, rfl, .same rfl, rfl, .same rfl, rfl, .same rfl, rfl, .same rfl, rfl, .same rfl, rfl, .same rfl, rfl, .same rfl, rfl, .same rfl, rfl, .same rfl, rfl, .same rfl, rfl, .same rfl, rfl, .same rfl, rfl, .same rfl, rfl, .same rfl, rfl, trivial⟩, ⟨rfl, rfl, rfl, .same rfl, rfl, .same rfl, rfl, .same rfl, rfl, .same rfl, rfl, .same rfl, rfl, .same rfl, rfl, .same rfl, rfl, .same rfl, rfl, .same rfl, rfl, .same rfl, rfl, .same rfl, rfl, .same rfl, rfl, .same rfl, rfl, .same rfl, rfl, .same rfl, rfl, .same rfl, rfl, .same rfl, rfl, .same rfl, rfl, .same rfl, rfl, .same rfl, rfl, .same rfl, rfl, .same rfl, rfl, .same rfl, rfl, .same rfl, rfl, trivial⟩, trivial⟩ rfl rfl) fun s' h => ⟨m - 1, by omega, k + 1, _, _, f, by omega, p3, h⟩
                      · refine BoolCase.no (by simpa using ht0) ?_
                        conv => whnf
                        repeat (first | (refine Conf.mk (by kernel_rfl) ?_; conv => whnf) | (refine SeqOk.go ?_; conv => whnf))
                        refine .look _ _ (most_ok t 4 c (by decide) (by decide) (by omega)) rfl rfl ?_
                        conv => whnf
                        repeat (first | (refine Conf.mk (by kernel_rfl) ?_; conv => whnf) | (refine SeqOk.go ?_; conv => whnf))
                        simp only
                        cases hmo : (mostV c (t 4)).2
                        · refine BoolCase.no rfl ?_
                          conv => whnf
                          repeat (first | (refine Conf.mk (by kernel_rfl) ?_; conv => whnf) | (refine SeqOk.go ?_; conv => whnf))
                          exact Into.mono (Into.to [0, 1, 2] [(8, dInt (k + 1 : Nat)), (5, .row 0), (6, .ptr 1 0), (7, .ptr 2 0), (0, .dat (.list (cs.map encI))), (1, .dat (.list (ss.map encI)))] [(0, .rows 43 3 (cur.map Sv.enc) true), (1, .vars 58 24 [dInt (t 0 0), dInt (t 0 1), dInt (t 0 2), dInt (t 1 0), dInt (t 1 1), dInt (t 1 2), dInt (t 2 0), dInt (t 2 1), dInt (t 2 2), dInt (t 3 0), dInt (t 3 1), dInt (t 3 2), dInt (t 4 0), dInt (t 4 1), dInt (t 4 2), dInt (t 5 0), dInt (t 5 1), dInt (t 5 2), dInt (t 6 0), dInt (t 6 1), dInt (t 6 2), dInt (t 7 0), dInt (t 7 1), dInt (t 7 2)] true), (2, .vars 58 24 [dInt (f 0 0), dInt (f 0 1), dInt (f 0 2), dInt (f 1 0), dInt (f 1 1), dInt (f 1 2), dInt (f 2 0), dInt (f 2 1), dInt (f 2 2), dInt (f 3 0), dInt (f 3 1), dInt (f 3 2), dInt (f 4 0), dInt (f 4 1), dInt (f 4 2), dInt (f 5 0), dInt (f 5 1), dInt (f 5 2), dInt (f 6 0), dInt (f 6 1), dInt (f 6 2), dInt (f 7 0), dInt (f 7 1), dInt (f 7 2)] true)] (by repeat (first | exact trivial | refine ⟨.same (congrArg dInt (wrap_up (by omega))), ?_⟩ | refine ⟨.same rfl, ?_⟩ | refine ⟨.any _, ?_⟩)) ⟨⟨rfl, rfl, rfl, rfl⟩, ⟨rfl, rfl, rfl, .same rfl, rfl, .same rfl, rfl, .same rfl, rfl, .same rfl, rfl, .same rfl, rfl, .same rfl, rfl, .same rfl, rfl, .same rfl, rfl, .same rfl, rfl, .same rfl, rfl, .same rfl, rfl, .same rfl, rfl, .same rfl, rfl, .same rfl, rfl, .same rfl, rfl, .same rfl, rfl, .same rfl, rfl, .same rfl, rfl, .same rfl, rfl, .same rfl, rfl, .same rfl, rfl, .same rfl, rfl, .same rfl, rfl, .same rfl, rfl, trivial⟩, ⟨rfl, rfl, rfl, .same rfl, rfl, .same rfl, rfl, .same rfl, rfl, .same rfl, rfl, .same rfl, rfl, .same rfl, rfl, .same rfl, rfl, .same rfl, rfl, .same rfl, rfl, .same rfl, rfl, .same rfl, rfl, .same rfl, rfl, .same rfl, rfl, .same rfl, rfl, .same rfl, rfl, .same rfl, rfl, .same rfl, rfl, .same rfl, rfl, .same rfl, rfl, .same rfl, rfl, .same rfl, rfl, .same rfl, rfl, .same rfl, rfl, .same rfl, rfl, trivial⟩, trivial⟩ rfl rfl) fun s' h => ⟨m - 1, by omega, k + 1, cur, t, f, by omega, hI, h⟩
                        · have hmv : mostV (colN cs 4) (t 4) = ((mostV c (t 4)).1, true) := by rw [hcc, ← hmo]
                          obtain ⟨p1, p2, p3⟩ := hI.comm hs (by decide) (by decide) (by decide) hbn ht0 hf0 hmv
                          have hso2 := right_ok (right_of_err p2)
                          generalize (mostV c (t 4)).1 = T at p1 p2 p3 hso2
                          refine BoolCase.yes rfl ?_
                          conv => whnf
                          repeat (first | (refine Conf.mk (by kernel_rfl) ?_; conv => whnf) | (refine SeqOk.go ?_; conv => whnf))
                          refine atS rfl hs ?_
                          conv => whnf
                          repeat (first | (refine Conf.mk (by kernel_rfl) ?_; conv => whnf) | (refine SeqOk.go ?_; conv => whnf))
                          refine elS hs ?_
                          conv => whnf
                          repeat (first | (refine Conf.mk (by kernel_rfl) ?_; conv => whnf) | (refine SeqOk.go ?_; conv => whnf))
                          refine .data _ _ (scomm_ok s (4 : Nat) T hso.1 hso.2) rfl ?_
                          conv => whnf
                          repeat (first | (refine Conf.mk (by kernel_rfl) ?_; conv => whnf) | (refine SeqOk.go ?_; conv => whnf))
                          simp only
                          refine BoolCase.no (by rw [p1]; rfl) ?_
                          conv => whnf
                          repeat (first | (refine Conf.mk (by kernel_rfl) ?_; conv => whnf) | (refine SeqOk.go ?_; conv => whnf))
                          refine .data _ _ (scheck_ok (s.commR ((4 : Nat) : Int) T) hso2.1 hso2.2) rfl ?_
                          conv => whnf
                          repeat (first | (refine Conf.mk (by kernel_rfl) ?_; conv => whnf) | (refine SeqOk.go ?_; conv => whnf))
                          refine BoolCase.no (by rw [p2]; rfl) ?_
                          conv => whnf
                          repeat (first | (refine Conf.mk (by kernel_rfl) ?_; conv => whnf) | (refine SeqOk.go ?_; conv => whnf))
                          simp only
                          refine atS rfl hs ?_
                          conv => whnf
                          repeat (first | (refine Conf.mk (by kernel_rfl) ?_; conv => whnf) | (refine SeqOk.go ?_; conv => whnf))
                          refine elS hs ?_
                          conv => whnf
                          repeat (first | (refine Conf.mk (by kernel_rfl) ?_; conv => whnf) | (refine SeqOk.go ?_; conv => whnf))
                          refine .mk 4 rfl (by decide) ?_
                          conv => whnf
                          repeat (first | (refine Conf.mk (by kernel_rfl) ?_; conv => whnf) | (refine SeqOk.go ?_; conv => whnf))
                          refine .mk 0 rfl (by decide) ?_
                          conv => whnf
                          repeat (first | (refine Conf.mk (by kernel_rfl) ?_; conv => whnf) | (refine SeqOk.go ?_; conv => whnf))
                          simp only
                          generalize s.commR ((4 : Nat) : Int) T = x at p3
                          exact Into.mono (Into.to [0, 1, 2] [(8, dInt (k + 1 : Nat)), (5, .row 0), (6, .ptr 1 0), (7, .ptr 2 0), (0, .dat (.list (cs.map encI))), (1, .dat (.list (ss.map encI)))] [(0, .rows 43 3 ((cur.set 0 x).map Sv.enc) true), (1, .vars 58 24 [dInt (t 0 0), dInt (t 0 1), dInt (t 0 2), dInt (t 1 0), dInt (t 1 1), dInt (t 1 2), dInt (t 2 0), dInt (t 2 1), dInt (t 2 2), dInt (t 3 0), dInt (t 3 1), dInt (t 3 2), dInt (t 4 0), dInt (t 4 1), dInt (t 4 2), dInt (t 5 0), dInt (t 5 1), dInt (t 5 2), dInt (t 6 0), dInt (t 6 1), dInt (t 6 2), dInt (t 7 0), dInt (t 7 1), dInt (t 7 2)] true), (2, .vars 58 24 [dInt (upd f 4 0 T 0 0), dInt (upd f 4 0 T 0 1), dInt (upd f 4 0 T 0 2), dInt (upd f 4 0 T 1 0), dInt (upd f 4 0 T 1 1), dInt (upd f 4 0 T 1 2), dInt (upd f 4 0 T 2 0), dInt (upd f 4 0 T 2 1), dInt (upd f 4 0 T 2 2), dInt (upd f 4 0 T 3 0), dInt (upd f 4 0 T 3 1), dInt (upd f 4 0 T 3 2), dInt (upd f 4 0 T 4 0), dInt (upd f 4 0 T 4 1), dInt (upd f 4 0 T 4 2), dInt (upd f 4 0 T 5 0), dInt (upd f 4 0 T 5 1), dInt (upd f 4 0 T 5 2), dInt (upd f 4 0 T 6 0), dInt (upd f 4 0 T 6 1), dInt (upd f 4 0 T 6 2), dInt (upd f 4 0 T 7 0), dInt (upd f 4 0 T 7 1), dInt (upd f 4 0 T 7 2)] true)] (by repeat (first | exact trivial | refine ⟨.same (congrArg dInt (wrap_up (by omega))), ?_⟩ | refine ⟨.same rfl, ?_⟩ | refine ⟨.any _, ?_⟩)) ⟨⟨rfl, rfl, rfl, setS⟩, ⟨rfl, rfl, rfl, .same rfl, rfl, .same rfl, rfl, .same rfl, rfl, .same rfl, rfl, .same rfl, rfl, .same rfl, rfl, .same rfl, rfl, .same rfl, rfl, .same rfl, rfl, .same rfl, rfl, .same rfl, rfl, .same rfl, rfl, .same rfl, rfl, .same rfl, rfl, .same rfl, rfl, .same rfl, rfl, .same rfl, rfl, .same rfl, rfl, .same rfl, rfl, .same rfl, rfl, .same rfl, rfl, .same rfl, rfl, .same rfl, rfl, .same rfl, rfl, trivial⟩, ⟨rfl, rfl, rfl, .same rfl, rfl, .same rfl, rfl, .same rfl, rfl, .same rfl, rfl, .same rfl, rfl, .same rfl, rfl, .same rfl, rfl, .same rfl, rfl, .same rfl, rfl, .same rfl, rfl, .same rfl, rfl, .same rfl, rfl, .same rfl, rfl, .same rfl, rfl, .same rfl, rfl, .same rfl, rfl, .same rfl, rfl, .same rfl, rfl, .same rfl, rfl, .same rfl, rfl, .same rfl, rfl, .same rfl, rfl, .same rfl, rfl, .same rfl, rfl, trivial⟩, trivial⟩ rfl rfl) fun s' h => ⟨m - 1, by omega, k + 1, _, t, _, by omega, p3, h⟩
                  · refine .mk 4 rfl (by decide) ?_
                    conv => whnf
                    repeat (first | (refine Conf.mk (by kernel_rfl) ?_; conv => whnf) | (refine SeqOk.go ?_; conv => whnf))
                    refine .mk 1 rfl (by decide) ?_
                    conv => whnf
                    repeat (first | (refine Conf.mk (by kernel_rfl) ?_; conv => whnf) | (refine SeqOk.go ?_; conv => whnf))
                    obtain ⟨s, hs⟩ := hget 1 (by decide)
                    have hbn : bitOf (colN cs 4) 1 = true := by rw [hcc]; exact hb
                    have hsr := hI.right 1 s hs
                    have hso := right_ok hsr
                    by_cases hf0 : 0 < f 4 1
                    · refine BoolCase.yes (by simpa using hf0) ?_
                      conv => whnf
                      repeat (first | (refine Conf.mk (by kernel_rfl) ?_; conv => whnf) | (refine SeqOk.go ?_; conv => whnf))
                      exact Into.mono (Into.to [0, 1, 2] [(8, dInt (k + 1 : Nat)), (5, .row 0), (6, .ptr 1 0), (7, .ptr 2 0), (0, .dat (.list (cs.map encI))), (1, .dat (.list (ss.map encI)))] [(0, .rows 43 3 (cur.map Sv.enc) true), (1, .vars 58 24 [dInt (t 0 0), dInt (t 0 1), dInt (t 0 2), dInt (t 1 0), dInt (t 1 1), dInt (t 1 2), dInt (t 2 0), dInt (t 2 1), dInt (t 2 2), dInt (t 3 0), dInt (t 3 1), dInt (t 3 2), dInt (t 4 0), dInt (t 4 1), dInt (t 4 2), dInt (t 5 0), dInt (t 5 1), dInt (t 5 2), dInt (t 6 0), dInt (t 6 1), dInt (t 6 2), dInt (t 7 0), dInt (t 7 1), dInt (t 7 2)] true), (2, .vars 58 24 [dInt (f 0 0), dInt (f 0 1), dInt (f 0 2), dInt (f 1 0), dInt (f 1 1), dInt (f 1 2), dInt (f 2 0), dInt (f 2 1), dInt (f 2 2), dInt (f 3 0), dInt (f 3 1), dInt (f 3 2), dInt (f 4 0), dInt (f 4 1), dInt (f 4 2), dInt (f 5 0), dInt (f 5 1), dInt (f 5 2), dInt (f 6 0), dInt (f 6 1), dInt (f 6 2), dInt (f 7 0), dInt (f 7 1), dInt (f 7 2)] true)] (by repeat (first | exact trivial | refine ⟨.same (congrArg dInt (wrap_up (by omega))), ?_⟩ | refine ⟨.same rfl, ?_⟩ | refine ⟨.any _, ?_⟩)) ⟨⟨rfl, rfl, rfl, rfl⟩, ⟨rfl, rfl, rfl, .same rfl, rfl, .same rfl, rfl, .same rfl, rfl, .same rfl, rfl, .same rfl, rfl, .same rfl, rfl, .same rfl, rfl, .same rfl, rfl, .same rfl, rfl, .same rfl, rfl, .same rfl, rfl, .same rfl, rfl, .same rfl, rfl, .same rfl, rfl, .same rfl, rfl, .same rfl, rfl, .same rfl, rfl, .same rfl, rfl, .same rfl, rfl, .same rfl, rfl, .same rfl, rfl, .same rfl, rfl, .same rfl, rfl, .same rfl, rfl, trivial⟩, ⟨rfl, rfl, rfl, .same rfl, rfl, .same rfl, rfl, .same rfl, rfl, .same rfl, rfl, .same rfl, rfl, .same rfl, rfl, .same rfl, rfl, .same rfl, rfl, .same rfl, rfl, .same rfl, rfl, .same rfl, rfl, .same rfl, rfl, .same rfl, rfl, .same rfl, rfl, .same rfl, rfl, .same rfl, rfl, .same rfl, rfl, .same rfl, rfl, .same rfl, rfl, .same rfl, rfl, .same rfl, rfl, .same rfl, rfl, .same rfl, rfl, .same rfl, rfl, trivial⟩, trivial⟩ rfl rfl) fun s' h => ⟨m - 1, by omega, k + 1, cur, t, f, by omega, hI, h⟩
                    · refine BoolCase.no (by simpa using hf0) ?_
                      conv => whnf
                      repeat (first | (refine Conf.mk (by kernel_rfl) ?_; conv => whnf) | (refine SeqOk.go ?_; conv => whnf))
                      simp only
                      refine .mk 4 rfl (by decide) ?_
                      conv => whnf
                      repeat (first | (refine Conf.mk (by kernel_rfl) ?_; conv => whnf) | (refine SeqOk.go ?_; conv => whnf))
                      refine .mk 1 rfl (by decide) ?_
                      conv => whnf
                      repeat (first | (refine Conf.mk (by kernel_rfl) ?_; conv => whnf) | (refine SeqOk.go ?_; conv => whnf))
                      by_cases ht0 : t 4 1 = 0
                      · obtain ⟨p1, p2, p3⟩ := hI.prop hs (by decide) (by decide) (by decide) hbn ht0
                        refine BoolCase.yes (by simpa using ht0) ?_
                        conv => whnf
                        repeat (first | (refine Conf.mk (by kernel_rfl) ?_; conv => whnf) | (refine SeqOk.go ?_; conv => whnf))
                        refine atS rfl hs ?_
                        conv => whnf
                        repeat (first | (refine Conf.mk (by kernel_rfl) ?_; conv => whnf) | (refine SeqOk.go ?_; conv => whnf))
                        refine elS hs ?_
                        conv => whnf
                        repeat (first | (refine Conf.mk (by kernel_rfl) ?_; conv => whnf) | (refine SeqOk.go ?_; conv => whnf))
                        refine .data _ _ (sprop_ok s (4 : Nat) hso.1 hso.2) rfl ?_
                        conv => whnf
                        repeat (first | (refine Conf.mk (by kernel_rfl) ?_; conv => whnf) | (refine SeqOk.go ?_; conv => whnf))
                        simp only
                        refine BoolCase.no (by rw [p1]; rfl) ?_
                        conv => whnf
                        repeat (first | (refine Conf.mk (by kernel_rfl) ?_; conv => whnf) | (refine SeqOk.go ?_; conv => whnf))
                        refine BoolCase.no (by simp; omega) ?_
                        conv => whnf
                        repeat (first | (refine Conf.mk (by kernel_rfl) ?_; conv => whnf) | (refine SeqOk.go ?_; conv => whnf))
                        simp only
                        refine atS rfl hs ?_
                        conv => whnf
                        repeat (first | (refine Conf.mk (by kernel_rfl) ?_; conv => whnf) | (refine SeqOk.go ?_; conv => whnf))
                        refine elS hs ?_
                        conv => whnf
                        repeat (first | (refine Conf.mk (by kernel_rfl) ?_; conv => whnf) | (refine SeqOk.go ?_; conv => whnf))
                        refine .mk 4 rfl (by decide) ?_
                        conv => whnf
                        repeat (first | (refine Conf.mk (by kernel_rfl) ?_; conv => whnf) | (refine SeqOk.go ?_; conv => whnf))
                        refine .mk 1 rfl (by decide) ?_
                        conv => whnf
                        repeat (first | (refine Conf.mk (by kernel_rfl) ?_; conv => whnf) | (refine SeqOk.go ?_; conv => whnf))
                        simp only
                        generalize s.propR ((4 : Nat) : Int) = x at p2 p3
                        exact Into.mono (Into.to [0, 1, 2] [(8, dInt (k + 1 : Nat)), (5, .row 0), (6, .ptr 1 0), (7, .ptr 2 0), (0, .dat (.list (cs.map encI))), (1, .dat (.list (ss.map encI)))] [(0, .rows 43 3 ((cur.set 1 x).map Sv.enc) true), (1, .vars 58 24 [dInt (upd t 4 1 x.clock 0 0), dInt (upd t 4 1 x.clock 0 1), dInt (upd t 4 1 x.clock 0 2), dInt (upd t 4 1 x.clock 1 0), dInt (upd t 4 1 x.clock 1 1), dInt (upd t 4 1 x.clock 1 2), dInt (upd t 4 1 x.clock 2 0), dInt (upd t 4 1 x.clock 2 1), dInt (upd t 4 1 x.clock 2 2), dInt (upd t 4 1 x.clock 3 0), dInt (upd t 4 1 x.clock 3 1), dInt (upd t 4 1 x.clock 3 2), dInt (upd t 4 1 x.clock 4 0), dInt (upd t 4 1 x.clock 4 1), dInt (upd t 4 1 x.clock 4 2), dInt (upd t 4 1 x.clock 5 0), dInt (upd t 4 1 x.clock 5 1), dInt (upd t 4 1 x.clock 5 2), dInt (upd t 4 1 x.clock 6 0), dInt (upd t 4 1 x.clock 6 1), dInt (upd t 4 1 x.clock 6 2), dInt (upd t 4 1 x.clock 7 0), dInt (upd t 4 1 x.clock 7 1), dInt (upd t 4 1 x.clock 7 2)] true), (2, .vars 58 24 [dInt (f 0 0), dInt (f 0 1), dInt (f 0 2), dInt (f 1 0), dInt (f 1 1), dInt (f 1 2), dInt (f 2 0), dInt (f 2 1), dInt (f 2 2), dInt (f 3 0), dInt (f 3 1), dInt (f 3 2), dInt (f 4 0), dInt (f 4 1), dInt (f 4 2), dInt (f 5 0), dInt (f 5 1), dInt (f 5 2), dInt (f 6 0), dInt (f 6 1), dInt (f 6 2), dInt (f 7 0), dInt (f 7 1), dInt (f 7 2)] true)] (by repeat (first | exact trivial | refine ⟨.same (congrArg dInt (wrap_up (by omega))), ?_⟩ | refine ⟨.same rfl, ?_⟩ | refine ⟨.any _, ?_⟩)) ⟨⟨rfl, rfl, rfl, setS⟩, ⟨rfl, rfl, rfl, .same rfl, rfl, .same rfl, rfl, .same rfl, rfl, .same rfl, rfl, .same rfl, rfl, .same rfl, rfl, .same rfl, rfl, .same rfl, rfl, .same rfl, rfl, .same rfl, rfl, .same rfl, rfl, .same rfl, rfl, .same rfl, rfl, .same rfl, rfl, .same rfl, rfl, .same rfl, rfl, .same rfl, rfl, .same rfl, rfl, .same rfl, rfl, .same rfl, rfl, .same rfl, rfl, .same rfl, rfl, .same rfl, rfl, .same rfl, rfl, trivial⟩, ⟨rfl, rfl, rfl, .same rfl, rfl, .same rfl, rfl, .same rfl, rfl, .same rfl, rfl, .same rfl, rfl, .same rfl, rfl, .same rfl, rfl, .same rfl, rfl, .same rfl, rfl, .same rfl, rfl, .same rfl, rfl, .same rfl, rfl, .same rfl, rfl, .same rfl, rfl, .same rfl, rfl, .same rfl, rfl, .same rfl, rfl, .same rfl, rfl, .same rfl, rfl, .same rfl, rfl, .same rfl, rfl, .same rfl, rfl, .same rfl, rfl, .same rfl, rfl, trivial⟩, trivial⟩ rfl rfl) fun s' h => ⟨m - 1, by omega, k + 1, _, _, f, by omega, p3, h⟩
                      · refine BoolCase.no (by simpa using ht0) ?_
                        conv => whnf
                        repeat (first | (refine Conf.mk (by kernel_rfl) ?_; conv => whnf) | (refine SeqOk.go ?_; conv => whnf))
                        refine .look _ _ (most_ok t 4 c (by decide) (by decide) (by omega)) rfl rfl ?_
                        conv => whnf
                        repeat (first | (refine Conf.mk (by kernel_rfl) ?_; conv => whnf) | (refine SeqOk.go ?_; conv => whnf))
                        simp only
                        cases hmo : (mostV c (t 4)).2
                        · refine BoolCase.no rfl ?_
                          conv => whnf
                          repeat (first | (refine Conf.mk (by kernel_rfl) ?_; conv => whnf) | (refine SeqOk.go ?_; conv => whnf))
                          exact Into.mono (Into.to [0, 1, 2] [(8, dInt (k + 1 : Nat)), (5, .row 0), (6, .ptr 1 0), (7, .ptr 2 0), (0, .dat (.list (cs.map encI))), (1, .dat (.list (ss.map encI)))] [(0, .rows 43 3 (cur.map Sv.enc) true), (1, .vars 58 24 [dInt (t 0 0), dInt (t 0 1), dInt (t 0 2), dInt (t 1 0), dInt (t 1 1), dInt (t 1 2), dInt (t 2 0), dInt (t 2 1), dInt (t 2 2), dInt (t 3 0), dInt (t 3 1), dInt (t 3 2), dInt (t 4 0), dInt (t 4 1), dInt (t 4 2), dInt (t 5 0), dInt (t 5 1), dInt (t 5 2), dInt (t 6 0), dInt (t 6 1), dInt (t 6 2), dInt (t 7 0), dInt (t 7 1), dInt (t 7 2)] true), (2, .vars 58 24 [dInt (f 0 0), dInt (f 0 1), dInt (f 0 2), dInt (f 1 0), dInt (f 1 1), dInt (f 1 2), dInt (f 2 0), dInt (f 2 1), dInt (f 2 2), dInt (f 3 0), dInt (f 3 1), dInt (f 3 2), dInt (f 4 0), dInt (f 4 1), dInt (f 4 2), dInt (f 5 0), dInt (f 5 1), dInt (f 5 2), dInt (f 6 0), dInt (f 6 1), dInt (f 6 2), dInt (f 7 0), dInt (f 7 1), dInt (f 7 2)] true)] (by repeat (first | exact trivial | refine ⟨.same (congrArg dInt (wrap_up (by omega))), ?_⟩ | refine ⟨.same rfl, ?_⟩ | refine ⟨.any _, ?_⟩)) ⟨⟨rfl, rfl, rfl, rfl⟩, ⟨rfl, rfl, rfl, .same rfl, rfl, .same rfl, rfl, .same rfl, rfl, .same rfl, rfl, .same rfl, rfl, .same rfl, rfl, .same rfl, rfl, .same rfl, rfl, .same rfl, rfl, .same rfl, rfl, .same rfl, rfl, .same rfl, rfl, .same rfl, rfl, .same rfl, rfl, .same rfl, rfl, .same rfl, rfl, .same rfl, rfl, .same rfl, rfl, .same rfl, rfl, .same rfl, rfl, .same rfl, rfl, .same rfl, rfl, .same rfl, rfl, .same rfl, rfl, trivial⟩, ⟨rfl, rfl, rfl, .same rfl, rfl, .same rfl, rfl, .same rfl, rfl, .same rfl, rfl, .same rfl, rfl, .same rfl, rfl, .same rfl, rfl, .same rfl, rfl, .same rfl, rfl, .same rfl, rfl, .same rfl, rfl, .same rfl, rfl, .same rfl, rfl, .same rfl, rfl, .same rfl, rfl, .same rfl, rfl, .same rfl, rfl, .same rfl, rfl, .same rfl, rfl, .same rfl, rfl, .same rfl, rfl, .same rfl, rfl, .same rfl, rfl, .same rfl, rfl, trivial⟩, trivial⟩ rfl rfl) fun s' h => ⟨m - 1, by omega, k + 1, cur, t, f, by omega, hI, h⟩
                        · have hmv : mostV (colN cs 4) (t 4) = ((mostV c (t 4)).1, true) := by rw [hcc, ← hmo]
                          obtain ⟨p1, p2, p3⟩ := hI.comm hs (by decide) (by decide) (by decide) hbn ht0 hf0 hmv
                          have hso2 := right_ok (right_of_err p2)
                          generalize (mostV c (t 4)).1 = T at p1 p2 p3 hso2
                          refine BoolCase.yes rfl ?_
                          conv => whnf
                          repeat (first | (refine Conf.mk (by kernel_rfl) ?_; conv => whnf) | (refine SeqOk.go ?_; conv => whnf))
                          refine atS rfl hs ?_
                          conv => whnf
                          repeat (first | (refine Conf.mk (by kernel_rfl) ?_; conv => whnf) | (refine SeqOk.go ?_; conv => whnf))
                          refine elS hs ?_
                          conv => whnf
                          repeat (first | (refine Conf.mk (by kernel_rfl) ?_; conv => whnf) | (refine SeqOk.go ?_; conv => whnf))
                          refine .data _ _ (scomm_ok s (4 : Nat) T hso.1 hso.2) rfl ?_
                          conv => whnf
                          repeat (first | (refine Conf.mk (by kernel_rfl) ?_; conv => whnf) | (refine SeqOk.go ?_; conv => whnf))
                          simp only
                          refine BoolCase.no (by rw [p1]; rfl) ?_
                          conv => whnf
                          repeat (first | (refine Conf.mk (by kernel_rfl) ?_; conv => whnf) | (refine SeqOk.go ?_; conv => whnf))
                          refine .data _ _ (scheck_ok (s.commR ((4 : Nat) : Int) T) hso2.1 hso2.2) rfl ?_
                          conv => whnf
                          repeat (first | (refine Conf.mk (by kernel_rfl) ?_; conv => whnf) | (refine SeqOk.go ?_; conv => whnf))
                          refine BoolCase.no (by rw [p2]; rfl) ?_
                          conv => whnf
                          repeat (first | (refine Conf.mk (by kernel_rfl) ?_; conv => whnf) | (refine SeqOk.go ?_; conv => whnf))
                          simp only
                          refine atS rfl hs ?_
                          conv => whnf
                          repeat (first | (refine Conf.mk (by kernel_rfl) ?_; conv => whnf) | (refine SeqOk.go ?_; conv => whnf))
                          refine elS hs ?_
                          conv => whnf
                          repeat (first | (refine Conf.mk (by kernel_rfl) ?_; conv => whnf) | (refine SeqOk.go ?_; conv => whnf))
                          refine .mk 4 rfl (by decide) ?_
                          conv => whnf
                          repeat (first | (refine Conf.mk (by kernel_rfl) ?_; conv => whnf) | (refine SeqOk.go ?_; conv => whnf))
                          refine .mk 1 rfl (by decide) ?_
                          conv => whnf
                          repeat (first | (refine Conf.mk (by kernel_rfl) ?_; conv => whnf) | (refine SeqOk.go ?_; conv => whnf))
                          simp only
                          generalize s.commR ((4 : Nat) : Int) T = x at p3
                          exact Into.mono (Into.to [0, 1, 2] [(8, dInt (k + 1 : Nat)), (5, .row 0), (6, .ptr 1 0), (7, .ptr 2 0), (0, .dat (.list (cs.map encI))), (1, .dat (.list (ss.map encI)))] [(0, .rows 43 3 ((cur.set 1 x).map Sv.enc) true), (1, .vars 58 24 [dInt (t 0 0), dInt (t 0 1), dInt (t 0 2), dInt (t 1 0), dInt (t 1 1), dInt (t 1 2), dInt (t 2 0), dInt (t 2 1), dInt (t 2 2), dInt (t 3 0), dInt (t 3 1), dInt (t 3 2), dInt (t 4 0), dInt (t 4 1), dInt (t 4 2), dInt (t 5 0), dInt (t 5 1), dInt (t 5 2), dInt (t 6 0), dInt (t 6 1), dInt (t 6 2), dInt (t 7 0), dInt (t 7 1), dInt (t 7 2)] true), (2, .vars 58 24 [dInt (upd f 4 1 T 0 0), dInt (upd f 4 1 T 0 1), dInt (upd f 4 1 T 0 2), dInt (upd f 4 1 T 1 0), dInt (upd f 4 1 T 1 1), dInt (upd f 4 1 T 1 2), dInt (upd f 4 1 T 2 0), dInt (upd f 4 1 T 2 1), dInt (upd f 4 1 T 2 2), dInt (upd f 4 1 T 3 0), dInt (upd f 4 1 T 3 1), dInt (upd f 4 1 T 3 2), dInt (upd f 4 1 T 4 0), dInt (upd f 4 1 T 4 1), dInt (upd f 4 1 T 4 2), dInt (upd f 4 1 T 5 0), dInt (upd f 4 1 T 5 1), dInt (upd f 4 1 T 5 2), dInt (upd f 4 1 T 6 0), dInt (upd f 4 1 T 6 1), dInt (upd f 4 1 T 6 2), dInt (upd f 4 1 T 7 0), dInt (upd f 4 1 T 7 1), dInt (upd f 4 1 T 7 2)] true)] (by repeat (first | exact trivial | refine ⟨.same (congrArg dInt (wrap_up (by omega))), ?_⟩ | refine ⟨.same rfl, ?_⟩ | refine ⟨.any _, ?_⟩)) ⟨⟨rfl, rfl, rfl, setS⟩, ⟨rfl, rfl, rfl, .same rfl, rfl, .same rfl, rfl, .same rfl, rfl, .same rfl, rfl, .same rfl, rfl, .same rfl, rfl, .same rfl, rfl, .same rfl, rfl, .same rfl, rfl, .same rfl, rfl, .same rfl, rfl, .same rfl, rfl, .same rfl, rfl, .same rfl, rfl, .same rfl, rfl, .same rfl, rfl, .same rfl, rfl, .same rfl, rfl, .same rfl, rfl, .same rfl, rfl, .same rfl, rfl, .same rfl, rfl, .same rfl, rfl, .same rfl, rfl, trivial⟩, ⟨rfl, rfl, rfl, .same rfl, rfl, .same rfl, rfl, .same rfl, rfl, .same rfl, rfl, .same rfl, rfl, .same rfl, rfl, .same rfl, rfl, .same rfl, rfl, .same rfl, rfl, .same rfl, rfl, .same rfl, rfl, .same rfl, rfl, .same rfl, rfl, .same rfl, rfl, .same rfl, rfl, .same rfl, rfl, .same rfl, rfl, .same rfl, rfl, .same rfl, rfl, .same rfl, rfl, .same rfl, rfl, .same rfl, rfl, .same rfl, rfl, .same rfl, rfl, trivial⟩, trivial⟩ rfl rfl) fun s' h => ⟨m - 1, by omega, k + 1, _, t, _, by omega, p3, h⟩
                  · refine .mk 4 rfl (by decide) ?_
                    conv => whnf
                    repeat (first | (refine Conf.mk (by kernel_rfl) ?_; conv => whnf) | (refine SeqOk.go ?_; conv => whnf))
                    refine .mk 2 rfl (by decide) ?_
                    conv => whnf
                    repeat (first | (refine Conf.mk (by kernel_rfl) ?_; conv => whnf) | (refine SeqOk.go ?_; conv => whnf))
                    obtain ⟨s, hs⟩ := hget 2 (by decide)
                    have hbn : bitOf (colN cs 4) 2 = true := by rw [hcc]; exact hb
                    have hsr := hI.right 2 s hs
                    have hso := right_ok hsr
                    by_cases hf0 : 0 < f 4 2
                    · refine BoolCase.yes (by simpa using hf0) ?_
                      conv => whnf
                      repeat (first | (refine Conf.mk (by kernel_rfl) ?_; conv => whnf) | (refine SeqOk.go ?_; conv => whnf))
                      exact Into.mono (Into.to [0, 1, 2] [(8, dInt (k + 1 : Nat)), (5, .row 0), (6, .ptr 1 0), (7, .ptr 2 0), (0, .dat (.list (cs.map encI))), (1, .dat (.list (ss.map encI)))] [(0, .rows 43 3 (cur.map Sv.enc) true), (1, .vars 58 24 [dInt (t 0 0), dInt (t 0 1), dInt (t 0 2), dInt (t 1 0), dInt (t 1 1), dInt (t 1 2), dInt (t 2 0), dInt (t 2 1), dInt (t 2 2), dInt (t 3 0), dInt (t 3 1), dInt (t 3 2), dInt (t 4 0), dInt (t 4 1), dInt (t 4 2), dInt (t 5 0), dInt (t 5 1), dInt (t 5 2), dInt (t 6 0), dInt (t 6 1), dInt (t 6 2), dInt (t 7 0), dInt (t 7 1), dInt (t 7 2)] true), (2, .vars 58 24 [dInt (f 0 0), dInt (f 0 1), dInt (f 0 2), dInt (f 1 0), dInt (f 1 1), dInt (f 1 2), dInt (f 2 0), dInt (f 2 1), dInt (f 2 2), dInt (f 3 0), dInt (f 3 1), dInt (f 3 2), dInt (f 4 0), dInt (f 4 1), dInt (f 4 2), dInt (f 5 0), dInt (f 5 1), dInt (f 5 2), dInt (f 6 0), dInt (f 6 1), dInt (f 6 2), dInt (f 7 0), dInt (f 7 1), dInt (f 7 2)] true)] (by repeat (first | exact trivial | refine ⟨.same (congrArg dInt (wrap_up (by omega))), ?_⟩ | refine ⟨.same rfl, ?_⟩ | refine ⟨.any _, ?_⟩)) ⟨⟨rfl, rfl, rfl, rfl⟩, ⟨rfl, rfl, rfl, .same rfl, rfl, .same rfl, rfl, .same rfl, rfl, .same rfl, rfl, .same rfl, rfl, .same rfl, rfl, .same rfl, rfl, .same rfl, rfl, .same rfl, rfl, .same rfl, rfl, .same rfl, rfl, .same rfl, rfl, .same rfl, rfl, .same rfl, rfl, .same rfl, rfl, .same rfl, rfl, .same rfl, rfl, .same rfl, rfl, .same rfl, rfl, .same rfl, rfl, .same rfl, rfl, .same rfl, rfl, .same rfl, rfl, .same rfl, rfl, trivial⟩, ⟨rfl, rfl, rfl, .same rfl, rfl, .same rfl, rfl, .same rfl, rfl, .same rfl, rfl, .same rfl, rfl, .same rfl, rfl, .same rfl, rfl, .same rfl, rfl, .same rfl, rfl, .same rfl, rfl, .same rfl, rfl, .same rfl, rfl, .same rfl, rfl, .same rfl, rfl, .same rfl, rfl, .same rfl, rfl, .same rfl, rfl, .same rfl, rfl, .same rfl, rfl, .same rfl, rfl, .same rfl, rfl, .same rfl, rfl, .same rfl, rfl, .same rfl, rfl, trivial⟩, trivial⟩ rfl rfl) fun s' h => ⟨m - 1, by omega, k + 1, cur, t, f, by omega, hI, h⟩
                    · refine BoolCase.no (by simpa using hf0) ?_
                      conv => whnf
                      repeat (first | (refine Conf.mk (by kernel_rfl) ?_; conv => whnf) | (refine SeqOk.go ?_; conv => whnf))
                      simp only
                      refine .mk 4 rfl (by decide) ?_
                      conv => whnf
                      repeat (first | (refine Conf.mk (by kernel_rfl) ?_; conv => whnf) | (refine SeqOk.go ?_; conv => whnf))
                      refine .mk 2 rfl (by decide) ?_
                      conv => whnf
                      repeat (first | (refine Conf.mk (by kernel_rfl) ?_; conv => whnf) | (refine SeqOk.go ?_; conv => whnf))
                      by_cases ht0 : t 4 2 = 0
                      · obtain ⟨p1, p2, p3⟩ := hI.prop hs (by decide) (by decide) (by decide) hbn ht0
                        refine BoolCase.yes (by simpa using ht0) ?_
                        conv => whnf
                        repeat (first | (refine Conf.mk (by kernel_rfl) ?_; conv => whnf) | (refine SeqOk.go ?_; conv => whnf))
                        refine atS rfl hs ?_
                        conv => whnf
                        repeat (first | (refine Conf.mk (by kernel_rfl) ?_; conv => whnf) | (refine SeqOk.go ?_; conv => whnf))
                        refine elS hs ?_
                        conv => whnf
                        repeat (first | (refine Conf.mk (by kernel_rfl) ?_; conv => whnf) | (refine SeqOk.go ?_; conv => whnf))
                        refine .data _ _ (sprop_ok s (4 : Nat) hso.1 hso.2) rfl ?_
                        conv => whnf
                        repeat (first | (refine Conf.mk (by kernel_rfl) ?_; conv => whnf) | (refine SeqOk.go ?_; conv => whnf))
                        simp only
                        refine BoolCase.no (by rw [p1]; rfl) ?_
                        conv => whnf
                        repeat (first | (refine Conf.mk (by kernel_rfl) ?_; conv => whnf) | (refine SeqOk.go ?_; conv => whnf))
                        refine BoolCase.no (by simp; omega) ?_
                        conv => whnf
                        repeat (first | (refine Conf.mk (by kernel_rfl) ?_; conv => whnf) | (refine SeqOk.go ?_; conv => whnf))
                        simp only
                        refine atS rfl hs ?_
                        conv => whnf
                        repeat (first | (refine Conf.mk (by kernel_rfl) ?_; conv => whnf) | (refine SeqOk.go ?_; conv => whnf))
                        refine elS hs ?_
                        conv => whnf
                        repeat (first | (refine Conf.mk (by kernel_rfl) ?_; conv => whnf) | (refine SeqOk.go ?_; conv => whnf))
                        refine .mk 4 rfl (by decide) ?_
                        conv => whnf
                        repeat (first | (refine Conf.mk (by kernel_rfl) ?_; conv => whnf) | (refine SeqOk.go ?_; conv => whnf))
                        refine .mk 2 rfl (by decide) ?_
                        conv => whnf
                        repeat (first | (refine Conf.mk (by kernel_rfl) ?_; conv => whnf) | (refine SeqOk.go ?_; conv => whnf))
                        simp only
                        generalize s.propR ((4 : Nat) : Int) = x at p2 p3
                        exact Into.mono (Into.to [0, 1, 2] [(8, dInt (k + 1 : Nat)), (5, .row 0), (6, .ptr 1 0), (7, .ptr 2 0), (0, .dat (.list (cs.map encI))), (1, .dat (.list (ss.map encI)))] [(0, .rows 43 3 ((cur.set 2 x).map Sv.enc) true), (1, .vars 58 24 [dInt (upd t 4 2 x.clock 0 0), dInt (upd t 4 2 x.clock 0 1), dInt (upd t 4 2 x.clock 0 2), dInt (upd t 4 2 x.clock 1 0), dInt (upd t 4 2 x.clock 1 1), dInt (upd t 4 2 x.clock 1 2), dInt (upd t 4 2 x.clock 2 0), dInt (upd t 4 2 x.clock 2 1), dInt (upd t 4 2 x.clock 2 2), dInt (upd t 4 2 x.clock 3 0), dInt (upd t 4 2 x.clock 3 1), dInt (upd t 4 2 x.clock 3 2), dInt (upd t 4 2 x.clock 4 0), dInt (upd t 4 2 x.clock 4 1), dInt (upd t 4 2 x.clock 4 2), dInt (upd t 4 2 x.clock 5 0), dInt (upd t 4 2 x.clock 5 1), dInt (upd t 4 2 x.clock 5 2), dInt (upd t 4 2 x.clock 6 0), dInt (upd t 4 2 x.clock 6 1), dInt (upd t 4 2 x.clock 6 2), dInt (upd t 4 2 x.clock 7 0), dInt (upd t 4 2 x.clock 7 1), dInt (upd t 4 2 x.clock 7 2)] true), (2, .vars 58 24 [dInt (f 0 0), dInt (f 0 1), dInt (f 0 2), dInt (f 1 0), dInt (f 1 1), dInt (f 1 2), dInt (f 2 0), dInt (f 2 1), dInt (f 2 2), dInt (f 3 0), dInt (f 3 1), dInt (f 3 2), dInt (f 4 0), dInt (f 4 1), dInt (f 4 2), dInt (f 5 0), dInt (f 5 1), dInt (f 5 2), dInt (f 6 0), dInt (f 6 1), dInt (f 6 2), dInt (f 7 0), dInt (f 7 1), dInt (f 7 2)] true)] (by repeat (first | exact trivial | refine ⟨.same (congrArg dInt (wrap_up (by omega))), ?_⟩ | refine ⟨.same rfl, ?_⟩ | refine ⟨.any _, ?_⟩)) ⟨⟨rfl, rfl, rfl, setS⟩, ⟨rfl, rfl, rfl, .same rfl, rfl, .same rfl, rfl, .same rfl, rfl, .same rfl, rfl, .same rfl, rfl, .same rfl, rfl, .same rfl, rfl, .same rfl, rfl, .same rfl, rfl, .same rfl, rfl, .same rfl, rfl, .same rfl, rfl, .same rfl, rfl, .same rfl, rfl, .same rfl, rfl, .same rfl, rfl, .same rfl, rfl, .same rfl, rfl, .same rfl, rfl, .same rfl, rfl, .same rfl, rfl, .same rfl, rfl, .same rfl, rfl, .same rfl, rfl, trivial⟩, ⟨rfl, rfl, rfl, .same rfl, rfl, .same rfl, rfl, .same rfl, rfl, .same rfl, rfl, .same rfl, rfl, .same rfl, rfl, .same rfl, rfl, .same rfl, rfl, .same rfl, rfl, .same rfl, rfl, .same rfl, rfl, .same rfl, rfl, .same rfl, rfl, .same rfl, rfl, .same rfl, rfl, .same rfl, rfl, .same rfl, rfl, .same rfl, rfl, .same rfl, rfl, .same rfl, rfl, .same rfl, rfl, .same rfl, rfl, .same rfl, rfl, .same rfl, rfl, trivial⟩, trivial⟩ rfl rfl) fun s' h => ⟨m - 1, by omega, k + 1, _, _, f, by omega, p3, h⟩
                      · refine BoolCase.no (by simpa using ht0) ?_
                        conv => whnf
                        repeat (first | (refine Conf.mk (by kernel_rfl) ?_; conv => whnf) | (refine SeqOk.go ?_; conv => whnf))
                        refine .look _ _ (most_ok t 4 c (by decide) (by decide) (by omega)) rfl rfl ?_
                        conv => whnf
                        repeat (first | (refine Conf.mk (by kernel_rfl) ?_; conv => whnf) | (refine SeqOk.go ?_; conv => whnf))
                        simp only
                        cases hmo : (mostV c (t 4)).2
                        · refine BoolCase.no rfl ?_
                          conv => whnf
                          repeat (first | (refine Conf.mk (by kernel_rfl) ?_; conv => whnf) | (refine SeqOk.go ?_; conv => whnf))
                          exact Into.mono (Into.to [0, 1, 2] [(8, dInt (k + 1 : Nat)), (5, .row 0), (6, .ptr 1 0), (7, .ptr 2 0), (0, .dat (.list (cs.map encI))), (1, .dat (.list (ss.map encI)))] [(0, .rows 43 3 (cur.map Sv.enc) true), (1, .vars 58 24 [dInt (t 0 0), dInt (t 0 1), dInt (t 0 2), dInt (t 1 0), dInt (t 1 1), dInt (t 1 2), dInt (t 2 0), dInt (t 2 1), dInt (t 2 2), dInt (t 3 0), dInt (t 3 1), dInt (t 3 2), dInt (t 4 0), dInt (t 4 1), dInt (t 4 2), dInt (t 5 0), dInt (t 5 1), dInt (t 5 2), dInt (t 6 0), dInt (t 6 1), dInt (t 6 2), dInt (t 7 0), dInt (t 7 1), dInt (t 7 2)] true), (2, .vars 58 24 [dInt (f 0 0), dInt (f 0 1), dInt (f 0 2), dInt (f 1 0), dInt (f 1 1), dInt (f 1 2), dInt (f 2 0), dInt (f 2 1), dInt (f 2 2), dInt (f 3 0), dInt (f 3 1), dInt (f 3 2), dInt (f 4 0), dInt (f 4 1), dInt (f 4 2), dInt (f 5 0), dInt (f 5 1), dInt (f 5 2), dInt (f 6 0), dInt (f 6 1), dInt (f 6 2), dInt (f 7 0), dInt (f 7 1), dInt (f 7 2)] true)] (by repeat (first | exact trivial | refine ⟨.same (congrArg dInt (wrap_up (by omega))), ?_⟩ | refine ⟨.same rfl, ?_⟩ | refine ⟨.any _, ?_⟩)) ⟨⟨rfl, rfl, rfl, rfl⟩, ⟨rfl, rfl, rfl, .same rfl, rfl, .same rfl, rfl, .same rfl, rfl, .same rfl, rfl, .same rfl, rfl, .same rfl, rfl, .same rfl, rfl, .same rfl, rfl, .same rfl, rfl, .same rfl, rfl, .same rfl, rfl, .same rfl, rfl, .same rfl, rfl, .same rfl, rfl, .same rfl, rfl, .same rfl, rfl, .same rfl, rfl, .same rfl, rfl, .same rfl, rfl, .same rfl, rfl, .same rfl, rfl, .same rfl, rfl, .same rfl, rfl, .same rfl, rfl, trivial⟩, ⟨rfl, rfl, rfl, .same rfl, rfl, .same rfl, rfl, .same rfl, rfl, .same rfl, rfl, .same rfl, rfl, .same rfl, rfl, .same rfl, rfl, .same rfl, rfl, .same rfl, rfl, .same rfl, rfl, .same rfl, rfl, .same rfl, rfl, .same rfl, rfl, .same rfl, rfl, .same rfl, rfl, .same rfl, rfl, .same rfl, rfl, .same rfl, rfl, .same rfl, rfl, .same rfl, rfl, .same rfl, rfl, .same rfl, rfl, .same rfl, rfl, .same rfl, rfl, trivial⟩, trivial⟩ rfl rfl) fun s' h => ⟨m - 1, by omega, k + 1, cur, t, f, by omega, hI, h⟩
                        · have hmv : mostV (colN cs 4) (t 4) = ((mostV c (t 4)).1, true) := by rw [hcc, ← hmo]
                          obtain ⟨p1, p2, p3⟩ := hI.comm hs (by decide) (by decide) (by decide) hbn ht0 hf0 hmv
                          have hso2 := right_ok (right_of_err p2)
                          generalize (mostV c (t 4)).1 = T at p1 p2 p3 hso2
                          refine BoolCase.yes rfl ?_
                          conv => whnf
                          repeat (first | (refine Conf.mk (by kernel_rfl) ?_; conv => whnf) | (refine SeqOk.go ?_; conv => whnf))
                          refine atS rfl hs ?_
                          conv => whnf
                          repeat (first | (refine Conf.mk (by kernel_rfl) ?_; conv => whnf) | (refine SeqOk.go ?_; conv => whnf))
                          refine elS hs ?_
                          conv => whnf
                          repeat (first | (refine Conf.mk (by kernel_rfl) ?_; conv => whnf) | (refine SeqOk.go ?_; conv => whnf))
                          refine .data _ _ (scomm_ok s (4 : Nat) T hso.1 hso.2) rfl ?_
                          conv => whnf
                          repeat (first | (refine Conf.mk (by kernel_rfl) ?_; conv => whnf) | (refine SeqOk.go ?_; conv => whnf))
                          simp only
                          refine BoolCase.no (by rw [p1]; rfl) ?_
                          conv => whnf
                          repeat (first | (refine Conf.mk (by kernel_rfl) ?_; conv => whnf) | (refine SeqOk.go ?_; conv => whnf))
                          refine .data _ _ (scheck_ok (s.commR ((4 : Nat) : Int) T) hso2.1 hso2.2) rfl ?_
                          conv => whnf
                          repeat (first | (refine Conf.mk (by kernel_rfl) ?_; conv => whnf) | (refine SeqOk.go ?_; conv => whnf))
                          refine BoolCase.no (by rw [p2]; rfl) ?_
                          conv => whnf
                          repeat (first | (refine Conf.mk (by kernel_rfl) ?_; conv => whnf) | (refine SeqOk.go ?_; conv => whnf))
                          simp only
                          refine atS rfl hs ?_
                          conv => whnf
                          repeat (first | (refine Conf.mk (by kernel_rfl) ?_; conv => whnf) | (refine SeqOk.go ?_; conv => whnf))
                          refine elS hs ?_
                          conv => whnf
                          repeat (first | (refine Conf.mk (by kernel_rfl) ?_; conv => whnf) | (refine SeqOk.go ?_; conv => whnf))
                          refine .mk 4 rfl (by decide) ?_
                          conv => whnf
                          repeat (first | (refine Conf.mk (by kernel_rfl) ?_; conv => whnf) | (refine SeqOk.go ?_; conv => whnf))
                          refine .mk 2 rfl (by decide) ?_
                          conv => whnf
                          repeat (first | (refine Conf.mk (by kernel_rfl) ?_; conv => whnf) | (refine SeqOk.go ?_; conv => whnf))
                          simp only
                          generalize s.commR ((4 : Nat) : Int) T = x at p3
                          exact Into.mono (Into.to [0, 1, 2] [(8, dInt (k + 1 : Nat)), (5, .row 0), (6, .ptr 1 0), (7, .ptr 2 0), (0, .dat (.list (cs.map encI))), (1, .dat (.list (ss.map encI)))] [(0, .rows 43 3 ((cur.set 2 x).map Sv.enc) true), (1, .vars 58 24 [dInt (t 0 0), dInt (t 0 1), dInt (t 0 2), dInt (t 1 0), dInt (t 1 1), dInt (t 1 2), dInt (t 2 0), dInt (t 2 1), dInt (t 2 2), dInt (t 3 0), dInt (t 3 1), dInt (t 3 2), dInt (t 4 0), dInt (t 4 1), dInt (t 4 2), dInt (t 5 0), dInt (t 5 1), dInt (t 5 2), dInt (t 6 0), dInt (t 6 1), dInt (t 6 2), dInt (t 7 0), dInt (t 7 1), dInt (t 7 2)] true), (2, .vars 58 24 [dInt (upd f 4 2 T 0 0), dInt (upd f 4 2 T 0 1), dInt (upd f 4 2 T 0 2), dInt (upd f 4 2 T 1 0), dInt (upd f 4 2 T 1 1), dInt (upd f 4 2 T 1 2), dInt (upd f 4 2 T 2 0), dInt (upd f 4 2 T 2 1), dInt (upd f 4 2 T 2 2), dInt (upd f 4 2 T 3 0), dInt (upd f 4 2 T 3 1), dInt (upd f 4 2 T 3 2), dInt (upd f 4 2 T 4 0), dInt (upd f 4 2 T 4 1), dInt (upd f 4 2 T 4 2), dInt (upd f 4 2 T 5 0), dInt (upd f 4 2 T 5 1), dInt (upd f 4 2 T 5 2), dInt (upd f 4 2 T 6 0), dInt (upd f 4 2 T 6 1), dInt (upd f 4 2 T 6 2), dInt (upd f 4 2 T 7 0), dInt (upd f 4 2 T 7 1), dInt (upd f 4 2 T 7 2)] true)] (by repeat (first | exact trivial | refine ⟨.same (congrArg dInt (wrap_up (by omega))), ?_⟩ | refine ⟨.same rfl, ?_⟩ | refine ⟨.any _, ?_⟩)) ⟨⟨rfl, rfl, rfl, setS⟩, ⟨rfl, rfl, rfl, .same rfl, rfl, .same rfl, rfl, .same rfl, rfl, .same rfl, rfl, .same rfl, rfl, .same rfl, rfl, .same rfl, rfl, .same rfl, rfl, .same rfl, rfl, .same rfl, rfl, .same rfl, rfl, .same rfl, rfl, .same rfl, rfl, .same rfl, rfl, .same rfl, rfl, .same rfl, rfl, .same rfl, rfl, .same rfl, rfl, .same rfl, rfl, .same rfl, rfl, .same rfl, rfl, .same rfl, rfl, .same rfl, rfl, .same rfl, rfl, trivial⟩, ⟨rfl, rfl, rfl, .same rfl, rfl, .same rfl, rfl, .same rfl, rfl, .same rfl, rfl, .same rfl, rfl, .same rfl, rfl, .same rfl, rfl, .same rfl, rfl, .same rfl, rfl, .same rfl, rfl, .same rfl, rfl, .same rfl, rfl, .same rfl, rfl, .same rfl, rfl, .same rfl, rfl, .same rfl, rfl, .same rfl, rfl, .same rfl, rfl, .same rfl, rfl, .same rfl, rfl, .same rfl, rfl, .same rfl, rfl, .same rfl, rfl, .same rfl, rfl, trivial⟩, trivial⟩ rfl rfl) fun s' h => ⟨m - 1, by omega, k + 1, _, t, _, by omega, p3, h⟩
                  · refine .mk 5 rfl (by decide) ?_
                    conv => whnf
                    repeat (first | (refine Conf.mk (by kernel_rfl) ?_; conv => whnf) | (refine SeqOk.go ?_; conv => whnf))
                    refine .mk 0 rfl (by decide) ?_
                    conv => whnf
                    repeat (first | (refine Conf.mk (by kernel_rfl) ?_; conv => whnf) | (refine SeqOk.go ?_; conv => whnf))
                    obtain ⟨s, hs⟩ := hget 0 (by decide)
                    have hbn : bitOf (colN cs 5) 0 = true := by rw [hcc]; exact hb
                    have hsr := hI.right 0 s hs
                    have hso := right_ok hsr
                    by_cases hf0 : 0 < f 5 0
                    · refine BoolCase.yes (by simpa using hf0) ?_
                      conv => whnf
                      repeat (first | (refine Conf.mk (by kernel_rfl) ?_; conv => whnf) | (refine SeqOk.go ?_; conv => whnf))
                      exact Into.mono (Into.to [0, 1, 2] [(8, dInt (k + 1 : Nat)), (5, .row 0), (6, .ptr 1 0), (7, .ptr 2 0), (0, .dat (.list (cs.map encI))), (1, .dat (.list (ss.map encI)))] [(0, .rows 43 3 (cur.map Sv.enc) true), (1, .vars 58 24 [dInt (t 0 0), dInt (t 0 1), dInt (t 0 2), dInt (t 1 0), dInt (t 1 1), dInt (t 1 2), dInt (t 2 0), dInt (t 2 1), dInt (t 2 2), dInt (t 3 0), dInt (t 3 1), dInt (t 3 2), dInt (t 4 0), dInt (t 4 1), dInt (t 4 2), dInt (t 5 0), dInt (t 5 1), dInt (t 5 2), dInt (t 6 0), dInt (t 6 1), dInt (t 6 2), dInt (t 7 0), dInt (t 7 1), dInt (t 7 2)] true), (2, .vars 58 24 [dInt (f 0 0), dInt (f 0 1), dInt (f 0 2), dInt (f 1 0), dInt (f 1 1), dInt (f 1 2), dInt (f 2 0), dInt (f 2 1), dInt (f 2 2), dInt (f 3 0), dInt (f 3 1), dInt (f 3 2), dInt (f 4 0), dInt (f 4 1), dInt (f 4 2), dInt (f 5 0), dInt (f 5 1), dInt (f 5 2), dInt (f 6 0), dInt (f 6 1), dInt (f 6 2), dInt (f 7 0), dInt (f 7 1), dInt (f 7 2)] true)] (by repeat (first | exact trivial | refine ⟨.same (congrArg dInt (wrap_up (by omega))), ?_⟩ | refine ⟨.same rfl, ?_⟩ | refine ⟨.any _, ?_⟩)) ⟨⟨rfl, rfl, rfl, rfl⟩, ⟨rfl, rfl, rfl, .same rfl, rfl, .same rfl, rfl, .same rfl, rfl, .same rfl, rfl, .same rfl, rfl, .same rfl, rfl, .same rfl, rfl, .same rfl, rfl, .same rfl, rfl, .same rfl, rfl, .same rfl, rfl, .same rfl, rfl, .same rfl, rfl, .same rfl, rfl, .same rfl, rfl, .same rfl, rfl, .same rfl, rfl, .same rfl, rfl, .same rfl, rfl, .same rfl, rfl, .same rfl, rfl, .same rfl, rfl, .same rfl, rfl, .same rfl, rfl, trivial⟩, ⟨rfl, rfl, rfl, .same rfl, rfl, .same rfl, rfl, .same rfl, rfl, .same rfl, rfl, .same rfl, rfl, .same rfl, rfl, .same rfl, rfl, .same rfl, rfl, .same rfl, rfl, .same rfl, rfl, .same rfl, rfl, .same rfl, rfl, .same rfl, rfl, .same rfl, rfl, .same rfl, rfl, .same rfl, rfl, .same rfl, rfl, .same rfl, rfl, .same rfl, rfl, .same rfl, rfl, .same rfl, rfl, .same rfl, rfl, .same rfl, rfl, .same rfl, rfl, trivial⟩, trivial⟩ rfl rfl) fun s' h => ⟨m - 1, by omega, k + 1, cur, t, f, by omega, hI, h⟩
                    · refine BoolCase.no (by simpa using hf0) ?_
                      conv => whnf
                      repeat (first | (refine Conf.mk (by kernel_rfl) ?_; conv => whnf) | (refine SeqOk.go ?_; conv => whnf))
                      simp only
                      refine .mk 5 rfl (by decide) ?_
                      conv => whnf
                      repeat (first | (refine Conf.mk (by kernel_rfl) ?_; conv => whnf) | (refine SeqOk.go ?_; conv => whnf))
                      refine .mk 0 rfl (by decide) ?_
                      conv => whnf
                      repeat (first | (refine Conf.mk (by kernel_rfl) ?_; conv => whnf) | (refine SeqOk.go ?_; conv => whnf))
                      by_cases ht0 : t 5 0 = 0
                      · obtain ⟨p1, p2, p3⟩ := hI.prop hs (by decide) (by decide) (by decide) hbn ht0
                        refine BoolCase.yes (by simpa using ht0) ?_
                        conv => whnf
                        repeat (first | (refine Conf.mk (by kernel_rfl) ?_; conv => whnf) | (refine SeqOk.go ?_; conv => whnf))
                        refine atS rfl hs ?_
                        conv => whnf
                        repeat (first | (refine Conf.mk (by kernel_rfl) ?_; conv => whnf) | (refine SeqOk.go ?_; conv => whnf))
                        refine elS hs ?_
                        conv => whnf
                        repeat (first | (refine Conf.mk (by kernel_rfl) ?_; conv => whnf) | (refine SeqOk.go ?_; conv => whnf))
                        refine .data _ _ (sprop_ok s (5 : Nat) hso.1 hso.2) rfl ?_
                        conv => whnf
                        repeat (first | (refine Conf.mk (by kernel_rfl) ?_; conv => whnf) | (refine SeqOk.go ?_; conv => whnf))
                        simp only
                        refine BoolCase.no (by rw [p1]; rfl) ?_
                        conv => whnf
                        repeat (first | (refine Conf.mk (by kernel_rfl) ?_; conv => whnf) | (refine SeqOk.go ?_; conv => whnf))
                        refine BoolCase.no (by simp; omega) ?_
                        conv => whnf
                        repeat (first | (refine Conf.mk (by kernel_rfl) ?_; conv => whnf) | (refine SeqOk.go ?_; conv => whnf))
                        simp only
                        refine atS rfl hs ?_
                        conv => whnf
                        repeat (first | (refine Conf.mk (by kernel_rfl) ?_; conv => whnf) | (refine SeqOk.go ?_; conv => whnf))
                        refine elS hs ?_
                        conv => whnf
                        repeat (first | (refine Conf.mk (by kernel_rfl) ?_; conv => whnf) | (refine SeqOk.go ?_; conv => whnf))
                        refine .mk 5 rfl (by decide) ?_
                        conv => whnf
                        repeat (first | (refine Conf.mk (by kernel_rfl) ?_; conv => whnf) | (refine SeqOk.go ?_; conv => whnf))
                        refine .mk 0 rfl (by decide) ?_
                        conv => whnf
                        repeat (first | (refine Conf.mk (by kernel_rfl) ?_; conv => whnf) | (refine SeqOk.go ?_; conv => whnf))
                        simp only
                        generalize s.propR ((5 : Nat) : Int) = x at p2 p3
                        exact Into.mono (Into.to [0, 1, 2] [(8, dInt (k + 1 : Nat)), (5, .row 0), (6, .ptr 1 0), (7, .ptr 2 0), (0, .dat (.list (cs.map encI))), (1, .dat (.list (ss.map encI)))] [(0, .rows 43 3 ((cur.set 0 x).map Sv.enc) true), (1, .vars 58 24 [dInt (upd t 5 0 x.clock 0 0), dInt (upd t 5 0 x.clock 0 1), dInt (upd t 5 0 x.clock 0 2), dInt (upd t 5 0 x.clock 1 0), dInt (upd t 5 0 x.clock 1 1), dInt (upd t 5 0 x.clock 1 2), dInt (upd t 5 0 x.clock 2 0), dInt (upd t 5 0 x.clock 2 1), dInt (upd t 5 0 x.clock 2 2), dInt (upd t 5 0 x.clock 3 0), dInt (upd t 5 0 x.clock 3 1), dInt (upd t 5 0 x.clock 3 2), dInt (upd t 5 0 x.clock 4 0), dInt (upd t 5 0 x.clock 4 1), dInt (upd t 5 0 x.clock 4 2), dInt (upd t 5 0 x.clock 5 0), dInt (upd t 5 0 x.clock 5 1), dInt (upd t 5 0 x.clock 5 2), dInt (upd t 5 0 x.clock 6 0), dInt (upd t 5 0 x.clock 6 1), dInt (upd t 5 0 x.clock 6 2), dInt (upd t 5 0 x.clock 7 0), dInt (upd t 5 0 x.clock 7 1), dInt (upd t 5 0 x.clock 7 2)] true), (2, .vars 58 24 [dInt (f 0 0), dInt (f 0 1), dInt (f 0 2), dInt (f 1 0), dInt (f 1 1), dInt (f 1 2), dInt (f 2 0), dInt (f 2 1), dInt (f 2 2), dInt (f 3 0), dInt (f 3 1), dInt (f 3 2), dInt (f 4 0), dInt (f 4 1), dInt (f 4 2), dInt (f 5 0), dInt (f 5 1), dInt (f 5 2), dInt (f 6 0), dInt (f 6 1), dInt (f 6 2), dInt (f 7 0), dInt (f 7 1), dInt (f 7 2)] true)] (by repeat (first | exact trivial | refine ⟨.same (congrArg dInt (wrap_up (by omega))), ?_⟩ | refine ⟨.same rfl, ?_⟩ | refine ⟨.any _, ?_⟩)) ⟨⟨rfl, rfl, rfl, setS⟩, ⟨rfl, rfl, rfl, .same rfl, rfl, .same rfl, rfl, .same rfl, rfl, .same rfl, rfl, .same rfl, rfl, .same rfl, rfl, .same rfl, rfl, .same rfl, rfl, .same rfl, rfl, .same rfl, rfl, .same rfl, rfl, .same rfl, rfl, .same rfl, rfl, .same rfl, rfl, .same rfl, rfl, .same rfl, rfl, .same rfl, rfl, .same rfl, rfl, .same rfl, rfl, .same rfl, rfl, .same rfl, rfl, .same rfl, rfl, .same rfl, rfl, .same rfl, rfl, trivial⟩, ⟨rfl, rfl, rfl, .same rfl, rfl, .same rfl, rfl, .same rfl, rfl, .same rfl, rfl, .same rfl, rfl, .same rfl, rfl, .same rfl, rfl, .same rfl, rfl, .same rfl, rfl, .same rfl, rfl, .same rfl, rfl, .same rfl, rfl, .same rfl, rfl, .same rfl, rfl, .same rfl, rfl, .same rfl, rfl, .same rfl, rfl, .same rfl, rfl, .same rfl, rfl, .same rfl, rfl, .same rfl, rfl, .same rfl, rfl, .same rfl, rfl, .same rfl, rfl, trivial⟩, trivial⟩ rfl rfl) fun s' h => ⟨m - 1, by omega, k + 1, _, _, f, by omega, p3, h⟩
                      · refine BoolCase.no (by simpa using ht0) ?_
                        conv => whnf
                        repeat (first | (refine Conf.mk (by kernel_rfl) ?_; conv => whnf) | (refine SeqOk.go ?_; conv => whnf))
                        refine .look _ _ (most_ok t 5 c (by decide) (by decide) (by omega)) rfl rfl ?_
                        conv => whnf
                        repeat (first | (refine Conf.mk (by kernel_rfl) ?_; conv => whnf) | (refine SeqOk.go ?_; conv => whnf))
                        simp only
                        cases hmo : (mostV c (t 5)).2
                        · refine BoolCase.no rfl ?_
                          conv => whnf
                          repeat (first | (refine Conf.mk (by kernel_rfl) ?_; conv => whnf) | (refine SeqOk.go ?_; conv => whnf))
                          exact Into.mono (Into.to [0, 1, 2] [(8, dInt (k + 1 : Nat)), (5, .row 0), (6, .ptr 1 0), (7, .ptr 2 0), (0, .dat (.list (cs.map encI))), (1, .dat (.list (ss.map encI)))] [(0, .rows 43 3 (cur.map Sv.enc) true), (1, .vars 58 24 [dInt (t 0 0), dInt (t 0 1), dInt (t 0 2), dInt (t 1 0), dInt (t 1 1), dInt (t 1 2), dInt (t 2 0), dInt (t 2 1), dInt (t 2 2), dInt (t 3 0), dInt (t 3 1), dInt (t 3 2), dInt (t 4 0), dInt (t 4 1), dInt (t 4 2), dInt (t 5 0), dInt (t 5 1), dInt (t 5 2), dInt (t 6 0), dInt (t 6 1), dInt (t 6 2), dInt (t 7 0), dInt (t 7 1), dInt (t 7 2)] true), (2, .vars 58 24 [dInt (f 0 0), dInt (f 0 1), dInt (f 0 2), dInt (f 1 0), dInt (f 1 1), dInt (f 1 2), dInt (f 2 0), dInt (f 2 1), dInt (f 2 2), dInt (f 3 0), dInt (f 3 1), dInt (f 3 2), dInt (f 4 0), dInt (f 4 1), dInt (f 4 2), dInt (f 5 0), dInt (f 5 1), dInt (f 5 2), dInt (f 6 0), dInt (f 6 1), dInt (f 6 2), dInt (f 7 0), dInt (f 7 1), dInt (f 7 2)] true)] (by repeat (first | exact trivial | refine ⟨.same (congrArg dInt (wrap_up (by omega))), ?_⟩ | refine ⟨.same rfl, ?_⟩ | refine ⟨.any _, ?_⟩)) ⟨⟨rfl, rfl, rfl, rfl⟩, ⟨rfl, rfl, rfl, .same rfl, rfl, .same rfl, rfl, .same rfl, rfl, .same rfl, rfl, .same rfl, rfl, .same rfl, rfl, .same rfl, rfl, .same rfl, rfl, .same rfl, rfl, .same rfl, rfl, .same rfl, rfl, .same rfl, rfl, .same rfl, rfl, .same rfl, rfl, .same rfl, rfl, .same rfl, rfl, .same rfl, rfl, .same rfl, rfl, .same rfl, rfl, .same rfl, rfl, .same rfl, rfl, .same rfl, rfl, .same rfl, rfl, .same rfl, rfl, trivial⟩, ⟨rfl, rfl, rfl, .same rfl, rfl, .same rfl, rfl, .same rfl, rfl, .same rfl, rfl, .same rfl, rfl, .same rfl, rfl, .same rfl, rfl, .same rfl, rfl, .same rfl, rfl, .same rfl, rfl, .same rfl, rfl, .same rfl, rfl, .same rfl, rfl, .same rfl, rfl, .same rfl, rfl, .same rfl, rfl, .same rfl, rfl, .same rfl, rfl, .same rfl, rfl, .same rfl, rfl, .same rfl, rfl, .same rfl, rfl, .same rfl, rfl, .same rfl, rfl, trivial⟩, trivial⟩ rfl rfl) fun s' h => ⟨m - 1, by omega, k + 1, cur, t, f, by omega, hI, h⟩
                        · have hmv : mostV (colN cs 5) (t 5) = ((mostV c (t 5)).1, true) := by rw [hcc, ← hmo]
                          obtain ⟨p1, p2, p3⟩ := hI.comm hs (by decide) (by decide) (by decide) hbn ht0 hf0 hmv
                          have hso2 := right_ok (right_of_err p2)
                          generalize (mostV c (t 5)).1 = T at p1 p2 p3 hso2
                          refine BoolCase.yes rfl ?_
                          conv => whnf
                          repeat (first | (refine Conf.mk (by kernel_rfl) ?_; conv => whnf) | (refine SeqOk.go ?_; conv => whnf))
                          refine atS rfl hs ?_
                          conv => whnf
                          repeat (first | (refine Conf.mk (by kernel_rfl) ?_; conv => whnf) | (refine SeqOk.go ?_; conv => whnf))
                          refine elS hs ?_
                          conv => whnf
                          repeat (first | (refine Conf.mk (by kernel_rfl) ?_; conv => whnf) | (refine SeqOk.go ?_; conv => whnf))
                          refine .data _ _ (scomm_ok s (5 : Nat) T hso.1 hso.2) rfl ?_
                          conv => whnf
                          repeat (first | (refine Conf.mk (by kernel_rfl) ?_; conv => whnf) | (refine SeqOk.go ?_; conv => whnf))
                          simp only
                          refine BoolCase.no (by rw [p1]; rfl) ?_
                          conv => whnf
                          repeat (first | (refine Conf.mk (by kernel_rfl) ?_; conv => whnf) | (refine SeqOk.go ?_; conv => whnf))
                          refine .data _ _ (scheck_ok (s.commR ((5 : Nat) : Int) T) hso2.1 hso2.2) rfl ?_
                          conv => whnf
                          repeat (first | (refine Conf.mk (by kernel_rfl) ?_; conv => whnf) | (refine SeqOk.go ?_; conv => whnf))
                          refine BoolCase.no (by rw [p2]; rfl) ?_
                          conv => whnf
                          repeat (first | (refine Conf.mk (by kernel_rfl) ?_; conv => whnf) | (refine SeqOk.go ?_; conv => whnf))
                          simp only
                          refine atS rfl hs ?_
                          conv => whnf
                          repeat (first | (refine Conf.mk (by kernel_rfl) ?_; conv => whnf) | (refine SeqOk.go ?_; conv => whnf))
                          refine elS hs ?_
                          conv => whnf
                          repeat (first | (refine Conf.mk (by kernel_rfl) ?_; conv => whnf) | (refine SeqOk.go ?_; conv => whnf))
                          refine .mk 5 rfl (by decide) ?_
                          conv => whnf
                          repeat (first | (refine Conf.mk (by kernel_rfl) ?_; conv => whnf) | (refine SeqOk.go ?_; conv => whnf))
                          refine .mk 0 rfl (by decide) ?_
                          conv => whnf
                          repeat (first | (refine Conf.mk (by kernel_rfl) ?_; conv => whnf) | (refine SeqOk.go ?_; conv => whnf))
                          simp only
                          generalize s.commR ((5 : Nat) : Int) T = x at p3
                          exact Into.mono (Into.to [0, 1, 2] [(8, dInt (k + 1 : Nat)), (5, .row 0), (6, .ptr 1 0), (7, .ptr 2 0), (0, .dat (.list (cs.map encI))), (1, .dat (.list (ss.map encI)))] [(0, .rows 43 3 ((cur.set 0 x).map Sv.enc) true), (1, .vars 58 24 [dInt (t 0 0), dInt (t 0 1), dInt (t 0 2), dInt (t 1 0), dInt (t 1 1), dInt (t 1 2), dInt (t 2 0), dInt (t 2 1), dInt (t 2 2), dInt (t 3 0), dInt (t 3 1), dInt (t 3 2), dInt (t 4 0), dInt (t 4 1), dInt (t 4 2), dInt (t 5 0), dInt (t 5 1), dInt (t 5 2), dInt (t 6 0), dInt (t 6 1), dInt (t 6 2), dInt (t 7 0), dInt (t 7 1), dInt (t 7 2)] true), (2, .vars 58 24 [dInt (upd f 5 0 T 0 0), dInt (upd f 5 0 T 0 1), dInt (upd f 5 0 T 0 2), dInt (upd f 5 0 T 1 0), dInt (upd f 5 0 T 1 1), dInt (upd f 5 0 T 1 2), dInt (upd f 5 0 T 2 0), dInt (upd f 5 0 T 2 1), dInt (upd f 5 0 T 2 2), dInt (upd f 5 0 T 3 0), dInt (upd f 5 0 T 3 1), dInt (upd f 5 0 T 3 2), dInt (upd f 5 0 T 4 0), dInt (upd f 5 0 T 4 1), dInt (upd f 5 0 T 4 2), dInt (upd f 5 0 T 5 0), dInt (upd f 5 0 T 5 1), dInt (upd f 5 0 T 5 2), dInt (upd f 5 0 T 6 0), dInt (upd f 5 0 T 6 1), dInt (upd f 5 0 T 6 2), dInt (upd f 5 0 T 7 0), dInt (upd f 5 0 T 7 1), dInt (upd f 5 0 T 7 2)] true)] (by repeat (first | exact trivial | refine ⟨.same (congrArg dInt (wrap_up (by omega))), ?_⟩ | refine ⟨.same rfl, ?_⟩ | refine ⟨.any _, ?_⟩)) ⟨⟨rfl, rfl, rfl, setS⟩, ⟨rfl, rfl, rfl, .same rfl, rfl, .same rfl, rfl, .same rfl, rfl, .same rfl, rfl, .same rfl, rfl, .same rfl, rfl, .same rfl, rfl, .same rfl, rfl, .same rfl, rfl, .same rfl, rfl, .same rfl, rfl, .same rfl, rfl, .same rfl, rfl, .same rfl, rfl, .same rfl, rfl, .same rfl, rfl, .same rfl, rfl, .same rfl, rfl, .same rfl, rfl, .same rfl, rfl, .same rfl, rfl, .same rfl, rfl, .same rfl, rfl, .same rfl, rfl, trivial⟩, ⟨rfl, rfl, rfl, .same rfl, rfl, .same rfl, rfl, .same rfl, rfl, .same rfl, rfl, .same rfl, rfl, .same rfl, rfl, .same rfl, rfl, .same rfl, rfl, .same rfl, rfl, .same rfl, rfl, .same rfl, rfl, .same rfl, rfl, .same rfl, rfl, .same rfl, rfl, .same rfl, rfl, .same rfl, rfl, .same rfl, rfl, .same rfl, rfl, .same rfl, rfl, .same rfl, rfl, .same rfl, rfl, .same rfl, rfl, .same rfl, rfl, .same rfl, rfl, trivial⟩, trivial⟩ rfl rfl) fun s' h => ⟨m - 1, by omega, k + 1, _, t, _, by omega, p3, h⟩
                  · refine .mk 5 rfl (by decide) ?_
                    conv => whnf
                    repeat (first | (refine Conf.mk (by kernel_rfl) ?_; conv => whnf) | (refine SeqOk.go ?_; conv => whnf))
                    refine .mk 1 rfl (by decide) ?_
                    conv => whnf
                    repeat (first | (refine Conf.mk (by kernel_rfl) ?_; conv => whnf) | (refine SeqOk.go ?_; conv => whnf))
                    obtain ⟨s, hs⟩ := hget 1 (by decide)
                    have hbn : bitOf (colN cs 5) 1 = true := by rw [hcc]; exact hb
                    have hsr := hI.right 1 s hs
                    have hso := right_ok hsr
                    by_cases hf0 : 0 < f 5 1
                    · refine BoolCase.yes (by simpa using hf0) ?_
                      conv => whnf
                      repeat (first | (refine Conf.mk (by kernel_rfl) ?_; conv => whnf) | (refine SeqOk.go ?_; conv => whnf))
                      exact Into.mono (Into.to [0, 1, 2] [(8, dInt (k + 1 : Nat)), (5, .row 0), (6, .ptr 1 0), (7, .ptr 2 0), (0, .dat (.list (cs.map encI))), (1, .dat (.list (ss.map encI)))] [(0, .rows 43 3 (cur.map Sv.enc) true), (1, .vars 58 24 [dInt (t 0 0), dInt (t 0 1), dInt (t 0 2), dInt (t 1 0), dInt (t 1 1), dInt (t 1 2), dInt (t 2 0), dInt (t 2 1), dInt (t 2 2), dInt (t 3 0), dInt (t 3 1), dInt (t 3 2), dInt (t 4 0), dInt (t 4 1), dInt (t 4 2), dInt (t 5 0), dInt (t 5 1), dInt (t 5 2), dInt (t 6 0), dInt (t 6 1), dInt (t 6 2), dInt (t 7 0), dInt (t 7 1), dInt (t 7 2)] true), (2, .vars 58 24 [dInt (f 0 0), dInt (f 0 1), dInt (f 0 2), dInt (f 1 0), dInt (f 1 1), dInt (f 1 2), dInt (f 2 0), dInt (f 2 1), dInt (f 2 2), dInt (f 3 0), dInt (f 3 1), dInt (f 3 2), dInt (f 4 0), dInt (f 4 1), dInt (f 4 2), dInt (f 5 0), dInt (f 5 1), dInt (f 5 2), dInt (f 6 0), dInt (f 6 1), dInt (f 6 2), dInt (f 7 0), dInt (f 7 1), dInt (f 7 2)] true)] (by repeat (first | exact trivial | refine ⟨.same (congrArg dInt (wrap_up (by omega))), ?_⟩ | refine ⟨.same rfl, ?_⟩ | refine ⟨.any _, ?_⟩)) ⟨⟨rfl, rfl, rfl, rfl⟩, ⟨rfl, rfl, rfl, .same rfl, rfl, .same rfl, rfl, .same rfl, rfl, .same rfl, rfl, .same rfl, rfl, .same rfl, rfl, .same rfl, rfl, .same rfl, rfl, .same rfl, rfl, .same rfl, rfl, .same rfl, rfl, .same rfl, rfl, .same rfl, rfl, .same rfl, rfl, .same rfl, rfl, .same rfl, rfl, .same rfl, rfl, .same rfl, rfl, .same rfl, rfl, .same rfl, rfl, .same rfl, rfl, .same rfl, rfl, .same rfl, rfl, .same rfl, rfl, trivial⟩, ⟨rfl, rfl, rfl, .same rfl, rfl, .same rfl, rfl, .same rfl, rfl, .same rfl, rfl, .same rfl, rfl, .same rfl, rfl, .same rfl, rfl, .same rfl, rfl, .same rfl, rfl, .same rfl, rfl, .same rfl, rfl, .same rfl, rfl, .same rfl, rfl, .same rfl, rfl, .same rfl, rfl, .same rfl, rfl, .same rfl, rfl, .same rfl, rfl, .same rfl, rfl, .same rfl, rfl, .same rfl, rfl, .same rfl, rfl, .same rfl, rfl, .same rfl, rfl, trivial⟩, trivial⟩ rfl rfl) fun s' h => ⟨m - 1, by omega, k + 1, cur, t, f, by omega, hI, h⟩
                    · refine BoolCase.no (by simpa using hf0) ?_
                      conv => whnf
                      repeat (first | (refine Conf.mk (by kernel_rfl) ?_; conv => whnf) | (refine SeqOk.go ?_; conv => whnf))
                      simp only
                      refine .mk 5 rfl (by decide) ?_
                      conv => whnf
                      repeat (first | (refine Conf.mk (by kernel_rfl) ?_; conv => whnf) | (refine SeqOk.go ?_; conv => whnf))
                      refine .mk 1 rfl (by decide) ?_
                      conv => whnf
                      repeat (first | (refine Conf.mk (by kernel_rfl) ?_; conv => whnf) | (refine SeqOk.go ?_; conv => whnf))
                      by_cases ht0 : t 5 1 = 0
                      · obtain ⟨p1, p2, p3⟩ := hI.prop hs (by decide) (by decide) (by decide) hbn ht0
                        refine BoolCase.yes (by simpa using ht0) ?_
                        conv => whnf
                        repeat (first | (refine Conf.mk (by kernel_rfl) ?_; conv => whnf) | (refine SeqOk.go ?_; conv => whnf))
                        refine atS rfl hs ?_
                        conv => whnf
                        repeat (first | (refine Conf.mk (by kernel_rfl) ?_; conv => whnf) | (refine SeqOk.go ?_; conv => whnf))
                        refine elS hs ?_
                        conv => whnf
                        repeat (first | (refine Conf.mk (by kernel_rfl) ?_; conv => whnf) | (refine SeqOk.go ?_; conv => whnf))
                        refine .data _ _ (sprop_ok s (5 : Nat) hso.1 hso.2) rfl ?_
                        conv => whnf
                        repeat (first | (refine Conf.mk (by kernel_rfl) ?_; conv => whnf) | (refine SeqOk.go ?_; conv => whnf))
                        simp only
                        refine BoolCase.no (by rw [p1]; rfl) ?_
                        conv => whnf
                        repeat (first | (refine Conf.mk (by kernel_rfl) ?_; conv => whnf) | (refine SeqOk.go ?_; conv => whnf))
                        refine BoolCase.no (by simp; omega) ?_
                        conv => whnf
                        repeat (first | (refine Conf.mk (by kernel_rfl) ?_; conv => whnf) | (refine SeqOk.go ?_; conv => whnf))
                        simp only
                        refine atS rfl hs ?_
                        conv => whnf
                        repeat (first | (refine Conf.mk (by kernel_rfl) ?_; conv => whnf) | (refine SeqOk.go ?_; conv => whnf))
                        refine elS hs ?_
                        conv => whnf
                        repeat (first | (refine Conf.mk (by kernel_rfl) ?_; conv => whnf) | (refine SeqOk.go ?_; conv => whnf))
                        refine .mk 5 rfl (by decide) ?_
                        conv => whnf
                        repeat (first | (refine Conf.mk (by kernel_rfl) ?_; conv => whnf) | (refine SeqOk.go ?_; conv => whnf))
                        refine .mk 1 rfl (by decide) ?_
                        conv => whnf
                        repeat (first | (refine Conf.mk (by kernel_rfl) ?_; conv => whnf) | (refine SeqOk.go ?_; conv => whnf))
                        simp only
                        generalize s.propR ((5 : Nat) : Int) = x at p2 p3
                        exact Into.mono (Into.to [0, 1, 2] [(8, dInt (k + 1 : Nat)), (5, .row 0), (6, .ptr 1 0), (7, .ptr 2 0), (0, .dat (.list (cs.map encI))), (1, .dat (.list (ss.map encI)))] [(0, .rows 43 3 ((cur.set 1 x).map Sv.enc) true), (1, .vars 58 24 [dInt (upd t 5 1 x.clock 0 0), dInt (upd t 5 1 x.clock 0 1), dInt (upd t 5 1 x.clock 0 2), dInt (upd t 5 1 x.clock 1 0), dInt (upd t 5 1 x.clock 1 1), dInt (upd t 5 1 x.clock 1 2), dInt (upd t 5 1 x.clock 2 0), dInt (upd t 5 1 x.clock 2 1), dInt (upd t 5 1 x.clock 2 2), dInt (upd t 5 1 x.clock 3 0), dInt (upd t 5 1 x.clock 3 1), dInt (upd t 5 1 x.clock 3 2), dInt (upd t 5 1 x.clock 4 0), dInt (upd t 5 1 x.clock 4 1), dInt (upd t 5 1 x.clock 4 2), dInt (upd t 5 1 x.clock 5 0), dInt (upd t 5 1 x.clock 5 1), dInt (upd t 5 1 x.clock 5 2), dInt (upd t 5 1 x.clock 6 0), dInt (upd t 5 1 x.clock 6 1), dInt (upd t 5 1 x.clock 6 2), dInt (upd t 5 1 x.clock 7 0), dInt (upd t 5 1 x.clock 7 1), dInt (upd t 5 1 x.clock 7 2)] true), (2, .vars 58 24 [dInt (f 0 0), dInt (f 0 1), dInt (f 0 2), dInt (f 1 0), dInt (f 1 1), dInt (f 1 2), dInt (f 2 0), dInt (f 2 1), dInt (f 2 2), dInt (f 3 0), dInt (f 3 1), dInt (f 3 2), dInt (f 4 0), dInt (f 4 1), dInt (f 4 2), dInt (f 5 0), dInt (f 5 1), dInt (f 5 2), dInt (f 6 0), dInt (f 6 1), dInt (f 6 2), dInt (f 7 0), dInt (f 7 1), dInt (f 7 2)] true)] (by repeat (first | exact trivial | refine ⟨.same (congrArg dInt (wrap_up (by omega))), ?_⟩ | refine ⟨.same rfl, ?_⟩ | refine ⟨.any _, ?_⟩)) ⟨⟨rfl, rfl, rfl, setS⟩, ⟨rfl, rfl, rfl, .same rfl, rfl, .same rfl, rfl, .same rfl, rfl, .same rfl, rfl, .same rfl, rfl, .same rfl, rfl, .same rfl, rfl, .same rfl, rfl, .same rfl, rfl, .same rfl, rfl, .same rfl, rfl, .same rfl, rfl, .same rfl, rfl, .same rfl, rfl, .same rfl, rfl, .same rfl, rfl, .same rfl, rfl, .same rfl, rfl, .same rfl, rfl, .same rfl, rfl, .same rfl, rfl, .same rfl, rfl, .same rfl, rfl, .same rfl, rfl, trivial⟩, ⟨rfl, rfl, rfl, .same rfl, rfl, .same rfl, rfl, .same rfl, rfl, .same rfl, rfl, .same rfl, rfl, .same rfl, rfl, .same rfl, rfl, .same rfl, rfl, .same rfl, rfl, .same rfl, rfl, .same rfl, rfl, .same rfl, rfl, .same rfl, rfl, .same rfl, rfl, .same rfl, rfl, .same rfl, rfl, .same rfl, rfl, .same rfl, rfl, .same rfl, rfl, .same rfl, rfl, .same rfl, rfl, .same rfl, rfl, .same rfl, rfl, .same rfl, rfl, trivial⟩, trivial⟩ rfl rfl) fun s' h => ⟨m - 1, by omega, k + 1, _, _, f, by omega, p3, h⟩
                      · refine BoolCase.no (by simpa using ht0) ?_
                        conv => whnf
                        repeat (first | (refine Conf.mk (by kernel_rfl) ?_; conv => whnf) | (refine SeqOk.go ?_; conv => whnf))
                        refine .look _ _ (most_ok t 5 c (by decide) (by decide) (by omega)) rfl rfl ?_
                        conv => whnf
                        repeat (first | (refine Conf.mk (by kernel_rfl) ?_; conv => whnf) | (refine SeqOk.go ?_; conv => whnf))
                        simp only
                        cases hmo : (mostV c (t 5)).2
                        · refine BoolCase.no rfl ?_
                          conv => whnf
                          repeat (first | (refine Conf.mk (by kernel_rfl) ?_; conv => whnf) | (refine SeqOk.go ?_; conv => whnf))
                          exact Into.mono (Into.to [0, 1, 2] [(8, dInt (k + 1 : Nat)), (5, .row 0), (6, .ptr 1 0), (7, .ptr 2 0), (0, .dat (.list (cs.map encI))), (1, .dat (.list (ss.map encI)))] [(0, .rows 43 3 (cur.map Sv.enc) true), (1, .vars 58 24 [dInt (t 0 0), dInt (t 0 1), dInt (t 0 2), dInt (t 1 0), dInt (t 1 1), dInt (t 1 2), dInt (t 2 0), dInt (t 2 1), dInt (t 2 2), dInt (t 3 0), dInt (t 3 1), dInt (t 3 2), dInt (t 4 0), dInt (t 4 1), dInt (t 4 2), dInt (t 5 0), dInt (t 5 1), dInt (t 5 2), dInt (t 6 0), dInt (t 6 1), dInt (t 6 2), dInt (t 7 0), dInt (t 7 1), dInt (t 7 2)] true), (2, .vars 58 24 [dInt (f 0 0), dInt (f 0 1), dInt (f 0 2), dInt (f 1 0), dInt (f 1 1), dInt (f 1 2), dInt (f 2 0), dInt (f 2 1), dInt (f 2 2), dInt (f 3 0), dInt (f 3 1), dInt (f 3 2), dInt (f 4 0), dInt (f 4 1), dInt (f 4 2), dInt (f 5 0), dInt (f 5 1), dInt (f 5 2), dInt (f 6 0), dInt (f 6 1), dInt (f 6 2), dInt (f 7 0), dInt (f 7 1), dInt (f 7 2)] true)] (by repeat (first | exact trivial | refine ⟨.same (congrArg dInt (wrap_up (by omega))), ?_⟩ | refine ⟨.same rfl, ?_⟩ | refine ⟨.any _, ?_⟩)) ⟨⟨rfl, rfl, rfl, rfl⟩, ⟨rfl, rfl, rfl, .same rfl, rfl, .same rfl, rfl, .same rfl, rfl, .same rfl, rfl, .same rfl, rfl, .same rfl, rfl, .same rfl, rfl, .same rfl, rfl, .same rfl, rfl, .same rfl, rfl, .same rfl, rfl, .same rfl, rfl, .same rfl, rfl, .same rfl, rfl, .same rfl, rfl, .same rfl, rfl, .same rfl, rfl, .same rfl, rfl, .same rfl, rfl, .same rfl, rfl, .same rfl, rfl, .same rfl, rfl, .same rfl, rfl, .same rfl, rfl, trivial⟩, ⟨rfl, rfl, rfl, .same rfl, rfl, .same rfl, rfl, .same rfl, rfl, .same rfl, rfl, .same rfl, rfl, .same rfl, rfl, .same rfl, rfl, .same rfl, rfl, .same rfl, rfl, .same rfl, rfl, .same rfl, rfl, .same rfl, rfl, .same rfl, rfl, .same rfl, rfl, .same rfl, rfl, .same rfl, rfl, .same rfl, rfl, .same rfl, rfl, .same rfl, rfl, .same rfl, rfl, .same rfl, rfl, .same rfl, rfl, .same rfl, rfl, .same rfl, rfl, trivial⟩, trivial⟩ rfl rfl) fun s' h => ⟨m - 1, by omega, k + 1, cur, t, f, by omega, hI, h⟩
                        · have hmv : mostV (colN cs 5) (t 5) = ((mostV c (t 5)).1, true) := by rw [hcc, ← hmo]
                          obtain ⟨p1, p2, p3⟩ := hI.comm hs (by decide) (by decide) (by decide) hbn ht0 hf0 hmv
                          have hso2 := right_ok (right_of_err p2)
                          generalize (mostV c (t 5)).1 = T at p1 p2 p3 hso2
                          refine BoolCase.yes rfl ?_
                          conv => whnf
                          repeat (first | (refine Conf.mk (by kernel_rfl) ?_; conv => whnf) | (refine SeqOk.go ?_; conv => whnf))
                          refine atS rfl hs ?_
                          conv => whnf
                          repeat (first | (refine Conf.mk (by kernel_rfl) ?_; conv => whnf) | (refine SeqOk.go ?_; conv => whnf))
                          refine elS hs ?_
                          conv => whnf
                          repeat (first | (refine Conf.mk (by kernel_rfl) ?_; conv => whnf) | (refine SeqOk.go ?_; conv => whnf))
                          refine .data _ _ (scomm_ok s (5 : Nat) T hso.1 hso.2) rfl ?_
                          conv => whnf
                          repeat (first | (refine Conf.mk (by kernel_rfl) ?_; conv => whnf) | (refine SeqOk.go ?_; conv => whnf))
                          simp only
                          refine BoolCase.no (by rw [p1]; rfl) ?_
                          conv => whnf
                          repeat (first | (refine Conf.mk (by kernel_rfl) ?_; conv => whnf) | (refine SeqOk.go ?_; conv => whnf))
                          refine .data _ _ (scheck_ok (s.commR ((5 : Nat) : Int) T) hso2.1 hso2.2) rfl ?_
                          conv => whnf
                          repeat (first | (refine Conf.mk (by kernel_rfl) ?_; conv => whnf) | (refine SeqOk.go ?_; conv => whnf))
                          refine BoolCase.no (by rw [p2]; rfl) ?_
                          conv => whnf
                          repeat (first | (refine Conf.mk (by kernel_rfl) ?_; conv => whnf) | (refine SeqOk.go ?_; conv => whnf))
                          simp only
                          refine atS rfl hs ?_
                          conv => whnf
                          repeat (first | (refine Conf.mk (by kernel_rfl) ?_; conv => whnf) | (refine SeqOk.go ?_; conv => whnf))
                          refine elS hs ?_
                          conv => whnf
                          repeat (first | (refine Conf.mk (by kernel_rfl) ?_; conv => whnf) | (refine SeqOk.go ?_; conv => whnf))
                          refine .mk 5 rfl (by decide) ?_
                          conv => whnf
                          repeat (first | (refine Conf.mk (by kernel_rfl) ?_; conv => whnf) | (refine SeqOk.go ?_; conv => whnf))
                          refine .mk 1 rfl (by decide) ?_
                          conv => whnf
                          repeat (first | (refine Conf.mk (by kernel_rfl) ?_; conv => whnf) | (refine SeqOk.go ?_; conv => whnf))
                          simp only
                          generalize s.commR ((5 : Nat) : Int) T = x at p3
                          exact Into.mono (Into.to [0, 1, 2] [(8, dInt (k + 1 : Nat)), (5, .row 0), (6, .ptr 1 0), (7, .ptr 2 0), (0, .dat (.list (cs.map encI))), (1, .dat (.list (ss.map encI)))] [(0, .rows 43 3 ((cur.set 1 x).map Sv.enc) true), (1, .vars 58 24 [dInt (t 0 0), dInt (t 0 1), dInt (t 0 2), dInt (t 1 0), dInt (t 1 1), dInt (t 1 2), dInt (t 2 0), dInt (t 2 1), dInt (t 2 2), dInt (t 3 0), dInt (t 3 1), dInt (t 3 2), dInt (t 4 0), dInt (t 4 1), dInt (t 4 2), dInt (t 5 0), dInt (t 5 1), dInt (t 5 2), dInt (t 6 0), dInt (t 6 1), dInt (t 6 2), dInt (t 7 0), dInt (t 7 1), dInt (t 7 2)] true), (2, .vars 58 24 [dInt (upd f 5 1 T 0 0), dInt (upd f 5 1 T 0 1), dInt (upd f 5 1 T 0 2), dInt (upd f 5 1 T 1 0), dInt (upd f 5 1 T 1 1), dInt (upd f 5 1 T 1 2), dInt (upd f 5 1 T 2 0), dInt (upd f 5 1 T 2 1), dInt (upd f 5 1 T 2 2), dInt (upd f 5 1 T 3 0), dInt (upd f 5 1 T 3 1), dInt (upd f 5 1 T 3 2), dInt (upd f 5 1 T 4 0), dInt (upd f 5 1 T 4 1), dInt (upd f 5 1 T 4 2), dInt (upd f 5 1 T 5 0), dInt (upd f 5 1 T 5 1), dInt (upd f 5 1 T 5 2), dInt (upd f 5 1 T 6 0), dInt (upd f 5 1 T 6 1), dInt (upd f 5 1 T 6 2), dInt (upd f 5 1 T 7 0), dInt (upd f 5 1 T 7 1), dInt (upd f 5 1 T 7 2)] true)] (by repeat (first | exact trivial | refine ⟨.same (congrArg dInt (wrap_up (by omega))), ?_⟩ | refine ⟨.same rfl, ?_⟩ | refine ⟨.any _, ?_⟩)) ⟨⟨rfl, rfl, rfl, setS⟩, ⟨rfl, rfl, rfl, .same rfl, rfl, .same rfl, rfl, .same rfl, rfl, .same rfl, rfl, .same rfl, rfl, .same rfl, rfl, .same rfl, rfl, .same rfl, rfl, .same rfl, rfl, .same rfl, rfl, .same rfl, rfl, .same rfl, rfl, .same rfl, rfl, .same rfl, rfl, .same rfl, rfl, .same rfl, rfl, .same rfl, rfl, .same rfl, rfl, .same rfl, rfl, .same rfl, rfl, .same rfl, rfl, .same rfl, rfl, .same rfl, rfl, .same rfl, rfl, trivial⟩, ⟨rfl, rfl, rfl, .same rfl, rfl, .same rfl, rfl, .same rfl, rfl, .same rfl, rfl, .same rfl, rfl, .same rfl, rfl, .same rfl, rfl, .same rfl, rfl, .same rfl, rfl, .same rfl, rfl, .same rfl, rfl, .same rfl, rfl, .same rfl, rfl, .same rfl, rfl, .same rfl, rfl, .same rfl, rfl, .same rfl, rfl, .same rfl, rfl, .same rfl, rfl, .same rfl, rfl, .same rfl, rfl, .same rfl, rfl, .same rfl, rfl, .same rfl, rfl, trivial⟩, trivial⟩ rfl rfl) fun s' h => ⟨m - 1, by omega, k + 1, _, t, _, by omega, p3, h⟩
                  · refine .mk 5 rfl (by decide) ?_
                    conv => whnf
                    repeat (first | (refine Conf.mk (by kernel_rfl) ?_; conv => whnf) | (refine SeqOk.go ?_; conv => whnf))
                    refine .mk 2 rfl (by decide) ?_
                    conv => whnf
                    repeat (first | (refine Conf.mk (by kernel_rfl) ?_; conv => whnf) | (refine SeqOk.go ?_; conv => whnf))
                    obtain ⟨s, hs⟩ := hget 2 (by decide)
                    have hbn : bitOf (colN cs 5) 2 = true := by rw [hcc]; exact hb
                    have hsr := hI.right 2 s hs
                    have hso := right_ok hsr
                    by_cases hf0 : 0 < f 5 2
                    · refine BoolCase.yes (by simpa using hf0) ?_
                      conv => whnf
                      repeat (first | (refine Conf.mk (by kernel_rfl) ?_; conv => whnf) | (refine SeqOk.go ?_; conv => whnf))
                      exact Into.mono (Into.to [0, 1, 2] [(8, dInt (k + 1 : Nat)), (5, .row 0), (6, .ptr 1 0), (7, .ptr 2 0), (0, .dat (.list (cs.map encI))), (1, .dat (.list (ss.map encI)))] [(0, .rows 43 3 (cur.map Sv.enc) true), (1, .vars 58 24 [dInt (t 0 0), dInt (t 0 1), dInt (t 0 2), dInt (t 1 0), dInt (t 1 1), dInt (t 1 2), dInt (t 2 0), dInt (t 2 1), dInt (t 2 2), dInt (t 3 0), dInt (t 3 1), dInt (t 3 2), dInt (t 4 0), dInt (t 4 1), dInt (t 4 2), dInt (t 5 0), dInt (t 5 1), dInt (t 5 2), dInt (t 6 0), dInt (t 6 1), dInt (t 6 2), dInt (t 7 0), dInt (t 7 1), dInt (t 7 2)] true), (2, .vars 58 24 [dInt (f 0 0), dInt (f 0 1), dInt (f 0 2), dInt (f 1 0), dInt (f 1 1), dInt (f 1 2), dInt (f 2 0), dInt (f 2 1), dInt (f 2 2), dInt (f 3 0), dInt (f 3 1), dInt (f 3 2), dInt (f 4 0), dInt (f 4 1), dInt (f 4 2), dInt (f 5 0), dInt (f 5 1), dInt (f 5 2), dInt (f 6 0), dInt (f 6 1), dInt (f 6 2), dInt (f 7 0), dInt (f 7 1), dInt (f 7 2)] true)] (by repeat (first | exact trivial | refine ⟨.same (congrArg dInt (wrap_up (by omega))), ?_⟩ | refine ⟨.same rfl, ?_⟩ | refine ⟨.any _, ?_⟩)) ⟨⟨rfl, rfl, rfl, rfl⟩, ⟨rfl, rfl, rfl, .same rfl, rfl, .same rfl, rfl, .same rfl, rfl, .same rfl, rfl, .same rfl, rfl, .same rfl, rfl, .same rfl, rfl, .same rfl, rfl, .same rfl, rfl, .same rfl, rfl, .same rfl, rfl, .same rfl, rfl, .same rfl, rfl, .same rfl, rfl, .same rfl, rfl, .same rfl, rfl, .same rfl, rfl, .same rfl, rfl, .same rfl, rfl, .same rfl, rfl, .same rfl, rfl, .same rfl, rfl, .same rfl, rfl, .same rfl, rfl, trivial⟩, ⟨rfl, rfl, rfl, .same rfl, rfl, .same rfl, rfl, .same rfl, rfl, .same rfl, rfl, .same rfl, rfl, .same rfl, rfl, .same rfl, rfl, .same rfl, rfl, .same rfl, rfl, .same rfl, rfl, .same rfl, rfl, .same rfl, rfl, .same rfl, rfl, .same rfl, rfl, .same rfl, rfl, .same rfl, rfl, .same rfl, rfl, .same rfl, rfl, .same rfl, rfl, .same rfl, rfl, .same rfl, rfl, .same rfl, rfl, .same rfl, rfl, .same rfl, rfl, trivial⟩, trivial⟩ rfl rfl) fun s' h => ⟨m - 1, by omega, k + 1, cur, t, f, by omega, hI, h⟩
                    · refine BoolCase.no (by simpa using hf0) ?_
                      conv => whnf
                      repeat (first | (refine Conf.mk (by kernel_rfl) ?_; conv => whnf) | (refine SeqOk.go ?_; conv => whnf))
                      simp only
                      refine .mk 5 rfl (by decide) ?_
                      conv => whnf
                      repeat (first | (refine Conf.mk (by kernel_rfl) ?_; conv => whnf) | (refine SeqOk.go ?_; conv => whnf))
                      refine .mk 2 rfl (by decide) ?_
                      conv => whnf
                      repeat (first | (refine Conf.mk (by kernel_rfl) ?_; conv => whnf) | (refine SeqOk.go ?_; conv => whnf))
                      by_cases ht0 : t 5 2 = 0
                      · obtain ⟨p1, p2, p3⟩ := hI.prop hs (by decide) (by decide) (by decide) hbn ht0
                        refine BoolCase.yes (by simpa using ht0) ?_
                        conv => whnf
                        repeat (first | (refine Conf.mk (by kernel_rfl) ?_; conv => whnf) | (refine SeqOk.go ?_; conv => whnf))
                        refine atS rfl hs ?_
                        conv => whnf
                        repeat (first | (refine Conf.mk (by kernel_rfl) ?_; conv => whnf) | (refine SeqOk.go ?_; conv => whnf))
                        refine elS hs ?_
                        conv => whnf
                        repeat (first | (refine Conf.mk (by kernel_rfl) ?_; conv => whnf) | (refine SeqOk.go ?_; conv => whnf))
                        refine .data _ _ (sprop_ok s (5 : Nat) hso.1 hso.2) rfl ?_
                        conv => whnf
                        repeat (first | (refine Conf.mk (by kernel_rfl) ?_; conv => whnf) | (refine SeqOk.go ?_; conv => whnf))
                        simp only
                        refine BoolCase.no (by rw [p1]; rfl) ?_
                        conv => whnf
                        repeat (first | (refine Conf.mk (by kernel_rfl) ?_; conv => whnf) | (refine SeqOk.go ?_; conv => whnf))
                        refine BoolCase.no (by simp; omega) ?_
                        conv => whnf
                        repeat (first | (refine Conf.mk (by kernel_rfl) ?_; conv => whnf) | (refine SeqOk.go ?_; conv => whnf))
                        simp only
                        refine atS rfl hs ?_
                        conv => whnf
                        repeat (first | (refine Conf.mk (by kernel_rfl) ?_; conv => whnf) | (refine SeqOk.go ?_; conv => whnf))
                        refine elS hs ?_
                        conv => whnf
                        repeat (first | (refine Conf.mk (by kernel_rfl) ?_; conv => whnf) | (refine SeqOk.go ?_; conv => whnf))
                        refine .mk 5 rfl (by decide) ?_
                        conv => whnf
                        repeat (first | (refine Conf.mk (by kernel_rfl) ?_; conv => whnf) | (refine SeqOk.go ?_; conv => whnf))
                        refine .mk 2 rfl (by decide) ?_
                        conv => whnf
                        repeat (first | (refine Conf.mk (by kernel_rfl) ?_; conv => whnf) | (refine SeqOk.go ?_; conv => whnf))
                        simp only
                        generalize s.propR ((5 : Nat) : Int) = x at p2 p3
                        exact Into.mono (Into.to [0, 1, 2] [(8, dInt (k + 1 : Nat)), (5, .row 0), (6, .ptr 1 0), (7, .ptr 2 0), (0, .dat (.list (cs.map encI))), (1, .dat (.list (ss.map encI)))] [(0, .rows 43 3 ((cur.set 2 x).map Sv.enc) true), (1, .vars 58 24 [dInt (upd t 5 2 x.clock 0 0), dInt (upd t 5 2 x.clock 0 1), dInt (upd t 5 2 x.clock 0 2), dInt (upd t 5 2 x.clock 1 0), dInt (upd t 5 2 x.clock 1 1), dInt (upd t 5 2 x.clock 1 2), dInt (upd t 5 2 x.clock 2 0), dInt (upd t 5 2 x.clock 2 1), dInt (upd t 5 2 x.clock 2 2), dInt (upd t 5 2 x.clock 3 0), dInt (upd t 5 2 x.clock 3 1), dInt (upd t 5 2 x.clock 3 2), dInt (upd t 5 2 x.clock 4 0), dInt (upd t 5 2 x.clock 4 1), dInt (upd t 5 2 x.clock 4 2), dInt (upd t 5 2 x.clock 5 0), dInt (upd t 5 2 x.clock 5 1), dInt (upd t 5 2 x.clock 5 2), dInt (upd t 5 2 x.clock 6 0), dInt (upd t 5 2 x.clock 6 1), dInt (upd t 5 2 x.clock 6 2), dInt (upd t 5 2 x.clock 7 0), dInt (upd t 5 2 x.clock 7 1), dInt (upd t 5 2 x.clock 7 2)] true), (2, .vars 58 24 [dInt (f 0 0), dInt (f 0 1), dInt (f 0 2), dInt (f 1 0), dInt (f 1 1), dInt (f 1 2), dInt (f 2 0), dInt (f 2 1), dInt (f 2 2), dInt (f 3 0), dInt (f 3 1), dInt (f 3 2), dInt (f 4 0), dInt (f 4 1), dInt (f 4 2), dInt (f 5 0), dInt (f 5 1), dInt (f 5 2), dInt (f 6 0), dInt (f 6 1), dInt (f 6 2), dInt (f 7 0), dInt (f 7 1), dInt (f 7 2)] true)] (by repeat (first | exact trivial | refine ⟨.same (congrArg dInt (wrap_up (by omega))), ?_⟩ | refine ⟨.same rfl, ?_⟩ | refine ⟨.any _, ?_⟩)) ⟨⟨rfl, rfl, rfl, setS⟩, ⟨rfl, rfl, rfl, .same rfl, rfl, .same rfl, rfl, .same rfl, rfl, .same rfl, rfl, .same rfl, rfl, .same rfl, rfl, .same rfl, rfl, .same rfl, rfl, .same rfl, rfl, .same rfl, rfl, .same rfl, rfl, .same rfl, rfl, .same rfl, rfl, .same rfl, rfl, .same rfl, rfl, .same rfl, rfl, .same rfl, rfl, .same rfl, rfl, .same rfl, rfl, .same rfl, rfl, .same rfl, rfl, .same rfl, rfl, .same rfl, rfl, .same rfl, rfl, trivial⟩, ⟨rfl, rfl, rfl, .same rfl, rfl, .same rfl, rfl, .same rfl, rfl, .same rfl, rfl, .same rfl, rfl, .same rfl, rfl, .same rfl, rfl, .same rfl, rfl, .same rfl, rfl, .same rfl, rfl, .same rfl, rfl, .same rfl, rfl, .same rfl, rfl, .same rfl, rfl, .same rfl, rfl, .same rfl, rfl, .same rfl, rfl, .same rfl, rfl, .same rfl, rfl, .same rfl, rfl, .same rfl, rfl, .same rfl, rfl, .same rfl, rfl, .same rfl, rfl, trivial⟩, trivial⟩ rfl rfl) fun s' h => ⟨m - 1, by omega, k + 1, _, _, f, by omega, p3, h⟩
                      · refine BoolCase.no (by simpa using ht0) ?_
                        conv => whnf
                        repeat (first | (refine Conf.mk (by kernel_rfl) ?_; conv => whnf) | (refine SeqOk.go ?_; conv => whnf))
                        refine .look _ _ (most_ok t 5 c (by decide) (by decide) (by omega)) rfl rfl ?_
                        conv => whnf
                        repeat (first | (refine Conf.mk (by kernel_rfl) ?_; conv => whnf) | (refine SeqOk.go ?_; conv => whnf))
                        simp only
                        cases hmo : (mostV c (t 5)).2
                        · refine BoolCase.no rfl ?_
                          conv => whnf
                          repeat (first | (refine Conf.mk (by kernel_rfl) ?_; conv => whnf) | (refine SeqOk.go ?_; conv => whnf))
                          exact Into.mono (Into.to [0, 1, 2] [(8, dInt (k + 1 : Nat)), (5, .row 0), (6, .ptr 1 0), (7, .ptr 2 0), (0, .dat (.list (cs.map encI))), (1, .dat (.list (ss.map encI)))] [(0, .rows 43 3 (cur.map Sv.enc) true), (1, .vars 58 24 [dInt (t 0 0), dInt (t 0 1), dInt (t 0 2), dInt (t 1 0), dInt (t 1 1), dInt (t 1 2), dInt (t 2 0), dInt (t 2 1), dInt (t 2 2), dInt (t 3 0), dInt (t 3 1), dInt (t 3 2), dInt (t 4 0), dInt (t 4 1), dInt (t 4 2), dInt (t 5 0), dInt (t 5 1), dInt (t 5 2), dInt (t 6 0), dInt (t 6 1), dInt (t 6 2), dInt (t 7 0), dInt (t 7 1), dInt (t 7 2)] true), (2, .vars 58 24 [dInt (f 0 0), dInt (f 0 1), dInt (f 0 2), dInt (f 1 0), dInt (f 1 1), dInt (f 1 2), dInt (f 2 0), dInt (f 2 1), dInt (f 2 2), dInt (f 3 0), dInt (f 3 1), dInt (f 3 2), dInt (f 4 0), dInt (f 4 1), dInt (f 4 2), dInt (f 5 0), dInt (f 5 1), dInt (f 5 2), dInt (f 6 0), dInt (f 6 1), dInt (f 6 2), dInt (f 7 0), dInt (f 7 1), dInt (f 7 2)] true)] (by repeat (first | exact trivial | refine ⟨.same (congrArg dInt (wrap_up (by omega))), ?_⟩ | refine ⟨.same rfl, ?_⟩ | refine ⟨.any _, ?_⟩)) ⟨⟨rfl, rfl, rfl, rfl⟩, ⟨rfl, rfl, rfl, .same rfl, rfl, .same rfl, rfl, .same rfl, rfl, .same rfl, rfl, .same rfl, rfl, .same rfl, rfl, .same rfl, rfl, .same rfl, rfl, .same rfl, rfl, .same rfl, rfl, .same rfl, rfl, .same rfl, rfl, .same rfl, rfl, .same rfl, rfl, .same rfl, rfl, .same rfl, rfl, .same rfl, rfl, .same rfl, rfl, .same rfl, rfl, .same rfl, rfl, .same rfl, rfl, .same rfl, rfl, .same rfl, rfl, .same rfl, rfl, trivial⟩, ⟨rfl, rfl, rfl, .same rfl, rfl, .same rfl, rfl, .same rfl, rfl, .same rfl, rfl, .same rfl, rfl, .same rfl, rfl, .same rfl, rfl, .same rfl, rfl, .same rfl, rfl, .same rfl, rfl, .same rfl, rfl, .same rfl, rfl, .same rfl, rfl, .same rfl, rfl, .same rfl, rfl, .same rfl, rfl, .same rfl, rfl, .same rfl, rfl, .same rfl, rfl, .same rfl, rfl, .same rfl, rfl, .same rfl, rfl, .same rfl, rfl, .same rfl, rfl, trivial⟩, trivial⟩ rfl rfl) fun s' h => ⟨m - 1, by omega, k + 1, cur, t, f, by omega, hI, h⟩
                        · have hmv : mostV (colN cs 5) (t 5) = ((mostV c (t 5)).1, true) := by rw [hcc, ← hmo]
                          obtain ⟨p1, p2, p3⟩ := hI.comm hs (by decide) (by decide) (by decide) hbn ht0 hf0 hmv
                          have hso2 := right_ok (right_of_err p2)
                          generalize (mostV c (t 5)).1 = T at p1 p2 p3 hso2
                          refine BoolCase.yes rfl ?_
                          conv => whnf
                          repeat (first | (refine Conf.mk (by kernel_rfl) ?_; conv => whnf) | (refine SeqOk.go ?_; conv => whnf))
                          refine atS rfl hs ?_
                          conv => whnf
                          repeat (first | (refine Conf.mk (by kernel_rfl) ?_; conv => whnf) | (refine SeqOk.go ?_; conv => whnf))
                          refine elS hs ?_
                          conv => whnf
                          repeat (first | (refine Conf.mk (by kernel_rfl) ?_; conv => whnf) | (refine SeqOk.go ?_; conv => whnf))
                          refine .data _ _ (scomm_ok s (5 : Nat) T hso.1 hso.2) rfl ?_
                          conv => whnf
                          repeat (first | (refine Conf.mk (by kernel_rfl) ?_; conv => whnf) | (refine SeqOk.go ?_; conv => whnf))
                          simp only
                          refine BoolCase.no (by rw [p1]; rfl) ?_
                          conv => whnf
                          repeat (first | (refine Conf.mk (by kernel_rfl) ?_; conv => whnf) | (refine SeqOk.go ?_; conv => whnf))
                          refine .data _ _ (scheck_ok (s.commR ((5 : Nat) : Int) T) hso2.1 hso2.2) rfl ?_
                          conv => whnf
                          repeat (first | (refine Conf.mk (by kernel_rfl) ?_; conv => whnf) | (refine SeqOk.go ?_; conv => whnf))
                          refine BoolCase.no (by rw [p2]; rfl) ?_
                          conv => whnf
                          repeat (first | (refine Conf.mk (by kernel_rfl) ?_; conv => whnf) | (refine SeqOk.go ?_; conv => whnf))
                          simp only
                          refine atS rfl hs ?_
                          conv => whnf
                          repeat (first | (refine Conf.mk (by kernel_rfl) ?_; conv => whnf) | (refine SeqOk.go ?_; conv => whnf))
                          refine elS hs ?_
                          conv => whnf
                          repeat (first | (refine Conf.mk (by kernel_rfl) ?_; conv => whnf) | (refine SeqOk.go ?_; conv => whnf))
                          refine .mk 5 rfl (by decide) ?_
                          conv => whnf
                          repeat (first | (refine Conf.mk (by kernel_rfl) ?_; conv => whnf) | (refine SeqOk.go ?_; conv => whnf))
                          refine .mk 2 rfl (by decide) ?_
                          conv => whnf
                          repeat (first | (refine Conf.mk (by kernel_rfl) ?_; conv => whnf) | (refine SeqOk.go ?_; conv => whnf))
                          simp only
                          generalize s.commR ((5 : Nat) : Int) T = x at p3
                          exact Into.mono (Into.to [0, 1, 2] [(8, dInt (k + 1 : Nat)), (5, .row 0), (6, .ptr 1 0), (7, .ptr 2 0), (0, .dat (.list (cs.map encI))), (1, .dat (.list (ss.map encI)))] [(0, .rows 43 3 ((cur.set 2 x).map Sv.enc) true), (1, .vars 58 24 [dInt (t 0 0), dInt (t 0 1), dInt (t 0 2), dInt (t 1 0), dInt (t 1 1), dInt (t 1 2), dInt (t 2 0), dInt (t 2 1), dInt (t 2 2), dInt (t 3 0), dInt (t 3 1), dInt (t 3 2), dInt (t 4 0), dInt (t 4 1), dInt (t 4 2), dInt (t 5 0), dInt (t 5 1), dInt (t 5 2), dInt (t 6 0), dInt (t 6 1), dInt (t 6 2), dInt (t 7 0), dInt (t 7 1), dInt (t 7 2)] true), (2, .vars 58 24 [dInt (upd f 5 2 T 0 0), dInt (upd f 5 2 T 0 1), dInt (upd f 5 2 T 0 2), dInt (upd f 5 2 T 1 0), dInt (upd f 5 2 T 1 1), dInt (upd f 5 2 T 1 2), dInt (upd f 5 2 T 2 0), dInt (upd f 5 2 T 2 1), dInt (upd f 5 2 T 2 2), dInt (upd f 5 2 T 3 0), dInt (upd f 5 2 T 3 1), dInt (upd f 5 2 T 3 2), dInt (upd f 5 2 T 4 0), dInt (upd f 5 2 T 4 1), dInt (upd f 5 2 T 4 2), dInt (upd f 5 2 T 5 0), dInt (upd f 5 2 T 5 1), dInt (upd f 5 2 T 5 2), dInt (upd f 5 2 T 6 0), dInt (upd f 5 2 T 6 1), dInt (upd f 5 2 T 6 2), dInt (upd f 5 2 T 7 0), dInt (upd f 5 2 T 7 1), dInt (upd f 5 2 T 7 2)] true)] (by repeat (first | exact trivial | refine ⟨.same (congrArg dInt (wrap_up (by omega))), ?_⟩ | refine ⟨.same rfl, ?_⟩ | refine ⟨.any _, ?_⟩)) ⟨⟨rfl, rfl, rfl, setS⟩, ⟨rfl, rfl, rfl, .same rfl, rfl, .same rfl, rfl, .same rfl, rfl, .same rfl, rfl, .same rfl, rfl, .same rfl, rfl, .same rfl, rfl, .same rfl, rfl, .same rfl, rfl, .same rfl, rfl, .same rfl, rfl, .same rfl, rfl, .same rfl, rfl, .same rfl, rfl, .same rfl, rfl, .same rfl, rfl, .same rfl, rfl, .same rfl, rfl, .same rfl, rfl, .same rfl, rfl, .same rfl, rfl, .same rfl, rfl, .same rfl, rfl, .same rfl, rfl, trivial⟩, ⟨rfl, rfl, rfl, .same rfl, rfl, .same rfl, rfl, .same rfl, rfl, .same rfl, rfl, .same rfl, rfl, .same rfl, rfl, .same rfl, rfl, .same rfl, rfl, .same rfl, rfl, .same rfl, rfl, .same rfl, rfl, .same rfl, rfl, .same rfl, rfl, .same rfl, rfl, .same rfl, rfl, .same rfl, rfl, .same rfl, rfl, .same rfl, rfl, .same rfl, rfl, .same rfl, rfl, .same rfl, rfl, .same rfl, rfl, .same rfl, rfl, .same rfl, rfl, trivial⟩, trivial⟩ rfl rfl) fun s' h => ⟨m - 1, by omega, k + 1, _, t, _, by omega, p3, h⟩
                  · refine .mk 6 rfl (by decide) ?_
                    conv => whnf
                    repeat (first | (refine Conf.mk (by kernel_rfl) ?_; conv => whnf) | (refine SeqOk.go ?_; conv => whnf))
                    refine .mk 0 rfl (by decide) ?_
                    conv => whnf
                    repeat (first | (refine Conf.mk (by kernel_rfl) ?_; conv => whnf) | (refine SeqOk.go ?_; conv => whnf))
                    obtain ⟨s, hs⟩ := hget 0 (by decide)
                    have hbn : bitOf (colN cs 6) 0 = true := by rw [hcc]; exact hb
                    have hsr := hI.right 0 s hs
                    have hso := right_ok hsr
                    by_cases hf0 : 0 < f 6 0
                    · refine BoolCase.yes (by simpa using hf0) ?_
                      conv => whnf
                      repeat (first | (refine Conf.mk (by kernel_rfl) ?_; conv => whnf) | (refine SeqOk.go ?_; conv => whnf))
                      exact Into.mono (Into.to [0, 1, 2] [(8, dInt (k + 1 : Nat)), (5, .row 0), (6, .ptr 1 0), (7, .ptr 2 0), (0, .dat (.list (cs.map encI))), (1, .dat (.list (ss.map encI)))] [(0, .rows 43 3 (cur.map Sv.enc) true), (1, .vars 58 24 [dInt (t 0 0), dInt (t 0 1), dInt (t 0 2), dInt (t 1 0), dInt (t 1 1), dInt (t 1 2), dInt (t 2 0), dInt (t 2 1), dInt (t 2 2), dInt (t 3 0), dInt (t 3 1), dInt (t 3 2), dInt (t 4 0), dInt (t 4 1), dInt (t 4 2), dInt (t 5 0), dInt (t 5 1), dInt (t 5 2), dInt (t 6 0), dInt (t 6 1), dInt (t 6 2), dInt (t 7 0), dInt (t 7 1), dInt (t 7 2)] true), (2, .vars 58 24 [dInt (f 0 0), dInt (f 0 1), dInt (f 0 2), dInt (f 1 0), dInt (f 1 1), dInt (f 1 2), dInt (f 2 0), dInt (f 2 1), dInt (f 2 2), dInt (f 3 0), dInt (f 3 1), dInt (f 3 2), dInt (f 4 0), dInt (f 4 1), dInt (f 4 2), dInt (f 5 0), dInt (f 5 1), dInt (f 5 2), dInt (f 6 0), dInt (f 6 1), dInt (f 6 2), dInt (f 7 0), dInt (f 7 1), dInt (f 7 2)] true)] (by repeat (first | exact trivial | refine ⟨.same (congrArg dInt (wrap_up (by omega))), ?_⟩ | refine ⟨.same rfl, ?_⟩ | refine ⟨.any _, ?_⟩)) ⟨⟨rfl, rfl, rfl, rfl⟩, ⟨rfl, rfl, rfl, .same rfl, rfl, .same rfl, rfl, .same rfl, rfl, .same rfl, rfl, .same rfl, rfl, .same rfl, rfl, .same rfl, rfl, .same rfl, rfl, .same rfl, rfl, .same rfl, rfl, .same rfl, rfl, .same rfl, rfl, .same rfl, rfl, .same rfl, rfl, .same rfl, rfl, .same rfl, rfl, .same rfl, rfl, .same rfl, rfl, .same rfl, rfl, .same rfl, rfl, .same rfl, rfl, .same rfl, rfl, .same rfl, rfl, .same rfl, rfl, trivial⟩, ⟨rfl, rfl, rfl, .same rfl, rfl, .same rfl, rfl, .same rfl, rfl, .same rfl, rfl, .same rfl, rfl, .same rfl, rfl, .same rfl, rfl, .same rfl, rfl, .same rfl, rfl, .same rfl, rfl, .same rfl, rfl, .same rfl, rfl, .same rfl, rfl, .same rfl, rfl, .same rfl, rfl, .same rfl, rfl, .same rfl, rfl, .same rfl, rfl, .same rfl, rfl, .same rfl, rfl, .same rfl, rfl, .same rfl, rfl, .same rfl, rfl, .same rfl, rfl, trivial⟩, trivial⟩ rfl rfl) fun s' h => ⟨m - 1, by omega, k + 1, cur, t, f, by omega, hI, h⟩
                    · refine BoolCase.no (by simpa using hf0) ?_
                      conv => whnf
                      repeat (first | (refine Conf.mk (by kernel_rfl) ?_; conv => whnf) | (refine SeqOk.go ?_; conv => whnf))
                      simp only
                      refine .mk 6 rfl (by decide) ?_
                      conv => whnf
                      repeat (first | (refine Conf.mk (by kernel_rfl) ?_; conv => whnf) | (refine SeqOk.go ?_; conv => whnf))
                      refine .mk 0 rfl (by decide) ?_
                      conv => whnf
                      repeat (first | (refine Conf.mk (by kernel_rfl) ?_; conv => whnf) | (refine SeqOk.go ?_; conv => whnf))
                      by_cases ht0 : t 6 0 = 0
                      · obtain ⟨p1, p2, p3⟩ := hI.prop hs (by decide) (by decide) (by decide) hbn ht0
                        refine BoolCase.yes (by simpa using ht0) ?_
                        conv => whnf
                        repeat (first | (refine Conf.mk (by kernel_rfl) ?_; conv => whnf) | (refine SeqOk.go ?_; conv => whnf))
                        refine atS rfl hs ?_
                        conv => whnf
                        repeat (first | (refine Conf.mk (by kernel_rfl) ?_; conv => whnf) | (refine SeqOk.go ?_; conv => whnf))
                        refine elS hs ?_
                        conv => whnf
                        repeat (first | (refine Conf.mk (by kernel_rfl) ?_; conv => whnf) | (refine SeqOk.go ?_; conv => whnf))
                        refine .data _ _ (sprop_ok s (6 : Nat) hso.1 hso.2) rfl ?_
                        conv => whnf
                        repeat (first | (refine Conf.mk (by kernel_rfl) ?_; conv => whnf) | (refine SeqOk.go ?_; conv => whnf))
                        simp only
                        refine BoolCase.no (by rw [p1]; rfl) ?_
                        conv => whnf
                        repeat (first | (refine Conf.mk (by kernel_rfl) ?_; conv => whnf) | (refine SeqOk.go ?_; conv => whnf))
                        refine BoolCase.no (by simp; omega) ?_
                        conv => whnf
                        repeat (first | (refine Conf.mk (by kernel_rfl) ?_; conv => whnf) | (refine SeqOk.go ?_; conv => whnf))
                        simp only
                        refine atS rfl hs ?_
                        conv => whnf
                        repeat (first | (refine Conf.mk (by kernel_rfl) ?_; conv => whnf) | (refine SeqOk.go ?_; conv => whnf))
                        refine elS hs ?_
                        conv => whnf
                        repeat (first | (refine Conf.mk (by kernel_rfl) ?_; conv => whnf) | (refine SeqOk.go ?_; conv => whnf))
                        refine .mk 6 rfl (by decide) ?_
                        conv => whnf
                        repeat (first | (refine Conf.mk (by kernel_rfl) ?_; conv => whnf) | (refine SeqOk.go ?_; conv => whnf))
                        refine .mk 0 rfl (by decide) ?_
                        conv => whnf
                        repeat (first | (refine Conf.mk (by kernel_rfl) ?_; conv => whnf) | (refine SeqOk.go ?_; conv => whnf))
                        simp only
                        generalize s.propR ((6 : Nat) : Int) = x at p2 p3
                        exact Into.mono (Into.to [0, 1, 2] [(8, dInt (k + 1 : Nat)), (5, .row 0), (6, .ptr 1 0), (7, .ptr 2 0), (0, .dat (.list (cs.map encI))), (1, .dat (.list (ss.map encI)))] [(0, .rows 43 3 ((cur.set 0 x).map Sv.enc) true), (1, .vars 58 24 [dInt (upd t 6 0 x.clock 0 0), dInt (upd t 6 0 x.clock 0 1), dInt (upd t 6 0 x.clock 0 2), dInt (upd t 6 0 x.clock 1 0), dInt (upd t 6 0 x.clock 1 1), dInt (upd t 6 0 x.clock 1 2), dInt (upd t 6 0 x.clock 2 0), dInt (upd t 6 0 x.clock 2 1), dInt (upd t 6 0 x.clock 2 2), dInt (upd t 6 0 x.clock 3 0), dInt (upd t 6 0 x.clock 3 1), dInt (upd t 6 0 x.clock 3 2), dInt (upd t 6 0 x.clock 4 0), dInt (upd t 6 0 x.clock 4 1), dInt (upd t 6 0 x.clock 4 2), dInt (upd t 6 0 x.clock 5 0), dInt (upd t 6 0 x.clock 5 1), dInt (upd t 6 0 x.clock 5 2), dInt (upd t 6 0 x.clock 6 0), dInt (upd t 6 0 x.clock 6 1), dInt (upd t 6 0 x.clock 6 2), dInt (upd t 6 0 x.clock 7 0), dInt (upd t 6 0 x.clock 7 1), dInt (upd t 6 0 x.clock 7 2)] true), (2, .vars 58 24 [dInt (f 0 0), dInt (f 0 1), dInt (f 0 2), dInt (f 1 0), dInt (f 1 1), dInt (f 1 2), dInt (f 2 0), dInt (f 2 1), dInt (f 2 2), dInt (f 3 0), dInt (f 3 1), dInt (f 3 2), dInt (f 4 0), dInt (f 4 1), dInt (f 4 2), dInt (f 5 0), dInt (f 5 1), dInt (f 5 2), dInt (f 6 0), dInt (f 6 1), dInt (f 6 2), dInt (f 7 0), dInt (f 7 1), dInt (f 7 2)] true)] (by repeat (first | exact trivial | refine ⟨.same (congrArg dInt (wrap_up (by omega))), ?_⟩ | refine ⟨.same rfl, ?_⟩ | refine ⟨.any _, ?_⟩)) ⟨⟨rfl, rfl, rfl, setS⟩, ⟨rfl, rfl, rfl, .same rfl, rfl, .same rfl, rfl, .same rfl, rfl, .same rfl, rfl, .same rfl, rfl, .same rfl, rfl, .same rfl, rfl, .same rfl, rfl, .same rfl, rfl, .same rfl, rfl, .same rfl, rfl, .same rfl, rfl, .same rfl, rfl, .same rfl, rfl, .same rfl, rfl, .same rfl, rfl, .same rfl, rfl, .same rfl, rfl, .same rfl, rfl, .same rfl, rfl, .same rfl, rfl, .same rfl, rfl, .same rfl, rfl, .same rfl, rfl, trivial⟩, ⟨rfl, rfl, rfl, .same rfl, rfl, .same rfl, rfl, .same rfl, rfl, .same rfl, rfl, .same rfl, rfl, .same rfl, rfl, .same rfl, rfl, .same rfl, rfl, .same rfl, rfl, .same rfl, rfl, .same rfl, rfl, .same rfl, rfl, .same rfl, rfl, .same rfl, rfl, .same rfl, rfl, .same rfl, rfl, .same rfl, rfl, .same rfl, rfl, .same rfl, rfl, .same rfl, rfl, .same rfl, rfl, .same rfl, rfl, .same rfl, rfl, .same rfl, rfl, trivial⟩, trivial⟩ rfl rfl) fun s' h => ⟨m - 1, by omega, k + 1, _, _, f, by omega, p3, h⟩
                      · refine BoolCase.no (by simpa using ht0) ?_
                        conv => whnf
                        repeat (first | (refine Conf.mk (by kernel_rfl) ?_; conv => whnf) | (refine SeqOk.go ?_; conv => whnf))
                        refine .look _ _ (most_ok t 6 c (by decide) (by decide) (by omega)) rfl rfl ?_
                        conv => whnf
                        repeat (first | (refine Conf.mk (by kernel_rfl) ?_; conv => whnf) | (refine SeqOk.go ?_; conv => whnf))
                        simp only
                        cases hmo : (mostV c (t 6)).2
                        · refine BoolCase.no rfl ?_
                          conv => whnf
                          repeat (first | (refine Conf.mk (by kernel_rfl) ?_; conv => whnf) | (refine SeqOk.go ?_; conv => whnf))
                          exact Into.mono (Into.to [0, 1, 2] [(8, dInt (k + 1 : Nat)), (5, .row 0), (6, .ptr 1 0), (7, .ptr 2 0), (0, .dat (.list (cs.map encI))), (1, .dat (.list (ss.map encI)))] [(0, .rows 43 3 (cur.map Sv.enc) true), (1, .vars 58 24 [dInt (t 0 0), dInt (t 0 1), dInt (t 0 2), dInt (t 1 0), dInt (t 1 1), dInt (t 1 2), dInt (t 2 0), dInt (t 2 1), dInt (t 2 2), dInt (t 3 0), dInt (t 3 1), dInt (t 3 2), dInt (t 4 0), dInt (t 4 1), dInt (t 4 2), dInt (t 5 0), dInt (t 5 1), dInt (t 5 2), dInt (t 6 0), dInt (t 6 1), dInt (t 6 2), dInt (t 7 0), dInt (t 7 1), dInt (t 7 2)] true), (2, .vars 58 24 [dInt (f 0 0), dInt (f 0 1), dInt (f 0 2), dInt (f 1 0), dInt (f 1 1), dInt (f 1 2), dInt (f 2 0), dInt (f 2 1), dInt (f 2 2), dInt (f 3 0), dInt (f 3 1), dInt (f 3 2), dInt (f 4 0), dInt (f 4 1), dInt (f 4 2), dInt (f 5 0), dInt (f 5 1), dInt (f 5 2), dInt (f 6 0), dInt (f 6 1), dInt (f 6 2), dInt (f 7 0), dInt (f 7 1), dInt (f 7 2)] true)] (by repeat (first | exact trivial | refine ⟨.same (congrArg dInt (wrap_up (by omega))), ?_⟩ | refine ⟨.same rfl, ?_⟩ | refine ⟨.any _, ?_⟩)) ⟨⟨rfl, rfl, rfl, rfl⟩, ⟨rfl, rfl, rfl, .same rfl, rfl, .same rfl, rfl, .same rfl, rfl, .same rfl, rfl, .same rfl, rfl, .same rfl, rfl, .same rfl, rfl, .same rfl, rfl, .same rfl, rfl, .same rfl, rfl, .same rfl, rfl, .same rfl, rfl, .same rfl, rfl, .same rfl, rfl, .same rfl, rfl, .same rfl, rfl, .same rfl, rfl, .same rfl, rfl, .same rfl, rfl, .same rfl, rfl, .same rfl, rfl, .same rfl, rfl, .same rfl, rfl, .same rfl, rfl, trivial⟩, ⟨rfl, rfl, rfl, .same rfl, rfl, .same rfl, rfl, .same rfl, rfl, .same rfl, rfl, .same rfl, rfl, .same rfl, rfl, .same rfl, rfl, .same rfl, rfl, .same rfl, rfl, .same rfl, rfl, .same rfl, rfl, .same rfl, rfl, .same rfl, rfl, .same rfl, rfl, .same rfl, rfl, .same rfl, rfl, .same rfl, rfl, .same rfl, rfl, .same rfl, rfl, .same rfl, rfl, .same rfl, rfl, .same rfl, rfl, .same rfl, rfl, .same rfl, rfl, trivial⟩, trivial⟩ rfl rfl) fun s' h => ⟨m - 1, by omega, k + 1, cur, t, f, by omega, hI, h⟩
                        · have hmv : mostV (colN cs 6) (t 6) = ((mostV c (t 6)).1, true) := by rw [hcc, ← hmo]
                          obtain ⟨p1, p2, p3⟩ := hI.comm hs (by decide) (by decide) (by decide) hbn ht0 hf0 hmv
                          have hso2 := right_ok (right_of_err p2)
                          generalize (mostV c (t 6)).1 = T at p1 p2 p3 hso2
                          refine BoolCase.yes rfl ?_
                          conv => whnf
                          repeat (first | (refine Conf.mk (by kernel_rfl) ?_; conv => whnf) | (refine SeqOk.go ?_; conv => whnf))
                          refine atS rfl hs ?_
                          conv => whnf
                          repeat (first | (refine Conf.mk (by kernel_rfl) ?_; conv => whnf) | (refine SeqOk.go ?_; conv => whnf))
                          refine elS hs ?_
                          conv => whnf
                          repeat (first | (refine Conf.mk (by kernel_rfl) ?_; conv => whnf) | (refine SeqOk.go ?_; conv => whnf))
                          refine .data _ _ (scomm_ok s (6 : Nat) T hso.1 hso.2) rfl ?_
                          conv => whnf
                          repeat (first | (refine Conf.mk (by kernel_rfl) ?_; conv => whnf) | (refine SeqOk.go ?_; conv => whnf))
                          simp only
                          refine BoolCase.no (by rw [p1]; rfl) ?_
                          conv => whnf
                          repeat (first | (refine Conf.mk (by kernel_rfl) ?_; conv => whnf) | (refine SeqOk.go ?_; conv => whnf))
                          refine .data _ _ (scheck_ok (s.commR ((6 : Nat) : Int) T) hso2.1 hso2.2) rfl ?_
                          conv => whnf
                          repeat (first | (refine Conf.mk (by kernel_rfl) ?_; conv => whnf) | (refine SeqOk.go ?_; conv => whnf))
                          refine BoolCase.no (by rw [p2]; rfl) ?_
                          conv => whnf
                          repeat (first | (refine Conf.mk (by kernel_rfl) ?_; conv => whnf) | (refine SeqOk.go ?_; conv => whnf))
                          simp only
                          refine atS rfl hs ?_
                          conv => whnf
                          repeat (first | (refine Conf.mk (by kernel_rfl) ?_; conv => whnf) | (refine SeqOk.go ?_; conv => whnf))
                          refine elS hs ?_
                          conv => whnf
                          repeat (first | (refine Conf.mk (by kernel_rfl) ?_; conv => whnf) | (refine SeqOk.go ?_; conv => whnf))
                          refine .mk 6 rfl (by decide) ?_
                          conv => whnf
                          repeat (first | (refine Conf.mk (by kernel_rfl) ?_; conv => whnf) | (refine SeqOk.go ?_; conv => whnf))
                          refine .mk 0 rfl (by decide) ?_
                          conv => whnf
                          repeat (first | (refine Conf.mk (by kernel_rfl) ?_; conv => whnf) | (refine SeqOk.go ?_; conv => whnf))
                          simp only
                          generalize s.commR ((6 : Nat) : Int) T = x at p3
                          exact Into.mono (Into.to [0, 1, 2] [(8, dInt (k + 1 : Nat)), (5, .row 0), (6, .ptr 1 0), (7, .ptr 2 0), (0, .dat (.list (cs.map encI))), (1, .dat (.list (ss.map encI)))] [(0, .rows 43 3 ((cur.set 0 x).map Sv.enc) true), (1, .vars 58 24 [dInt (t 0 0), dInt (t 0 1), dInt (t 0 2), dInt (t 1 0), dInt (t 1 1), dInt (t 1 2), dInt (t 2 0), dInt (t 2 1), dInt (t 2 2), dInt (t 3 0), dInt (t 3 1), dInt (t 3 2), dInt (t 4 0), dInt (t 4 1), dInt (t 4 2), dInt (t 5 0), dInt (t 5 1), dInt (t 5 2), dInt (t 6 0), dInt (t 6 1), dInt (t 6 2), dInt (t 7 0), dInt (t 7 1), dInt (t 7 2)] true), (2, .vars 58 24 [dInt (upd f 6 0 T 0 0), dInt (upd f 6 0 T 0 1), dInt (upd f 6 0 T 0 2), dInt (upd f 6 0 T 1 0), dInt (upd f 6 0 T 1 1), dInt (upd f 6 0 T 1 2), dInt (upd f 6 0 T 2 0), dInt (upd f 6 0 T 2 1), dInt (upd f 6 0 T 2 2), dInt (upd f 6 0 T 3 0), dInt (upd f 6 0 T 3 1), dInt (upd f 6 0 T 3 2), dInt (upd f 6 0 T 4 0), dInt (upd f 6 0 T 4 1), dInt (upd f 6 0 T 4 2), dInt (upd f 6 0 T 5 0), dInt (upd f 6 0 T 5 1), dInt (upd f 6 0 T 5 2), dInt (upd f 6 0 T 6 0), dInt (upd f 6 0 T 6 1), dInt (upd f 6 0 T 6 2), dInt (upd f 6 0 T 7 0), dInt (upd f 6 0 T 7 1), dInt (upd f 6 0 T 7 2)] true)] (by repeat (first | exact trivial | refine ⟨.same (congrArg dInt (wrap_up (by omega))), ?_⟩ | refine ⟨.same rfl, ?_⟩ | refine ⟨.any _, ?_⟩)) ⟨⟨rfl, rfl, rfl, setS⟩, ⟨rfl, rfl, rfl, .same rfl, rfl, .same rfl, rfl, .same rfl, rfl, .same rfl, rfl, .same rfl, rfl, .same rfl, rfl, .same rfl, rfl, .same rfl, rfl, .same rfl, rfl, .same rfl, rfl, .same rfl, rfl, .same rfl, rfl, .same rfl, rfl, .same rfl, rfl, .same rfl, rfl, .same rfl, rfl, .same rfl, rfl, .same rfl, rfl, .same rfl, rfl, .same rfl, rfl, .same rfl, rfl, .same rfl, rfl, .same rfl, rfl, .same rfl, rfl, trivial⟩, ⟨rfl, rfl, rfl, .same rfl, rfl, .same rfl, rfl, .same rfl, rfl, .same rfl, rfl, .same rfl, rfl, .same rfl, rfl, .same rfl, rfl, .same rfl, rfl, .same rfl, rfl, .same rfl, rfl, .same rfl, rfl, .same rfl, rfl, .same rfl, rfl, .same rfl, rfl, .same rfl, rfl, .same rfl, rfl, .same rfl, rfl, .same rfl, rfl, .same rfl, rfl, .same rfl, rfl, .same rfl, rfl, .same rfl, rfl, .same rfl, rfl, .same rfl, rfl, trivial⟩, trivial⟩ rfl rfl) fun s' h => ⟨m - 1, by omega, k + 1, _, t, _, by omega, p3, h⟩
                  · refine .mk 6 rfl (by decide) ?_
                    conv => whnf
                    repeat (first | (refine Conf.mk (by kernel_rfl) ?_; conv => whnf) | (refine SeqOk.go ?_; conv => whnf))
                    refine .mk 1 rfl (by decide) ?_
                    conv => whnf
                    repeat (first | (refine Conf.mk (by kernel_rfl) ?_; conv => whnf) | (refine SeqOk.go ?_; conv => whnf))
                    obtain ⟨s, hs⟩ := hget 1 (by decide)
                    have hbn : bitOf (colN cs 6) 1 = true := by rw [hcc]; exact hb
                    have hsr := hI.right 1 s hs
                    have hso := right_ok hsr
                    by_cases hf0 : 0 < f 6 1
                    · refine BoolCase.yes (by simpa using hf0) ?_
                      conv => whnf
                      repeat (first | (refine Conf.mk (by kernel_rfl) ?_; conv => whnf) | (refine SeqOk.go ?_; conv => whnf))
                      exact Into.mono (Into.to [0, 1, 2] [(8, dInt (k + 1 : Nat)), (5, .row 0), (6, .ptr 1 0), (7, .ptr 2 0), (0, .dat (.list (cs.map encI))), (1, .dat (.list (ss.map encI)))] [(0, .rows 43 3 (cur.map Sv.enc) true), (1, .vars 58 24 [dInt (t 0 0), dInt (t 0 1), dInt (t 0 2), dInt (t 1 0), dInt (t 1 1), dInt (t 1 2), dInt (t 2 0), dInt (t 2 1), dInt (t 2 2), dInt (t 3 0), dInt (t 3 1), dInt (t 3 2), dInt (t 4 0), dInt (t 4 1), dInt (t 4 2), dInt (t 5 0), dInt (t 5 1), dInt (t 5 2), dInt (t 6 0), dInt (t 6 1), dInt (t 6 2), dInt (t 7 0), dInt (t 7 1), dInt (t 7 2)] true), (2, .vars 58 24 [dInt (f 0 0), dInt (f 0 1), dInt (f 0 2), dInt (f 1 0), dInt (f 1 1), dInt (f 1 2), dInt (f 2 0), dInt (f 2 1), dInt (f 2 2), dInt (f 3 0), dInt (f 3 1), dInt (f 3 2), dInt (f 4 0), dInt (f 4 1), dInt (f 4 2), dInt (f 5 0), dInt (f 5 1), dInt (f 5 2), dInt (f 6 0), dInt (f 6 1), dInt (f 6 2), dInt (f 7 0), dInt (f 7 1), dInt (f 7 2)] true)] (by repeat (first | exact trivial | refine ⟨.same (congrArg dInt (wrap_up (by omega))), ?_⟩ | refine ⟨.same rfl, ?_⟩ | refine ⟨.any _, ?_⟩)) ⟨⟨rfl, rfl, rfl, rfl⟩, ⟨rfl, rfl, rfl, .same rfl, rfl, .same rfl, rfl, .same rfl, rfl, .same rfl, rfl, .same rfl, rfl, .same rfl, rfl, .same rfl, rfl, .same rfl, rfl, .same rfl, rfl, .same rfl, rfl, .same rfl, rfl, .same rfl, rfl, .same rfl, rfl, .same rfl, rfl, .same rfl, rfl, .same rfl, rfl, .same rfl, rfl, .same rfl, rfl, .same rfl, rfl, .same rfl, rfl, .same rfl, rfl, .same rfl, rfl, .same rfl, rfl, .same rfl, rfl, trivial⟩, ⟨rfl, rfl, rfl, .same rfl, rfl, .same rfl, rfl, .same rfl, rfl, .same rfl, rfl, .same rfl, rfl, .same rfl, rfl, .same rfl, rfl, .same rfl, rfl, .same rfl, rfl, .same rfl, rfl, .same rfl, rfl, .same rfl, rfl, .same rfl, rfl, .same rfl, rfl, .same rfl, rfl, .same rfl, rfl, .same rfl, rfl, .same rfl, rfl, .same rfl, rfl, .same rfl, rfl, .same rfl, rfl, .same rfl, rfl, .same rfl, rfl, .same rfl, rfl, trivial⟩, trivial⟩ rfl rfl) fun s' h => ⟨m - 1, by omega, k + 1, cur, t, f, by omega, hI, h⟩
                    · refine BoolCase.no (by simpa using hf0) ?_
                      conv => whnf
                      repeat (first | (refine Conf.mk (by kernel_rfl) ?_; conv => whnf) | (refine SeqOk.go ?_; conv => whnf))
                      simp only
                      refine .mk 6 rfl (by decide) ?_
                      conv => whnf
                      repeat (first | (refine Conf.mk (by kernel_rfl) ?_; conv => whnf) | (refine SeqOk.go ?_; conv => whnf))
                      refine .mk 1 rfl (by decide) ?_
                      conv => whnf
                      repeat (first | (refine Conf.mk (by kernel_rfl) ?_; conv => whnf) | (refine SeqOk.go ?_; conv => whnf))
                      by_cases ht0 : t 6 1 = 0
                      · obtain ⟨p1, p2, p3⟩ := hI.prop hs (by decide) (by decide) (by decide) hbn ht0
                        refine BoolCase.yes (by simpa using ht0) ?_
                        conv => whnf
                        repeat (first | (refine Conf.mk (by kernel_rfl) ?_; conv => whnf) | (refine SeqOk.go ?_; conv => whnf))
                        refine atS rfl hs ?_
                        conv => whnf
                        repeat (first | (refine Conf.mk (by kernel_rfl) ?_; conv => whnf) | (refine SeqOk.go ?_; conv => whnf))
                        refine elS hs ?_
                        conv => whnf
                        repeat (first | (refine Conf.mk (by kernel_rfl) ?_; conv => whnf) | (refine SeqOk.go ?_; conv => whnf))
                        refine .data _ _ (sprop_ok s (6 : Nat) hso.1 hso.2) rfl ?_
                        conv => whnf
                        repeat (first | (refine Conf.mk (by kernel_rfl) ?_; conv => whnf) | (refine SeqOk.go ?_; conv => whnf))
                        simp only
                        refine BoolCase.no (by rw [p1]; rfl) ?_
                        conv => whnf
                        repeat (first | (refine Conf.mk (by kernel_rfl) ?_; conv => whnf) | (refine SeqOk.go ?_; conv => whnf))
                        refine BoolCase.no (by simp; omega) ?_
                        conv => whnf
                        repeat (first | (refine Conf.mk (by kernel_rfl) ?_; conv => whnf) | (refine SeqOk.go ?_; conv => whnf))
                        simp only
                        refine atS rfl hs ?_
                        conv => whnf
                        repeat (first | (refine Conf.mk (by kernel_rfl) ?_; conv => whnf) | (refine SeqOk.go ?_; conv => whnf))
                        refine elS hs ?_
                        conv => whnf
                        repeat (first | (refine Conf.mk (by kernel_rfl) ?_; conv => whnf) | (refine SeqOk.go ?_; conv => whnf))
                        refine .mk 6 rfl (by decide) ?_
                        conv => whnf
                        repeat (first | (refine Conf.mk (by kernel_rfl) ?_; conv => whnf) | (refine SeqOk.go ?_; conv => whnf))
                        refine .mk 1 rfl (by decide) ?_
                        conv => whnf
                        repeat (first | (refine Conf.mk (by kernel_rfl) ?_; conv => whnf) | (refine SeqOk.go ?_; conv => whnf))
                        simp only
                        generalize s.propR ((6 : Nat) : Int) = x at p2 p3
                        exact Into.mono (Into.to [0, 1, 2] [(8, dInt (k + 1 : Nat)), (5, .row 0), (6, .ptr 1 0), (7, .ptr 2 0), (0, .dat (.list (cs.map encI))), (1, .dat (.list (ss.map encI)))] [(0, .rows 43 3 ((cur.set 1 x).map Sv.enc) true), (1, .vars 58 24 [dInt (upd t 6 1 x.clock 0 0), dInt (upd t 6 1 x.clock 0 1), dInt (upd t 6 1 x.clock 0 2), dInt (upd t 6 1 x.clock 1 0), dInt (upd t 6 1 x.clock 1 1), dInt (upd t 6 1 x.clock 1 2), dInt (upd t 6 1 x.clock 2 0), dInt (upd t 6 1 x.clock 2 1), dInt (upd t 6 1 x.clock 2 2), dInt (upd t 6 1 x.clock 3 0), dInt (upd t 6 1 x.clock 3 1), dInt (upd t 6 1 x.clock 3 2), dInt (upd t 6 1 x.clock 4 0), dInt (upd t 6 1 x.clock 4 1), dInt (upd t 6 1 x.clock 4 2), dInt (upd t 6 1 x.clock 5 0), dInt (upd t 6 1 x.clock 5 1), dInt (upd t 6 1 x.clock 5 2), dInt (upd t 6 1 x.clock 6 0), dInt (upd t 6 1 x.clock 6 1), dInt (upd t 6 1 x.clock 6 2), dInt (upd t 6 1 x.clock 7 0), dInt (upd t 6 1 x.clock 7 1), dInt (upd t 6 1 x.clock 7 2)] true), (2, .vars 58 24 [dInt (f 0 0), dInt (f 0 1), dInt (f 0 2), dInt (f 1 0), dInt (f 1 1), dInt (f 1 2), dInt (f 2 0), dInt (f 2 1), dInt (f 2 2), dInt (f 3 0), dInt (f 3 1), dInt (f 3 2), dInt (f 4 0), dInt (f 4 1), dInt (f 4 2), dInt (f 5 0), dInt (f 5 1), dInt (f 5 2), dInt (f 6 0), dInt (f 6 1), dInt (f 6 2), dInt (f 7 0), dInt (f 7 1), dInt (f 7 2)] true)] (by repeat (first | exact trivial | refine ⟨.same (congrArg dInt (wrap_up (by omega))), ?_⟩ | refine ⟨.same rfl, ?_⟩ | refine ⟨.any _, ?_⟩)) ⟨⟨rfl, rfl, rfl, setS⟩, ⟨rfl, rfl, rfl, .same rfl, rfl, .same rfl, rfl, .same rfl, rfl, .same rfl, rfl, .same rfl, rfl, .same rfl, rfl, .same rfl, rfl, .same rfl, rfl, .same rfl, rfl, .same rfl, rfl, .same rfl, rfl, .same rfl, rfl, .same rfl, rfl, .same rfl, rfl, .same rfl, rfl, .same rfl, rfl, .same rfl, rfl, .same rfl, rfl, .same rfl, rfl, .same rfl, rfl, .same rfl, rfl, .same rfl, rfl, .same rfl, rfl, .same rfl, rfl, trivial⟩, ⟨rfl, rfl, rfl, .same rfl, rfl, .same rfl, rfl, .same rfl, rfl, .same rfl, rfl, .same rfl, rfl, .same rfl, rfl, .same rfl, rfl, .same rfl, rfl, .same rfl, rfl, .same rfl, rfl, .same rfl, rfl, .same rfl, rfl, .same rfl, rfl, .same rfl, rfl, .same rfl, rfl, .same rfl, rfl, .same rfl, rfl, .same rfl, rfl, .same rfl, rfl, .same rfl, rfl, .same rfl, rfl, .same rfl, rfl, .same rfl, rfl, .same rfl, rfl, trivial⟩, trivial⟩ rfl rfl) fun s' h => ⟨m - 1, by omega, k + 1, _, _, f, by omega, p3, h⟩
                      · refine BoolCase.no (by simpa using ht0) ?_
                        conv => whnf
                        repeat (first | (refine Conf.mk (by kernel_rfl) ?_; conv => whnf) | (refine SeqOk.go ?_; conv => whnf))
                        refine .look _ _ (most_ok t 6 c (by decide) (by decide) (by omega)) rfl rfl ?_
                        conv => whnf
                        repeat (first | (refine Conf.mk (by kernel_rfl) ?_; conv => whnf) | (refine SeqOk.go ?_; conv => whnf))
                        simp only
                        cases hmo : (mostV c (t 6)).2
                        · refine BoolCase.no rfl ?_
                          conv => whnf
                          repeat (first | (refine Conf.mk (by kernel_rfl) ?_; conv => whnf) | (refine SeqOk.go ?_; conv => whnf))
                          exact Into.mono (Into.to [0, 1, 2] [(8, dInt (k + 1 : Nat)), (5, .row 0), (6, .ptr 1 0), (7, .ptr 2 0), (0, .dat (.list (cs.map encI))), (1, .dat (.list (ss.map encI)))] [(0, .rows 43 3 (cur.map Sv.enc) true), (1, .vars 58 24 [dInt (t 0 0), dInt (t 0 1), dInt (t 0 2), dInt (t 1 0), dInt (t 1 1), dInt (t 1 2), dInt (t 2 0), dInt (t 2 1), dInt (t 2 2), dInt (t 3 0), dInt (t 3 1), dInt (t 3 2), dInt (t 4 0), dInt (t 4 1), dInt (t 4 2), dInt (t 5 0), dInt (t 5 1), dInt (t 5 2), dInt (t 6 0), dInt (t 6 1), dInt (t 6 2), dInt (t 7 0), dInt (t 7 1), dInt (t 7 2)] true), (2, .vars 58 24 [dInt (f 0 0), dInt (f 0 1), dInt (f 0 2), dInt (f 1 0), dInt (f 1 1), dInt (f 1 2), dInt (f 2 0), dInt (f 2 1), dInt (f 2 2), dInt (f 3 0), dInt (f 3 1), dInt (f 3 2), dInt (f 4 0), dInt (f 4 1), dInt (f 4 2), dInt (f 5 0), dInt (f 5 1), dInt (f 5 2), dInt (f 6 0), dInt (f 6 1), dInt (f 6 2), dInt (f 7 0), dInt (f 7 1), dInt (f 7 2)] true)] (by repeat (first | exact trivial | refine ⟨.same (congrArg dInt (wrap_up (by omega))), ?_⟩ | refine ⟨.same rfl, ?_⟩ | refine ⟨.any _, ?_⟩)) ⟨⟨rfl, rfl, rfl, rfl⟩, ⟨rfl, rfl, rfl, .same rfl, rfl, .same rfl, rfl, .same rfl, rfl, .same rfl, rfl, .same rfl, rfl, .same rfl, rfl, .same rfl, rfl, .same rfl, rfl, .same rfl, rfl, .same rfl, rfl, .same rfl, rfl, .same rfl, rfl, .same rfl, rfl, .same rfl, rfl, .same rfl, rfl, .same rfl, rfl, .same rfl, rfl, .same rfl, rfl, .same rfl, rfl, .same rfl, rfl, .same rfl, rfl, .same rfl, rfl, .same rfl, rfl, .same rfl, rfl, trivial⟩, ⟨rfl, rfl, rfl, .same rfl, rfl, .same rfl, rfl, .same rfl, rfl, .same rfl, rfl, .same rfl, rfl, .same rfl, rfl, .same rfl, rfl, .same rfl, rfl, .same rfl, rfl, .same rfl, rfl, .same rfl, rfl, .same rfl, rfl, .same rfl, rfl, .same rfl, rfl, .same rfl, rfl, .same rfl, rfl, .same rfl, rfl, .same rfl, rfl, .same rfl, rfl, .same rfl, rfl, .same rfl, rfl, .same rfl, rfl, .same rfl, rfl, .same rfl, rfl, trivial⟩, trivial⟩ rfl rfl) fun s' h => ⟨m - 1, by omega, k + 1, cur, t, f, by omega, hI, h⟩
                        · have hmv : mostV (colN cs 6) (t 6) = ((mostV c (t 6)).1, true) := by rw [hcc, ← hmo]
                          obtain ⟨p1, p2, p3⟩ := hI.comm hs (by decide) (by decide) (by decide) hbn ht0 hf0 hmv
                          have hso2 := right_ok (right_of_err p2)
                          generalize (mostV c (t 6)).1 = T at p1 p2 p3 hso2
                          refine BoolCase.yes rfl ?_
                          conv => whnf
                          repeat (first | (refine Conf.mk (by kernel_rfl) ?_; conv => whnf) | (refine SeqOk.go ?_; conv => whnf))
                          refine atS rfl hs ?_
                          conv => whnf
                          repeat (first | (refine Conf.mk (by kernel_rfl) ?_; conv => whnf) | (refine SeqOk.go ?_; conv => whnf))
                          refine elS hs ?_
                          conv => whnf
                          repeat (first | (refine Conf.mk (by kernel_rfl) ?_; conv => whnf) | (refine SeqOk.go ?_; conv => whnf))
                          refine .data _ _ (scomm_ok s (6 : Nat) T hso.1 hso.2) rfl ?_
                          conv => whnf
                          repeat (first | (refine Conf.mk (by kernel_rfl) ?_; conv => whnf) | (refine SeqOk.go ?_; conv => whnf))
                          simp only
                          refine BoolCase.no (by rw [p1]; rfl) ?_
                          conv => whnf
                          repeat (first | (refine Conf.mk (by kernel_rfl) ?_; conv => whnf) | (refine SeqOk.go ?_; conv => whnf))
                          refine .data _ _ (scheck_ok (s.commR ((6 : Nat) : Int) T) hso2.1 hso2.2) rfl ?_
                          conv => whnf
                          repeat (first | (refine Conf.mk (by kernel_rfl) ?_; conv => whnf) | (refine SeqOk.go ?_; conv => whnf))
                          refine BoolCase.no (by rw [p2]; rfl) ?_
                          conv => whnf
                          repeat (first | (refine Conf.mk (by kernel_rfl) ?_; conv => whnf) | (refine SeqOk.go ?_; conv => whnf))
                          simp only
                          refine atS rfl hs ?_
                          conv => whnf
                          repeat (first | (refine Conf.mk (by kernel_rfl) ?_; conv => whnf) | (refine SeqOk.go ?_; conv => whnf))
                          refine elS hs ?_
                          conv => whnf
                          repeat (first | (refine Conf.mk (by kernel_rfl) ?_; conv => whnf) | (refine SeqOk.go ?_; conv => whnf))
                          refine .mk 6 rfl (by decide) ?_
                          conv => whnf
                          repeat (first | (refine Conf.mk (by kernel_rfl) ?_; conv => whnf) | (refine SeqOk.go ?_; conv => whnf))
                          refine .mk 1 rfl (by decide) ?_
                          conv => whnf
                          repeat (first | (refine Conf.mk (by kernel_rfl) ?_; conv => whnf) | (refine SeqOk.go ?_; conv => whnf))
                          simp only
                          generalize s.commR ((6 : Nat) : Int) T = x at p3
                          exact Into.mono (Into.to [0, 1, 2] [(8, dInt (k + 1 : Nat)), (5, .row 0), (6, .ptr 1 0), (7, .ptr 2 0), (0, .dat (.list (cs.map encI))), (1, .dat (.list (ss.map encI)))] [(0, .rows 43 3 ((cur.set 1 x).map Sv.enc) true), (1, .vars 58 24 [dInt (t 0 0), dInt (t 0 1), dInt (t 0 2), dInt (t 1 0), dInt (t 1 1), dInt (t 1 2), dInt (t 2 0), dInt (t 2 1), dInt (t 2 2), dInt (t 3 0), dInt (t 3 1), dInt (t 3 2), dInt (t 4 0), dInt (t 4 1), dInt (t 4 2), dInt (t 5 0), dInt (t 5 1), dInt (t 5 2), dInt (t 6 0), dInt (t 6 1), dInt (t 6 2), dInt (t 7 0), dInt (t 7 1), dInt (t 7 2)] true), (2, .vars 58 24 [dInt (upd f 6 1 T 0 0), dInt (upd f 6 1 T 0 1), dInt (upd f 6 1 T 0 2), dInt (upd f 6 1 T 1 0), dInt (upd f 6 1 T 1 1), dInt (upd f 6 1 T 1 2), dInt (upd f 6 1 T 2 0), dInt (upd f 6 1 T 2 1), dInt (upd f 6 1 T 2 2), dInt (upd f 6 1 T 3 0), dInt (upd f 6 1 T 3 1), dInt (upd f 6 1 T 3 2), dInt (upd f 6 1 T 4 0), dInt (upd f 6 1 T 4 1), dInt (upd f 6 1 T 4 2), dInt (upd f 6 1 T 5 0), dInt (upd f 6 1 T 5 1), dInt (upd f 6 1 T 5 2), dInt (upd f 6 1 T 6 0), dInt (upd f 6 1 T 6 1), dInt (upd f 6 1 T 6 2), dInt (upd f 6 1 T 7 0), dInt (upd f 6 1 T 7 1), dInt (upd f 6 1 T 7 2)] true)] (by repeat (first | exact trivial | refine ⟨.same (congrArg dInt (wrap_up (by omega))), ?_⟩ | refine ⟨.same rfl, ?_⟩ | refine ⟨.any _, ?_⟩)) ⟨⟨rfl, rfl, rfl, setS⟩, ⟨rfl, rfl, rfl, .same rfl, rfl, .same rfl, rfl, .same rfl, rfl, .same rfl, rfl, .same rfl, rfl, .same rfl, rfl, .same rfl, rfl, .same rfl, rfl, .same rfl, rfl, .same rfl, rfl, .same rfl, rfl, .same rfl, rfl, .same rfl, rfl, .same rfl, rfl, .same rfl, rfl, .same rfl, rfl, .same rfl, rfl, .same rfl, rfl, .same rfl, rfl, .same rfl, rfl, .same rfl, rfl, .same rfl, rfl, .same rfl, rfl, .same rfl, rfl, trivial⟩, ⟨rfl, rfl, rfl, .same rfl, rfl, .same rfl, rfl, .same rfl, rfl, .same rfl, rfl, .same rfl, rfl, .same rfl, rfl, .same rfl, rfl, .same rfl, rfl, .same rfl, rfl, .same rfl, rfl, .same rfl, rfl, .same rfl, rfl, .same rfl, rfl, .same rfl, rfl, .same rfl, rfl, .same rfl, rfl, .same rfl, rfl, .same rfl, rfl, .same rfl, rfl, .same rfl, rfl, .same rfl, rfl, .same rfl, rfl, .same rfl, rfl, .same rfl, rfl, trivial⟩, trivial⟩ rfl rfl) fun s' h => ⟨m - 1, by omega, k + 1, _, t, _, by omega, p3, h⟩
                  · refine .mk 6 rfl (by decide) ?_
                    conv => whnf
                    repeat (first | (refine Conf.mk (by kernel_rfl) ?_; conv => whnf) | (refine SeqOk.go ?_; conv => whnf))
                    refine .mk 2 rfl (by decide) ?_
                    conv => whnf
                    repeat (first | (refine Conf.mk (by kernel_rfl) ?_; conv => whnf) | (refine SeqOk.go ?_; conv => whnf))
                    obtain ⟨s, hs⟩ := hget 2 (by decide)
                    have hbn : bitOf (colN cs 6) 2 = true := by rw [hcc]; exact hb
                    have hsr := hI.right 2 s hs
                    have hso := right_ok hsr
                    by_cases hf0 : 0 < f 6 2
                    · refine BoolCase.yes (by simpa using hf0) ?_
                      conv => whnf
                      repeat (first | (refine Conf.mk (by kernel_rfl) ?_; conv => whnf) | (refine SeqOk.go ?_; conv => whnf))
                      exact Into.mono (Into.to [0, 1, 2] [(8, dInt (k + 1 : Nat)), (5, .row 0), (6, .ptr 1 0), (7, .ptr 2 0), (0, .dat (.list (cs.map encI))), (1, .dat (.list (ss.map encI)))] [(0, .rows 43 3 (cur.map Sv.enc) true), (1, .vars 58 24 [dInt (t 0 0), dInt (t 0 1), dInt (t 0 2), dInt (t 1 0), dInt (t 1 1), dInt (t 1 2), dInt (t 2 0), dInt (t 2 1), dInt (t 2 2), dInt (t 3 0), dInt (t 3 1), dInt (t 3 2), dInt (t 4 0), dInt (t 4 1), dInt (t 4 2), dInt (t 5 0), dInt (t 5 1), dInt (t 5 2), dInt (t 6 0), dInt (t 6 1), dInt (t 6 2), dInt (t 7 0), dInt (t 7 1), dInt (t 7 2)] true), (2, .vars 58 24 [dInt (f 0 0), dInt (f 0 1), dInt (f 0 2), dInt (f 1 0), dInt (f 1 1), dInt (f 1 2), dInt (f 2 0), dInt (f 2 1), dInt (f 2 2), dInt (f 3 0), dInt (f 3 1), dInt (f 3 2), dInt (f 4 0), dInt (f 4 1), dInt (f 4 2), dInt (f 5 0), dInt (f 5 1), dInt (f 5 2), dInt (f 6 0), dInt (f 6 1), dInt (f 6 2), dInt (f 7 0), dInt (f 7 1), dInt (f 7 2)] true)] (by repeat (first | exact trivial | refine ⟨.same (congrArg dInt (wrap_up (by omega))), ?_⟩ | refine ⟨.same rfl, ?_⟩ | refine ⟨.any _, ?_⟩)) ⟨⟨rfl, rfl, rfl, rfl⟩, ⟨rfl, rfl, rfl, .same rfl, rfl, .same rfl, rfl, .same rfl, rfl, .same rfl, rfl, .same rfl, rfl, .same rfl, rfl, .same rfl, rfl, .same rfl, rfl, .same rfl, rfl, .same rfl, rfl, .same rfl, rfl, .same rfl, rfl, .same rfl, rfl, .same rfl, rfl, .same rfl, rfl, .same rfl, rfl, .same rfl, rfl, .same rfl, rfl, .same rfl, rfl, .same rfl, rfl, .same rfl, rfl, .same rfl, rfl, .same rfl, rfl, .same rfl, rfl, trivial⟩, ⟨rfl, rfl, rfl, .same rfl, rfl, .same rfl, rfl, .same rfl, rfl, .same rfl, rfl, .same rfl, rfl, .same rfl, rfl, .same rfl, rfl, .same rfl, rfl, .same rfl, rfl, .same rfl, rfl, .same rfl, rfl, .same rfl, rfl, .same rfl, rfl, .same rfl, rfl, .same rfl, rfl, .same rfl, rfl, .same rfl, rfl, .same rfl, rfl, .same rfl, rfl, .same rfl, rfl, .same rfl, rfl, .same rfl, rfl, .same rfl, rfl, .same rfl, rfl, trivial⟩, trivial⟩ rfl rfl) fun s' h => ⟨m - 1, by omega, k + 1, cur, t, f, by omega, hI, h⟩
                    · refine BoolCase.no (by simpa using hf0) ?_
                      conv => whnf
                      repeat (first | (refine Conf.mk (by kernel_rfl) ?_; conv => whnf) | (refine SeqOk.go ?_; conv => whnf))
                      simp only
                      refine .mk 6 rfl (by decide) ?_
                      conv => whnf
                      repeat (first | (refine Conf.mk (by kernel_rfl) ?_; conv => whnf) | (refine SeqOk.go ?_; conv => whnf))
                      refine .mk 2 rfl (by decide) ?_
                      conv => whnf
                      repeat (first | (refine Conf.mk (by kernel_rfl) ?_; conv => whnf) | (refine SeqOk.go ?_; conv => whnf))
                      by_cases ht0 : t 6 2 = 0
                      · obtain ⟨p1, p2, p3⟩ := hI.prop hs (by decide) (by decide) (by decide) hbn ht0
                        refine BoolCase.yes (by simpa using ht0) ?_
                        conv => whnf
                        repeat (first | (refine Conf.mk (by kernel_rfl) ?_; conv => whnf) | (refine SeqOk.go ?_; conv => whnf))
                        refine atS rfl hs ?_
                        conv => whnf
                        repeat (first | (refine Conf.mk (by kernel_rfl) ?_; conv => whnf) | (refine SeqOk.go ?_; conv => whnf))
                        refine elS hs ?_
                        conv => whnf
                        repeat (first | (refine Conf.mk (by kernel_rfl) ?_; conv => whnf) | (refine SeqOk.go ?_; conv => whnf))
                        refine .data _ _ (sprop_ok s (6 : Nat) hso.1 hso.2) rfl ?_
                        conv => whnf
                        repeat (first | (refine Conf.mk (by kernel_rfl) ?_; conv => whnf) | (refine SeqOk.go ?_; conv => whnf))
                        simp only
                        refine BoolCase.no (by rw [p1]; rfl) ?_
                        conv => whnf
                        repeat (first | (refine Conf.mk (by kernel_rfl) ?_; conv => whnf) | (refine SeqOk.go ?_; conv => whnf))
                        refine BoolCase.no (by simp; omega) ?_
                        conv => whnf
                        repeat (first | (refine Conf.mk (by kernel_rfl) ?_; conv => whnf) | (refine SeqOk.go ?_; conv => whnf))
                        simp only
                        refine atS rfl hs ?_
                        conv => whnf
                        repeat (first | (refine Conf.mk (by kernel_rfl) ?_; conv => whnf) | (refine SeqOk.go ?_; conv => whnf))
                        refine elS hs ?_
                        conv => whnf
                        repeat (first | (refine Conf.mk (by kernel_rfl) ?_; conv => whnf) | (refine SeqOk.go ?_; conv => whnf))
                        refine .mk 6 rfl (by decide) ?_
                        conv => whnf
                        repeat (first | (refine Conf.mk (by kernel_rfl) ?_; conv => whnf) | (refine SeqOk.go ?_; conv => whnf))
                        refine .mk 2 rfl (by decide) ?_
                        conv => whnf
                        repeat (first | (refine Conf.mk (by kernel_rfl) ?_; conv => whnf) | (refine SeqOk.go ?_; conv => whnf))
                        simp only
                        generalize s.propR ((6 : Nat) : Int) = x at p2 p3
                        exact Into.mono (Into.to [0, 1, 2] [(8, dInt (k + 1 : Nat)), (5, .row 0), (6, .ptr 1 0), (7, .ptr 2 0), (0, .dat (.list (cs.map encI))), (1, .dat (.list (ss.map encI)))] [(0, .rows 43 3 ((cur.set 2 x).map Sv.enc) true), (1, .vars 58 24 [dInt (upd t 6 2 x.clock 0 0), dInt (upd t 6 2 x.clock 0 1), dInt (upd t 6 2 x.clock 0 2), dInt (upd t 6 2 x.clock 1 0), dInt (upd t 6 2 x.clock 1 1), dInt (upd t 6 2 x.clock 1 2), dInt (upd t 6 2 x.clock 2 0), dInt (upd t 6 2 x.clock 2 1), dInt (upd t 6 2 x.clock 2 2), dInt (upd t 6 2 x.clock 3 0), dInt (upd t 6 2 x.clock 3 1), dInt (upd t 6 2 x.clock 3 2), dInt (upd t 6 2 x.clock 4 0), dInt (upd t 6 2 x.clock 4 1), dInt (upd t 6 2 x.clock 4 2), dInt (upd t 6 2 x.clock 5 0), dInt (upd t 6 2 x.clock 5 1), dInt (upd t 6 2 x.clock 5 2), dInt (upd t 6 2 x.clock 6 0), dInt (upd t 6 2 x.clock 6 1), dInt (upd t 6 2 x.clock 6 2), dInt (upd t 6 2 x.clock 7 0), dInt (upd t 6 2 x.clock 7 1), dInt (upd t 6 2 x.clock 7 2)] true), (2, .vars 58 24 [dInt (f 0 0), dInt (f 0 1), dInt (f 0 2), dInt (f 1 0), dInt (f 1 1), dInt (f 1 2), dInt (f 2 0), dInt (f 2 1), dInt (f 2 2), dInt (f 3 0), dInt (f 3 1), dInt (f 3 2), dInt (f 4 0), dInt (f 4 1), dInt (f 4 2), dInt (f 5 0), dInt (f 5 1), dInt (f 5 2), dInt (f 6 0), dInt (f 6 1), dInt (f 6 2), dInt (f 7 0), dInt (f 7 1), dInt (f 7 2)] true)] (by repeat (first | exact trivial | refine ⟨.same (congrArg dInt (wrap_up (by omega))), ?_⟩ | refine ⟨.same rfl, ?_⟩ | refine ⟨.any _, ?_⟩)) ⟨⟨rfl, rfl, rfl, setS⟩, ⟨rfl, rfl, rfl, .same rfl, rfl, .same rfl, rfl, .same rfl, rfl, .same rfl, rfl, .same rfl, rfl, .same rfl, rfl, .same rfl, rfl, .same rfl, rfl, .same rfl, rfl, .same rfl, rfl, .same rfl, rfl, .same rfl, rfl, .same rfl, rfl, .same rfl, rfl, .same rfl, rfl, .same rfl, rfl, .same rfl, rfl, .same rfl, rfl, .same rfl, rfl, .same rfl, rfl, .same rfl, rfl, .same rfl, rfl, .same rfl, rfl, .same rfl, rfl, trivial⟩, ⟨rfl, rfl, rfl, .same rfl, rfl, .same rfl, rfl, .same rfl, rfl, .same rfl, rfl, .same rfl, rfl, .same rfl, rfl, .same rfl, rfl, .same rfl, rfl, .same rfl, rfl, .same rfl, rfl, .same rfl, rfl, .same rfl, rfl, .same rfl, rfl, .same rfl, rfl, .same rfl, rfl, .same rfl, rfl, .same rfl, rfl, .same rfl, rfl, .same rfl, rfl, .same rfl, rfl, .same rfl, rfl, .same rfl, rfl, .same rfl, rfl, .same rfl, rfl, trivial⟩, trivial⟩ rfl rfl) fun s' h => ⟨m - 1, by omega, k + 1, _, _, f, by omega, p3, h⟩
                      · refine BoolCase.no (by simpa using ht0) ?_
                        conv => whnf
                        repeat (first | (refine Conf.mk (by kernel_rfl) ?_; conv => whnf) | (refine SeqOk.go ?_; conv => whnf))
                        refine .look _ _ (most_ok t 6 c (by decide) (by decide) (by omega)) rfl rfl ?_
                        conv => whnf
                        repeat (first | (refine Conf.mk (by kernel_rfl) ?_; conv => whnf) | (refine SeqOk.go ?_; conv => whnf))
                        simp only
                        cases hmo : (mostV c (t 6)).2
                        · refine BoolCase.no rfl ?_
                          conv => whnf
                          repeat (first | (refine Conf.mk (by kernel_rfl) ?_; conv => whnf) | (refine SeqOk.go ?_; conv => whnf))
                          exact Into.mono (Into.to [0, 1, 2] [(8, dInt (k + 1 : Nat)), (5, .row 0), (6, .ptr 1 0), (7, .ptr 2 0), (0, .dat (.list (cs.map encI))), (1, .dat (.list (ss.map encI)))] [(0, .rows 43 3 (cur.map Sv.enc) true), (1, .vars 58 24 [dInt (t 0 0), dInt (t 0 1), dInt (t 0 2), dInt (t 1 0), dInt (t 1 1), dInt (t 1 2), dInt (t 2 0), dInt (t 2 1), dInt (t 2 2), dInt (t 3 0), dInt (t 3 1), dInt (t 3 2), dInt (t 4 0), dInt (t 4 1), dInt (t 4 2), dInt (t 5 0), dInt (t 5 1), dInt (t 5 2), dInt (t 6 0), dInt (t 6 1), dInt (t 6 2), dInt (t 7 0), dInt (t 7 1), dInt (t 7 2)] true), (2, .vars 58 24 [dInt (f 0 0), dInt (f 0 1), dInt (f 0 2), dInt (f 1 0), dInt (f 1 1), dInt (f 1 2), dInt (f 2 0), dInt (f 2 1), dInt (f 2 2), dInt (f 3 0), dInt (f 3 1), dInt (f 3 2), dInt (f 4 0), dInt (f 4 1), dInt (f 4 2), dInt (f 5 0), dInt (f 5 1), dInt (f 5 2), dInt (f 6 0), dInt (f 6 1), dInt (f 6 2), dInt (f 7 0), dInt (f 7 1), dInt (f 7 2)] true)] (by repeat (first | exact trivial | refine ⟨.same (congrArg dInt (wrap_up (by omega))), ?_⟩ | refine ⟨.same rfl, ?_⟩ | refine ⟨.any _, ?_⟩)) ⟨⟨rfl, rfl, rfl, rfl⟩, ⟨rfl, rfl, rfl, .same rfl, rfl, .same rfl, rfl, .same rfl, rfl, .same rfl, rfl, .same rfl, rfl, .same rfl, rfl, .same rfl, rfl, .same rfl, rfl, .same rfl, rfl, .same rfl, rfl, .same rfl, rfl, .same rfl, rfl, .same rfl, rfl, .same rfl, rfl, .same rfl, rfl, .same rfl, rfl, .same rfl, rfl, .same rfl, rfl, .same rfl, rfl, .same rfl, rfl, .same rfl, rfl, .same rfl, rfl, .same rfl, rfl, .same rfl, rfl, trivial⟩, ⟨rfl, rfl, rfl, .same rfl, rfl, .same rfl, rfl, .same rfl, rfl, .same rfl, rfl, .same rfl, rfl, .same rfl, rfl, .same rfl, rfl, .same rfl, rfl, .same rfl, rfl, .same rfl, rfl, .same rfl, rfl, .same rfl, rfl, .same rfl, rfl, .same rfl, rfl, .same rfl, rfl, .same rfl, rfl, .same rfl, rfl, .same rfl, rfl, .same rfl, rfl, .same rfl, rfl, .same rfl, rfl, .same rfl, rfl, .same rfl, rfl, .same rfl, rfl, trivial⟩, trivial⟩ rfl rfl) fun s' h => ⟨m - 1, by omega, k + 1, cur, t, f, by omega, hI, h⟩
                        · have hmv : mostV (colN cs 6) (t 6) = ((mostV c (t 6)).1, true) := by rw [hcc, ← hmo]
                          obtain ⟨p1, p2, p3⟩ := hI.comm hs (by decide) (by decide) (by decide) hbn ht0 hf0 hmv
                          have hso2 := right_ok (right_of_err p2)
                          generalize (mostV c (t 6)).1 = T at p1 p2 p3 hso2
                          refine BoolCase.yes rfl ?_
                          conv => whnf
                          repeat (first | (refine Conf.mk (by kernel_rfl) ?_; conv => whnf) | (refine SeqOk.go ?_; conv => whnf))
                          refine atS rfl hs ?_
                          conv => whnf
                          repeat (first | (refine Conf.mk (by kernel_rfl) ?_; conv => whnf) | (refine SeqOk.go ?_; conv => whnf))
                          refine elS hs ?_
                          conv => whnf
                          repeat (first | (refine Conf.mk (by kernel_rfl) ?_; conv => whnf) | (refine SeqOk.go ?_; conv => whnf))
                          refine .data _ _ (scomm_ok s (6 : Nat) T hso.1 hso.2) rfl ?_
                          conv => whnf
                          repeat (first | (refine Conf.mk (by kernel_rfl) ?_; conv => whnf) | (refine SeqOk.go ?_; conv => whnf))
                          simp only
                          refine BoolCase.no (by rw [p1]; rfl) ?_
                          conv => whnf
                          repeat (first | (refine Conf.mk (by kernel_rfl) ?_; conv => whnf) | (refine SeqOk.go ?_; conv => whnf))
                          refine .data _ _ (scheck_ok (s.commR ((6 : Nat) : Int) T) hso2.1 hso2.2) rfl ?_
                          conv => whnf
                          repeat (first | (refine Conf.mk (by kernel_rfl) ?_; conv => whnf) | (refine SeqOk.go ?_; conv => whnf))
                          refine BoolCase.no (by rw [p2]; rfl) ?_
                          conv => whnf
                          repeat (first | (refine Conf.mk (by kernel_rfl) ?_; conv => whnf) | (refine SeqOk.go ?_; conv => whnf))
                          simp only
                          refine atS rfl hs ?_
                          conv => whnf
                          repeat (first | (refine Conf.mk (by kernel_rfl) ?_; conv => whnf) | (refine SeqOk.go ?_; conv => whnf))
                          refine elS hs ?_
                          conv => whnf
                          repeat (first | (refine Conf.mk (by kernel_rfl) ?_; conv => whnf) | (refine SeqOk.go ?_; conv => whnf))
                          refine .mk 6 rfl (by decide) ?_
                          conv => whnf
                          repeat (first | (refine Conf.mk (by kernel_rfl) ?_; conv => whnf) | (refine SeqOk.go ?_; conv => whnf))
                          refine .mk 2 rfl (by decide) ?_
                          conv => whnf
                          repeat (first | (refine Conf.mk (by kernel_rfl) ?_; conv => whnf) | (refine SeqOk.go ?_; conv => whnf))
                          simp only
                          generalize s.commR ((6 : Nat) : Int) T = x at p3
                          exact Into.mono (Into.to [0, 1, 2] [(8, dInt (k + 1 : Nat)), (5, .row 0), (6, .ptr 1 0), (7, .ptr 2 0), (0, .dat (.list (cs.map encI))), (1, .dat (.list (ss.map encI)))] [(0, .rows 43 3 ((cur.set 2 x).map Sv.enc) true), (1, .vars 58 24 [dInt (t 0 0), dInt (t 0 1), dInt (t 0 2), dInt (t 1 0), dInt (t 1 1), dInt (t 1 2), dInt (t 2 0), dInt (t 2 1), dInt (t 2 2), dInt (t 3 0), dInt (t 3 1), dInt (t 3 2), dInt (t 4 0), dInt (t 4 1), dInt (t 4 2), dInt (t 5 0), dInt (t 5 1), dInt (t 5 2), dInt (t 6 0), dInt (t 6 1), dInt (t 6 2), dInt (t 7 0), dInt (t 7 1), dInt (t 7 2)] true), (2, .vars 58 24 [dInt (upd f 6 2 T 0 0), dInt (upd f 6 2 T 0 1), dInt (upd f 6 2 T 0 2), dInt (upd f 6 2 T 1 0), dInt (upd f 6 2 T 1 1), dInt (upd f 6 2 T 1 2), dInt (upd f 6 2 T 2 0), dInt (upd f 6 2 T 2 1), dInt (upd f 6 2 T 2 2), dInt (upd f 6 2 T 3 0), dInt (upd f 6 2 T 3 1), dInt (upd f 6 2 T 3 2), dInt (upd f 6 2 T 4 0), dInt (upd f 6 2 T 4 1), dInt (upd f 6 2 T 4 2), dInt (upd f 6 2 T 5 0), dInt (upd f 6 2 T 5 1), dInt (upd f 6 2 T 5 2), dInt (upd f 6 2 T 6 0), dInt (upd f 6 2 T 6 1), dInt (upd f 6 2 T 6 2), dInt (upd f 6 2 T 7 0), dInt (upd f 6 2 T 7 1), dInt (upd f 6 2 T 7 2)] true)] (by repeat (first | exact trivial | refine ⟨.same (congrArg dInt (wrap_up (by omega))), ?_⟩ | refine ⟨.same rfl, ?_⟩ | refine ⟨.any _, ?_⟩)) ⟨⟨rfl, rfl, rfl, setS⟩, ⟨rfl, rfl, rfl, .same rfl, rfl, .same rfl, rfl, .same rfl, rfl, .same rfl, rfl, .same rfl, rfl, .same rfl, rfl, .same rfl, rfl, .same rfl, rfl, .same rfl, rfl, .same rfl, rfl, .same rfl, rfl, .same rfl, rfl, .same rfl, rfl, .same rfl, rfl, .same rfl, rfl, .same rfl, rfl, .same rfl, rfl, .same rfl, rfl, .same rfl, rfl, .same rfl, rfl, .same rfl, rfl, .same rfl, rfl, .same rfl, rfl, .same rfl, rfl, trivial⟩, ⟨rfl, rfl, rfl, .same rfl, rfl, .same rfl, rfl, .same rfl, rfl, .same rfl, rfl, .same rfl, rfl, .same rfl, rfl, .same rfl, rfl, .same rfl, rfl, .same rfl, rfl, .same rfl, rfl, .same rfl, rfl, .same rfl, rfl, .same rfl, rfl, .same rfl, rfl, .same rfl, rfl, .same rfl, rfl, .same rfl, rfl, .same rfl, rfl, .same rfl, rfl, .same rfl, rfl, .same rfl, rfl, .same rfl, rfl, .same rfl, rfl, .same rfl, rfl, trivial⟩, trivial⟩ rfl rfl) fun s' h => ⟨m - 1, by omega, k + 1, _, t, _, by omega, p3, h⟩
                  · refine .mk 7 rfl (by decide) ?_
                    conv => whnf
                    repeat (first | (refine Conf.mk (by kernel_rfl) ?_; conv => whnf) | (refine SeqOk.go ?_; conv => whnf))
                    refine .mk 0 rfl (by decide) ?_
                    conv => whnf
                    repeat (first | (refine Conf.mk (by kernel_rfl) ?_; conv => whnf) | (refine SeqOk.go ?_; conv => whnf))
                    obtain ⟨s, hs⟩ := hget 0 (by decide)
                    have hbn : bitOf (colN cs 7) 0 = true := by rw [hcc]; exact hb
                    have hsr := hI.right 0 s hs
                    have hso := right_ok hsr
                    by_cases hf0 : 0 < f 7 0
                    · refine BoolCase.yes (by simpa using hf0) ?_
                      conv => whnf
                      repeat (first | (refine Conf.mk (by kernel_rfl) ?_; conv => whnf) | (refine SeqOk.go ?_; conv => whnf))
                      exact Into.mono (Into.to [0, 1, 2] [(8, dInt (k + 1 : Nat)), (5, .row 0), (6, .ptr 1 0), (7, .ptr 2 0), (0, .dat (.list (cs.map encI))), (1, .dat (.list (ss.map encI)))] [(0, .rows 43 3 (cur.map Sv.enc) true), (1, .vars 58 24 [dInt (t 0 0), dInt (t 0 1), dInt (t 0 2), dInt (t 1 0), dInt (t 1 1), dInt (t 1 2), dInt (t 2 0), dInt (t 2 1), dInt (t 2 2), dInt (t 3 0), dInt (t 3 1), dInt (t 3 2), dInt (t 4 0), dInt (t 4 1), dInt (t 4 2), dInt (t 5 0), dInt (t 5 1), dInt (t 5 2), dInt (t 6 0), dInt (t 6 1), dInt (t 6 2), dInt (t 7 0), dInt (t 7 1), dInt (t 7 2)] true), (2, .vars 58 24 [dInt (f 0 0), dInt (f 0 1), dInt (f 0 2), dInt (f 1 0), dInt (f 1 1), dInt (f 1 2), dInt (f 2 0), dInt (f 2 1), dInt (f 2 2), dInt (f 3 0), dInt (f 3 1), dInt (f 3 2), dInt (f 4 0), dInt (f 4 1), dInt (f 4 2), dInt (f 5 0), dInt (f 5 1), dInt (f 5 2), dInt (f 6 0), dInt (f 6 1), dInt (f 6 2), dInt (f 7 0), dInt (f 7 1), dInt (f 7 2)] true)] (by repeat (first | exact trivial | refine ⟨.same (congrArg dInt (wrap_up (by omega))), ?_⟩ | refine ⟨.same rfl, ?_⟩ | refine ⟨.any _, ?_⟩)) ⟨⟨rfl, rfl, rfl, rfl⟩, ⟨rfl, rfl, rfl, .same rfl, rfl, .same rfl, rfl, .same rfl, rfl, .same rfl, rfl, .same rfl, rfl, .same rfl, rfl, .same rfl, rfl, .same rfl, rfl, .same rfl, rfl, .same rfl, rfl, .same rfl, rfl, .same rfl, rfl, .same rfl, rfl, .same rfl, rfl, .same rfl, rfl, .same rfl, rfl, .same rfl, rfl, .same rfl, rfl, .same rfl, rfl, .same rfl, rfl, .same rfl, rfl, .same rfl, rfl, .same rfl, rfl, .same rfl, rfl, trivial⟩, ⟨rfl, rfl, rfl, .same rfl, rfl, .same rfl, rfl, .same rfl, rfl, .same rfl, rfl, .same rfl, rfl, .same rfl, rfl, .same rfl, rfl, .same rfl, rfl, .same rfl, rfl, .same rfl, rfl, .same rfl, rfl, .same rfl, rfl, .same rfl, rfl, .same rfl, rfl, .same rfl, rfl, .same rfl, rfl, .same rfl, rfl, .same rfl, rfl, .same rfl, rfl, .same rfl, rfl, .same rfl, rfl, .same rfl, rfl, .same rfl, rfl, .same rfl, rfl, trivial⟩, trivial⟩ rfl rfl) fun s' h => ⟨m - 1, by omega, k + 1, cur, t, f, by omega, hI, h⟩
                    · refine BoolCase.no (by simpa using hf0) ?_
                      conv => whnf
                      repeat (first | (refine Conf.mk (by kernel_rfl) ?_; conv => whnf) | (refine SeqOk.go ?_; conv => whnf))
                      simp only
                      refine .mk 7 rfl (by decide) ?_
                      conv => whnf
                      repeat (first | (refine Conf.mk (by kernel_rfl) ?_; conv => whnf) | (refine SeqOk.go ?_; conv => whnf))
                      refine .mk 0 rfl (by decide) ?_
                      conv => whnf
                      repeat (first | (refine Conf.mk (by kernel_rfl) ?_; conv => whnf) | (refine SeqOk.go ?_; conv => whnf))
                      by_cases ht0 : t 7 0 = 0
                      · obtain ⟨p1, p2, p3⟩ := hI.prop hs (by decide) (by decide) (by decide) hbn ht0
                        refine BoolCase.yes (by simpa using ht0) ?_
                        conv => whnf
                        repeat (first | (refine Conf.mk (by kernel_rfl) ?_; conv => whnf) | (refine SeqOk.go ?_; conv => whnf))
                        refine atS rfl hs ?_
                        conv => whnf
                        repeat (first | (refine Conf.mk (by kernel_rfl) ?_; conv => whnf) | (refine SeqOk.go ?_; conv => whnf))
                        refine elS hs ?_
                        conv => whnf
                        repeat (first | (refine Conf.mk (by kernel_rfl) ?_; conv => whnf) | (refine SeqOk.go ?_; conv => whnf))
                        refine .data _ _ (sprop_ok s (7 : Nat) hso.1 hso.2) rfl ?_
                        conv => whnf
                        repeat (first | (refine Conf.mk (by kernel_rfl) ?_; conv => whnf) | (refine SeqOk.go ?_; conv => whnf))
                        simp only
                        refine BoolCase.no (by rw [p1]; rfl) ?_
                        conv => whnf
                        repeat (first | (refine Conf.mk (by kernel_rfl) ?_; conv => whnf) | (refine SeqOk.go ?_; conv => whnf))
                        refine BoolCase.no (by simp; omega) ?_
                        conv => whnf
                        repeat (first | (refine Conf.mk (by kernel_rfl) ?_; conv => whnf) | (refine SeqOk.go ?_; conv => whnf))
                        simp only
                        refine atS rfl hs ?_
                        conv => whnf
                        repeat (first | (refine Conf.mk (by kernel_rfl) ?_; conv => whnf) | (refine SeqOk.go ?_; conv => whnf))
                        refine elS hs ?_
                        conv => whnf
                        repeat (first | (refine Conf.mk (by kernel_rfl) ?_; conv => whnf) | (refine SeqOk.go ?_; conv => whnf))
                        refine .mk 7 rfl (by decide) ?_
                        conv => whnf
                        repeat (first | (refine Conf.mk (by kernel_rfl) ?_; conv => whnf) | (refine SeqOk.go ?_; conv => whnf))
                        refine .mk 0 rfl (by decide) ?_
                        conv => whnf
                        repeat (first | (refine Conf.mk (by kernel_rfl) ?_; conv => whnf) | (refine SeqOk.go ?_; conv => whnf))
                        simp only
                        generalize s.propR ((7 : Nat) : Int) = x at p2 p3
                        exact Into.mono (Into.to [0, 1, 2] [(8, dInt (k + 1 : Nat)), (5, .row 0), (6, .ptr 1 0), (7, .ptr 2 0), (0, .dat (.list (cs.map encI))), (1, .dat (.list (ss.map encI)))] [(0, .rows 43 3 ((cur.set 0 x).map Sv.enc) true), (1, .vars 58 24 [dInt (upd t 7 0 x.clock 0 0), dInt (upd t 7 0 x.clock 0 1), dInt (upd t 7 0 x.clock 0 2), dInt (upd t 7 0 x.clock 1 0), dInt (upd t 7 0 x.clock 1 1), dInt (upd t 7 0 x.clock 1 2), dInt (upd t 7 0 x.clock 2 0), dInt (upd t 7 0 x.clock 2 1), dInt (upd t 7 0 x.clock 2 2), dInt (upd t 7 0 x.clock 3 0), dInt (upd t 7 0 x.clock 3 1), dInt (upd t 7 0 x.clock 3 2), dInt (upd t 7 0 x.clock 4 0), dInt (upd t 7 0 x.clock 4 1), dInt (upd t 7 0 x.clock 4 2), dInt (upd t 7 0 x.clock 5 0), dInt (upd t 7 0 x.clock 5 1), dInt (upd t 7 0 x.clock 5 2), dInt (upd t 7 0 x.clock 6 0), dInt (upd t 7 0 x.clock 6 1), dInt (upd t 7 0 x.clock 6 2), dInt (upd t 7 0 x.clock 7 0), dInt (upd t 7 0 x.clock 7 1), dInt (upd t 7 0 x.clock 7 2)] true), (2, .vars 58 24 [dInt (f 0 0), dInt (f 0 1), dInt (f 0 2), dInt (f 1 0), dInt (f 1 1), dInt (f 1 2), dInt (f 2 0), dInt (f 2 1), dInt (f 2 2), dInt (f 3 0), dInt (f 3 1), dInt (f 3 2), dInt (f 4 0), dInt (f 4 1), dInt (f 4 2), dInt (f 5 0), dInt (f 5 1), dInt (f 5 2), dInt (f 6 0), dInt (f 6 1), dInt (f 6 2), dInt (f 7 0), dInt (f 7 1), dInt (f 7 2)] true)] (by repeat (first | exact trivial | refine ⟨.same (congrArg dInt (wrap_up (by omega))), ?_⟩ | refine ⟨.same rfl, ?_⟩ | refine ⟨.any _, ?_⟩)) ⟨⟨rfl, rfl, rfl, setS⟩, ⟨rfl, rfl, rfl, .same rfl, rfl, .same rfl, rfl, .same rfl, rfl, .same rfl, rfl, .same rfl, rfl, .same rfl, rfl, .same rfl, rfl, .same rfl, rfl, .same rfl, rfl, .same rfl, rfl, .same rfl, rfl, .same rfl, rfl, .same rfl, rfl, .same rfl, rfl, .same rfl, rfl, .same rfl, rfl, .same rfl, rfl, .same rfl, rfl, .same rfl, rfl, .same rfl, rfl, .same rfl, rfl, .same rfl, rfl, .same rfl, rfl, .same rfl, rfl, trivial⟩, ⟨rfl, rfl, rfl, .same rfl, rfl, .same rfl, rfl, .same rfl, rfl, .same rfl, rfl, .same rfl, rfl, .same rfl, rfl, .same rfl, rfl, .same rfl, rfl, .same rfl, rfl, .same rfl, rfl, .same rfl, rfl, .same rfl, rfl, .same rfl, rfl, .same rfl, rfl, .same rfl, rfl, .same rfl, rfl, .same rfl, rfl, .same rfl, rfl, .same rfl, rfl, .same rfl, rfl, .same rfl, rfl, .same rfl, rfl, .same rfl, rfl, .same rfl, rfl, trivial⟩, trivial⟩ rfl rfl) fun s' h => ⟨m - 1, by omega, k + 1, _, _, f, by omega, p3, h⟩
                      · refine BoolCase.no (by simpa using ht0) ?_
                        conv => whnf
                        repeat (first | (refine Conf.mk (by kernel_rfl) ?_; conv => whnf) | (refine SeqOk.go ?_; conv => whnf))
                        refine .look _ _ (most_ok t 7 c (by decide) (by decide) (by omega)) rfl rfl ?_
                        conv => whnf
                        repeat (first | (refine Conf.mk (by kernel_rfl) ?_; conv => whnf) | (refine SeqOk.go ?_; conv => whnf))
                        simp only
                        cases hmo : (mostV c (t 7)).2
                        · refine BoolCase.no rfl ?_
                          conv => whnf
                          repeat (first | (refine Conf.mk (by kernel_rfl) ?_; conv => whnf) | (refine SeqOk.go ?_; conv => whnf))
                          exact Into.mono (Into.to [0, 1, 2] [(8, dInt (k + 1 : Nat)), (5, .row 0), (6, .ptr 1 0), (7, .ptr 2 0), (0, .dat (.list (cs.map encI))), (1, .dat (.list (ss.map encI)))] [(0, .rows 43 3 (cur.map Sv.enc) true), (1, .vars 58 24 [dInt (t 0 0), dInt (t 0 1), dInt (t 0 2), dInt (t 1 0), dInt (t 1 1), dInt (t 1 2), dInt (t 2 0), dInt (t 2 1), dInt (t 2 2), dInt (t 3 0), dInt (t 3 1), dInt (t 3 2), dInt (t 4 0), dInt (t 4 1), dInt (t 4 2), dInt (t 5 0), dInt (t 5 1), dInt (t 5 2), dInt (t 6 0), dInt (t 6 1), dInt (t 6 2), dInt (t 7 0), dInt (t 7 1), dInt (t 7 2)] true), (2, .vars 58 24 [dInt (f 0 0), dInt (f 0 1), dInt (f 0 2), dInt (f 1 0), dInt (f 1 1), dInt (f 1 2), dInt (f 2 0), dInt (f 2 1), dInt (f 2 2), dInt (f 3 0), dInt (f 3 1), dInt (f 3 2), dInt (f 4 0), dInt (f 4 1), dInt (f 4 2), dInt (f 5 0), dInt (f 5 1), dInt (f 5 2), dInt (f 6 0), dInt (f 6 1), dInt (f 6 2), dInt (f 7 0), dInt (f 7 1), dInt (f 7 2)] true)] (by repeat (first | exact trivial | refine ⟨.same (congrArg dInt (wrap_up (by omega))), ?_⟩ | refine ⟨.same rfl, ?_⟩ | refine ⟨.any _, ?_⟩)) ⟨⟨rfl, rfl, rfl, rfl⟩, ⟨rfl, rfl, rfl, .same rfl, rfl, .same rfl, rfl, .same rfl, rfl, .same rfl, rfl, .same rfl, rfl, .same rfl, rfl, .same rfl, rfl, .same rfl, rfl, .same rfl, rfl, .same rfl, rfl, .same rfl, rfl, .same rfl, rfl, .same rfl, rfl, .same rfl, rfl, .same rfl, rfl, .same rfl, rfl, .same rfl, rfl, .same rfl, rfl, .same rfl, rfl, .same rfl, rfl, .same rfl, rfl, .same rfl, rfl, .same rfl, rfl, .same rfl, rfl, trivial⟩, ⟨rfl, rfl, rfl, .same rfl, rfl, .same rfl, rfl, .same rfl, rfl, .same rfl, rfl, .same rfl, rfl, .same rfl, rfl, .same rfl, rfl, .same rfl, rfl, .same rfl, rfl, .same rfl, rfl, .same rfl, rfl, .same rfl, rfl, .same rfl, rfl, .same rfl, rfl, .same rfl, rfl, .same rfl, rfl, .same rfl, rfl, .same rfl, rfl, .same rfl, rfl, .same rfl, rfl, .same rfl, rfl, .same rfl, rfl, .same rfl, rfl, .same rfl, rfl, trivial⟩, trivial⟩ rfl rfl) fun s' h => ⟨m - 1, by omega, k + 1, cur, t, f, by omega, hI, h⟩
                        · have hmv : mostV (colN cs 7) (t 7) = ((mostV c (t 7)).1, true) := by rw [hcc, ← hmo]
                          obtain ⟨p1, p2, p3⟩ := hI.comm hs (by decide) (by decide) (by decide) hbn ht0 hf0 hmv
                          have hso2 := right_ok (right_of_err p2)
                          generalize (mostV c (t 7)).1 = T at p1 p2 p3 hso2
                          refine BoolCase.yes rfl ?_
                          conv => whnf
                          repeat (first | (refine Conf.mk (by kernel_rfl) ?_; conv => whnf) | (refine SeqOk.go ?_; conv => whnf))
                          refine atS rfl hs ?_
                          conv => whnf
                          repeat (first | (refine Conf.mk (by kernel_rfl) ?_; conv => whnf) | (refine SeqOk.go ?_; conv => whnf))
                          refine elS hs ?_
                          conv => whnf
                          repeat (first | (refine Conf.mk (by kernel_rfl) ?_; conv => whnf) | (refine SeqOk.go ?_; conv => whnf))
                          refine .data _ _ (scomm_ok s (7 : Nat) T hso.1 hso.2) rfl ?_
                          conv => whnf
                          repeat (first | (refine Conf.mk (by kernel_rfl) ?_; conv => whnf) | (refine SeqOk.go ?_; conv => whnf))
                          simp only
                          refine BoolCase.no (by rw [p1]; rfl) ?_
                          conv => whnf
                          repeat (first | (refine Conf.mk (by kernel_rfl) ?_; conv => whnf) | (refine SeqOk.go ?_; conv => whnf))
                          refine .data _ _ (scheck_ok (s.commR ((7 : Nat) : Int) T) hso2.1 hso2.2) rfl ?_
                          conv => whnf
                          repeat (first | (refine Conf.mk (by kernel_rfl) ?_; conv => whnf) | (refine SeqOk.go ?_; conv => whnf))
                          refine BoolCase.no (by rw [p2]; rfl) ?_
                          conv => whnf
                          repeat (first | (refine Conf.mk (by kernel_rfl) ?_; conv => whnf) | (refine SeqOk.go ?_; conv => whnf))
                          simp only
                          refine atS rfl hs ?_
                          conv => whnf
                          repeat (first | (refine Conf.mk (by kernel_rfl) ?_; conv => whnf) | (refine SeqOk.go ?_; conv => whnf))
                          refine elS hs ?_
                          conv => whnf
                          repeat (first | (refine Conf.mk (by kernel_rfl) ?_; conv => whnf) | (refine SeqOk.go ?_; conv => whnf))
                          refine .mk 7 rfl (by decide) ?_
                          conv => whnf
                          repeat (first | (refine Conf.mk (by kernel_rfl) ?_; conv => whnf) | (refine SeqOk.go ?_; conv => whnf))
                          refine .mk 0 rfl (by decide) ?_
                          conv => whnf
                          repeat (first | (refine Conf.mk (by kernel_rfl) ?_; conv => whnf) | (refine SeqOk.go ?_; conv => whnf))
                          simp only
                          generalize s.commR ((7 : Nat) : Int) T = x at p3
                          exact Into.mono (Into.to [0, 1, 2] [(8, dInt (k + 1 : Nat)), (5, .row 0), (6, .ptr 1 0), (7, .ptr 2 0), (0, .dat (.list (cs.map encI))), (1, .dat (.list (ss.map encI)))] [(0, .rows 43 3 ((cur.set 0 x).map Sv.enc) true), (1, .vars 58 24 [dInt (t 0 0), dInt (t 0 1), dInt (t 0 2), dInt (t 1 0), dInt (t 1 1), dInt (t 1 2), dInt (t 2 0), dInt (t 2 1), dInt (t 2 2), dInt (t 3 0), dInt (t 3 1), dInt (t 3 2), dInt (t 4 0), dInt (t 4 1), dInt (t 4 2), dInt (t 5 0), dInt (t 5 1), dInt (t 5 2), dInt (t 6 0), dInt (t 6 1), dInt (t 6 2), dInt (t 7 0), dInt (t 7 1), dInt (t 7 2)] true), (2, .vars 58 24 [dInt (upd f 7 0 T 0 0), dInt (upd f 7 0 T 0 1), dInt (upd f 7 0 T 0 2), dInt (upd f 7 0 T 1 0), dInt (upd f 7 0 T 1 1), dInt (upd f 7 0 T 1 2), dInt (upd f 7 0 T 2 0), dInt (upd f 7 0 T 2 1), dInt (upd f 7 0 T 2 2), dInt (upd f 7 0 T 3 0), dInt (upd f 7 0 T 3 1), dInt (upd f 7 0 T 3 2), dInt (upd f 7 0 T 4 0), dInt (upd f 7 0 T 4 1), dInt (upd f 7 0 T 4 2), dInt (upd f 7 0 T 5 0), dInt (upd f 7 0 T 5 1), dInt (upd f 7 0 T 5 2), dInt (upd f 7 0 T 6 0), dInt (upd f 7 0 T 6 1), dInt (upd f 7 0 T 6 2), dInt (upd f 7 0 T 7 0), dInt (upd f 7 0 T 7 1), dInt (upd f 7 0 T 7 2)] true)] (by repeat (first | exact trivial | refine ⟨.same (congrArg dInt (wrap_up (by omega))), ?_⟩ | refine ⟨.same rfl, ?_⟩ | refine ⟨.any _, ?_⟩)) ⟨⟨rfl, rfl, rfl, setS⟩, ⟨rfl, rfl, rfl, .same rfl, rfl, .same rfl, rfl, .same rfl, rfl, .same rfl, rfl, .same rfl, rfl, .same rfl, rfl, .same rfl, rfl, .same rfl, rfl, .same rfl, rfl, .same rfl, rfl, .same rfl, rfl, .same rfl, rfl, .same rfl, rfl, .same rfl, rfl, .same rfl, rfl, .same rfl, rfl, .same rfl, rfl, .same rfl, rfl, .same rfl, rfl, .same rfl, rfl, .same rfl, rfl, .same rfl, rfl, .same rfl, rfl, .same rfl, rfl, trivial⟩, ⟨rfl, rfl, rfl, .same rfl, rfl, .same rfl, rfl, .same rfl, rfl, .same rfl, rfl, .same rfl, rfl, .same rfl, rfl, .same rfl, rfl, .same rfl, rfl, .same rfl, rfl, .same rfl, rfl, .same rfl, rfl, .same rfl, rfl, .same rfl, rfl, .same rfl, rfl, .same rfl, rfl, .same rfl, rfl, .same rfl, rfl, .same rfl, rfl, .same rfl, rfl, .same rfl, rfl, .same rfl, rfl, .same rfl, rfl, .same rfl, rfl, .same rfl, rfl, trivial⟩, trivial⟩ rfl rfl) fun s' h => ⟨m - 1, by omega, k + 1, _, t, _, by omega, p3, h⟩
                  · refine .mk 7 rfl (by decide) ?_
                    conv => whnf
                    repeat (first | (refine Conf.mk (by kernel_rfl) ?_; conv => whnf) | (refine SeqOk.go ?_; conv => whnf))
                    refine .mk 1 rfl (by decide) ?_
                    conv => whnf
                    repeat (first | (refine Conf.mk (by kernel_rfl) ?_; conv => whnf) | (refine SeqOk.go ?_; conv => whnf))
                    obtain ⟨s, hs⟩ := hget 1 (by decide)
                    have hbn : bitOf (colN cs 7) 1 = true := by rw [hcc]; exact hb
                    have hsr := hI.right 1 s hs
                    have hso := right_ok hsr
                    by_cases hf0 : 0 < f 7 1
                    · refine BoolCase.yes (by simpa using hf0) ?_
                      conv => whnf
                      repeat (first | (refine Conf.mk (by kernel_rfl) ?_; conv => whnf) | (refine SeqOk.go ?_; conv => whnf))
                      exact Into.mono (Into.to [0, 1, 2] [(8, dInt (k + 1 : Nat)), (5, .row 0), (6, .ptr 1 0), (7, .ptr 2 0), (0, .dat (.list (cs.map encI))), (1, .dat (.list (ss.map encI)))] [(0, .rows 43 3 (cur.map Sv.enc) true), (1, .vars 58 24 [dInt (t 0 0), dInt (t 0 1), dInt (t 0 2), dInt (t 1 0), dInt (t 1 1), dInt (t 1 2), dInt (t 2 0), dInt (t 2 1), dInt (t 2 2), dInt (t 3 0), dInt (t 3 1), dInt (t 3 2), dInt (t 4 0), dInt (t 4 1), dInt (t 4 2), dInt (t 5 0), dInt (t 5 1), dInt (t 5 2), dInt (t 6 0), dInt (t 6 1), dInt (t 6 2), dInt (t 7 0), dInt (t 7 1), dInt (t 7 2)] true), (2, .vars 58 24 [dInt (f 0 0), dInt (f 0 1), dInt (f 0 2), dInt (f 1 0), dInt (f 1 1), dInt (f 1 2), dInt (f 2 0), dInt (f 2 1), dInt (f 2 2), dInt (f 3 0), dInt (f 3 1), dInt (f 3 2), dInt (f 4 0), dInt (f 4 1), dInt (f 4 2), dInt (f 5 0), dInt (f 5 1), dInt (f 5 2), dInt (f 6 0), dInt (f 6 1), dInt (f 6 2), dInt (f 7 0), dInt (f 7 1), dInt (f 7 2)] true)] (by repeat (first | exact trivial | refine ⟨.same (congrArg dInt (wrap_up (by omega))), ?_⟩ | refine ⟨.same rfl, ?_⟩ | refine ⟨.any _, ?_⟩)) ⟨⟨rfl, rfl, rfl, rfl⟩, ⟨rfl, rfl, rfl, .same rfl, rfl, .same rfl, rfl, .same rfl, rfl, .same rfl, rfl, .same rfl, rfl, .same rfl, rfl, .same rfl, rfl, .same rfl, rfl, .same rfl, rfl, .same rfl, rfl, .same rfl, rfl, .same rfl, rfl, .same rfl, rfl, .same rfl, rfl, .same rfl, rfl, .same rfl, rfl, .same rfl, rfl, .same rfl, rfl, .same rfl, rfl, .same rfl, rfl, .same rfl, rfl, .same rfl, rfl, .same rfl, rfl, .same rfl, rfl, trivial⟩, ⟨rfl, rfl, rfl, .same rfl, rfl, .same rfl, rfl, .same rfl, rfl, .same rfl, rfl, .same rfl, rfl, .same rfl, rfl, .same rfl, rfl, .same rfl, rfl, .same rfl, rfl, .same rfl, rfl, .same rfl, rfl, .same rfl, rfl, .same rfl, rfl, .same rfl, rfl, .same rfl, rfl, .same rfl, rfl, .same rfl, rfl, .same rfl, rfl, .same rfl, rfl, .same rfl, rfl, .same rfl, rfl, .same rfl, rfl, .same rfl, rfl, .same rfl, rfl, trivial⟩, trivial⟩ rfl rfl) fun s' h => ⟨m - 1, by omega, k + 1, cur, t, f, by omega, hI, h⟩
                    · refine BoolCase.no (by simpa using hf0) ?_
                      conv => whnf
                      repeat (first | (refine Conf.mk (by kernel_rfl) ?_; conv => whnf) | (refine SeqOk.go ?_; conv => whnf))
                      simp only
                      refine .mk 7 rfl (by decide) ?_
                      conv => whnf
                      repeat (first | (refine Conf.mk (by kernel_rfl) ?_; conv => whnf) | (refine SeqOk.go ?_; conv => whnf))
                      refine .mk 1 rfl (by decide) ?_
                      conv => whnf
                      repeat (first | (refine Conf.mk (by kernel_rfl) ?_; conv => whnf) | (refine SeqOk.go ?_; conv => whnf))
                      by_cases ht0 : t 7 1 = 0
                      · obtain ⟨p1, p2, p3⟩ := hI.prop hs (by decide) (by decide) (by decide) hbn ht0
                        refine BoolCase.yes (by simpa using ht0) ?_
                        conv => whnf
                        repeat (first | (refine Conf.mk (by kernel_rfl) ?_; conv => whnf) | (refine SeqOk.go ?_; conv => whnf))
                        refine atS rfl hs ?_
                        conv => whnf
                        repeat (first | (refine Conf.mk (by kernel_rfl) ?_; conv => whnf) | (refine SeqOk.go ?_; conv => whnf))
                        refine elS hs ?_
                        conv => whnf
                        repeat (first | (refine Conf.mk (by kernel_rfl) ?_; conv => whnf) | (refine SeqOk.go ?_; conv => whnf))
                        refine .data _ _ (sprop_ok s (7 : Nat) hso.1 hso.2) rfl ?_
                        conv => whnf
                        repeat (first | (refine Conf.mk (by kernel_rfl) ?_; conv => whnf) | (refine SeqOk.go ?_; conv => whnf))
                        simp only
                        refine BoolCase.no (by rw [p1]; rfl) ?_
                        conv => whnf
                        repeat (first | (refine Conf.mk (by kernel_rfl) ?_; conv => whnf) | (refine SeqOk.go ?_; conv => whnf))
                        refine BoolCase.no (by simp; omega) ?_
                        conv => whnf
                        repeat (first | (refine Conf.mk (by kernel_rfl) ?_; conv => whnf) | (refine SeqOk.go ?_; conv => whnf))
                        simp only
                        refine atS rfl hs ?_
                        conv => whnf
                        repeat (first | (refine Conf.mk (by kernel_rfl) ?_; conv => whnf) | (refine SeqOk.go ?_; conv => whnf))
                        refine elS hs ?_
                        conv => whnf
                        repeat (first | (refine Conf.mk (by kernel_rfl) ?_; conv => whnf) | (refine SeqOk.go ?_; conv => whnf))
                        refine .mk 7 rfl (by decide) ?_
                        conv => whnf
                        repeat (first | (refine Conf.mk (by kernel_rfl) ?_; conv => whnf) | (refine SeqOk.go ?_; conv => whnf))
                        refine .mk 1 rfl (by decide) ?_
                        conv => whnf
                        repeat (first | (refine Conf.mk (by kernel_rfl) ?_; conv => whnf) | (refine SeqOk.go ?_; conv => whnf))
                        simp only
                        generalize s.propR ((7 : Nat) : Int) = x at p2 p3
                        exact Into.mono (Into.to [0, 1, 2] [(8, dInt (k + 1 : Nat)), (5, .row 0), (6, .ptr 1 0), (7, .ptr 2 0), (0, .dat (.list (cs.map encI))), (1, .dat (.list (ss.map encI)))] [(0, .rows 43 3 ((cur.set 1 x).map Sv.enc) true), (1, .vars 58 24 [dInt (upd t 7 1 x.clock 0 0), dInt (upd t 7 1 x.clock 0 1), dInt (upd t 7 1 x.clock 0 2), dInt (upd t 7 1 x.clock 1 0), dInt (upd t 7 1 x.clock 1 1), dInt (upd t 7 1 x.clock 1 2), dInt (upd t 7 1 x.clock 2 0), dInt (upd t 7 1 x.clock 2 1), dInt (upd t 7 1 x.clock 2 2), dInt (upd t 7 1 x.clock 3 0), dInt (upd t 7 1 x.clock 3 1), dInt (upd t 7 1 x.clock 3 2), dInt (upd t 7 1 x.clock 4 0), dInt (upd t 7 1 x.clock 4 1), dInt (upd t 7 1 x.clock 4 2), dInt (upd t 7 1 x.clock 5 0), dInt (upd t 7 1 x.clock 5 1), dInt (upd t 7 1 x.clock 5 2), dInt (upd t 7 1 x.clock 6 0), dInt (upd t 7 1 x.clock 6 1), dInt (upd t 7 1 x.clock 6 2), dInt (upd t 7 1 x.clock 7 0), dInt (upd t 7 1 x.clock 7 1), dInt (upd t 7 1 x.clock 7 2)] true), (2, .vars 58 24 [dInt (f 0 0), dInt (f 0 1), dInt (f 0 2), dInt (f 1 0), dInt (f 1 1), dInt (f 1 2), dInt (f 2 0), dInt (f 2 1), dInt (f 2 2), dInt (f 3 0), dInt (f 3 1), dInt (f 3 2), dInt (f 4 0), dInt (f 4 1), dInt (f 4 2), dInt (f 5 0), dInt (f 5 1), dInt (f 5 2), dInt (f 6 0), dInt (f 6 1), dInt (f 6 2), dInt (f 7 0), dInt (f 7 1), dInt (f 7 2)] true)] (by repeat (first | exact trivial | refine ⟨.same (congrArg dInt (wrap_up (by omega))), ?_⟩ | refine ⟨.same rfl, ?_⟩ | refine ⟨.any _, ?_⟩)) ⟨⟨rfl, rfl, rfl, setS⟩, ⟨rfl, rfl, rfl, .same rfl, rfl, .same rfl, rfl, .same rfl, rfl, .same rfl, rfl, .same rfl, rfl, .same rfl, rfl, .same rfl, rfl, .same rfl, rfl, .same rfl, rfl, .same rfl, rfl, .same rfl, rfl, .same rfl, rfl, .same rfl, rfl, .same rfl, rfl, .same rfl, rfl, .same rfl, rfl, .same rfl, rfl, .same rfl, rfl, .same rfl, rfl, .same rfl, rfl, .same rfl, rfl, .same rfl, rfl, .same rfl, rfl, .same rfl, rfl, trivial⟩, ⟨rfl, rfl, rfl, .same rfl, rfl, .same rfl, rfl, .same rfl, rfl, .same rfl, rfl, .same rfl, rfl, .same rfl, rfl, .same rfl, rfl, .same rfl, rfl, .same rfl, rfl, .same rfl, rfl, .same rfl, rfl, .same rfl, rfl, .same rfl, rfl, .same rfl, rfl, .same rfl, rfl, .same rfl, rfl, .same rfl, rfl, .same rfl, rfl, .same rfl, rfl, .same rfl, rfl, .same rfl, rfl, .same rfl, rfl, .same rfl, rfl, .same rfl, rfl, trivial⟩, trivial⟩ rfl rfl) fun s' h => ⟨m - 1, by omega, k + 1, _, _, f, by omega, p3, h⟩
                      · refine BoolCase.no (by simpa using ht0) ?_
                        conv => whnf
                        repeat (first | (refine Conf.mk (by kernel_rfl) ?_; conv => whnf) | (refine SeqOk.go ?_; conv => whnf))
                        refine .look _ _ (most_ok t 7 c (by decide) (by decide) (by omega)) rfl rfl ?_
                        conv => whnf
                        repeat (first | (refine Conf.mk (by kernel_rfl) ?_; conv => whnf) | (refine SeqOk.go ?_; conv => whnf))
                        simp only
                        cases hmo : (mostV c (t 7)).2
                        · refine BoolCase.no rfl ?_
                          conv => whnf
                          repeat (first | (refine Conf.mk (by kernel_rfl) ?_; conv => whnf) | (refine SeqOk.go ?_; conv => whnf))
                          exact Into.mono (Into.to [0, 1, 2] [(8, dInt (k + 1 : Nat)), (5, .row 0), (6, .ptr 1 0), (7, .ptr 2 0), (0, .dat (.list (cs.map encI))), (1, .dat (.list (ss.map encI)))] [(0, .rows 43 3 (cur.map Sv.enc) true), (1, .vars 58 24 [dInt (t 0 0), dInt (t 0 1), dInt (t 0 2), dInt (t 1 0), dInt (t 1 1), dInt (t 1 2), dInt (t 2 0), dInt (t 2 1), dInt (t 2 2), dInt (t 3 0), dInt (t 3 1), dInt (t 3 2), dInt (t 4 0), dInt (t 4 1), dInt (t 4 2), dInt (t 5 0), dInt (t 5 1), dInt (t 5 2), dInt (t 6 0), dInt (t 6 1), dInt (t 6 2), dInt (t 7 0), dInt (t 7 1), dInt (t 7 2)] true), (2, .vars 58 24 [dInt (f 0 0), dInt (f 0 1), dInt (f 0 2), dInt (f 1 0), dInt (f 1 1), dInt (f 1 2), dInt (f 2 0), dInt (f 2 1), dInt (f 2 2), dInt (f 3 0), dInt (f 3 1), dInt (f 3 2), dInt (f 4 0), dInt (f 4 1), dInt (f 4 2), dInt (f 5 0), dInt (f 5 1), dInt (f 5 2), dInt (f 6 0), dInt (f 6 1), dInt (f 6 2), dInt (f 7 0), dInt (f 7 1), dInt (f 7 2)] true)] (by repeat (first | exact trivial | refine ⟨.same (congrArg dInt (wrap_up (by omega))), ?_⟩ | refine ⟨.same rfl, ?_⟩ | refine ⟨.any _, ?_⟩)) ⟨⟨rfl, rfl, rfl, rfl⟩, ⟨rfl, rfl, rfl, .same rfl, rfl, .same rfl, rfl, .same rfl, rfl, .same rfl, rfl, .same rfl, rfl, .same rfl, rfl, .same rfl, rfl, .same rfl, rfl, .same rfl, rfl, .same rfl, rfl, .same rfl, rfl, .same rfl, rfl, .same rfl, rfl, .same rfl, rfl, .same rfl, rfl, .same rfl, rfl, .same rfl, rfl, .same rfl, rfl, .same rfl, rfl, .same rfl, rfl, .same rfl, rfl, .same rfl, rfl, .same rfl, rfl, .same rfl, rfl, trivial⟩, ⟨rfl, rfl, rfl, .same rfl, rfl, .same rfl, rfl, .same rfl, rfl, .same rfl, rfl, .same rfl, rfl, .same rfl, rfl, .same rfl, rfl, .same rfl, rfl, .same rfl, rfl, .same rfl, rfl, .same rfl, rfl, .same rfl, rfl, .same rfl, rfl, .same rfl, rfl, .same rfl, rfl, .same rfl, rfl, .same rfl, rfl, .same rfl, rfl, .same rfl, rfl, .same rfl, rfl, .same rfl, rfl, .same rfl, rfl, .same rfl, rfl, .same rfl, rfl, trivial⟩, trivial⟩ rfl rfl) fun s' h => ⟨m - 1, by omega, k + 1, cur, t, f, by omega, hI, h⟩
                        · have hmv : mostV (colN cs 7) (t 7) = ((mostV c (t 7)).1, true) := by rw [hcc, ← hmo]
                          obtain ⟨p1, p2, p3⟩ := hI.comm hs (by decide) (by decide) (by decide) hbn ht0 hf0 hmv
                          have hso2 := right_ok (right_of_err p2)
                          generalize (mostV c (t 7)).1 = T at p1 p2 p3 hso2
                          refine BoolCase.yes rfl ?_
                          conv => whnf
                          repeat (first | (refine Conf.mk (by kernel_rfl) ?_; conv => whnf) | (refine SeqOk.go ?_; conv => whnf))
                          refine atS rfl hs ?_
                          conv => whnf
                          repeat (first | (refine Conf.mk (by kernel_rfl) ?_; conv => whnf) | (refine SeqOk.go ?_; conv => whnf))
                          refine elS hs ?_
                          conv => whnf
                          repeat (first | (refine Conf.mk (by kernel_rfl) ?_; conv => whnf) | (refine SeqOk.go ?_; conv => whnf))
                          refine .data _ _ (scomm_ok s (7 : Nat) T hso.1 hso.2) rfl ?_
                          conv => whnf
                          repeat (first | (refine Conf.mk (by kernel_rfl) ?_; conv => whnf) | (refine SeqOk.go ?_; conv => whnf))
                          simp only
                          refine BoolCase.no (by rw [p1]; rfl) ?_
                          conv => whnf
                          repeat (first | (refine Conf.mk (by kernel_rfl) ?_; conv => whnf) | (refine SeqOk.go ?_; conv => whnf))
                          refine .data _ _ (scheck_ok (s.commR ((7 : Nat) : Int) T) hso2.1 hso2.2) rfl ?_
                          conv => whnf
                          repeat (first | (refine Conf.mk (by kernel_rfl) ?_; conv => whnf) | (refine SeqOk.go ?_; conv => whnf))
                          refine BoolCase.no (by rw [p2]; rfl) ?_
                          conv => whnf
                          repeat (first | (refine Conf.mk (by kernel_rfl) ?_; conv => whnf) | (refine SeqOk.go ?_; conv => whnf))
                          simp only
                          refine atS rfl hs ?_
                          conv => whnf
                          repeat (first | (refine Conf.mk (by kernel_rfl) ?_; conv => whnf) | (refine SeqOk.go ?_; conv => whnf))
                          refine elS hs ?_
                          conv => whnf
                          repeat (first | (refine Conf.mk (by kernel_rfl) ?_; conv => whnf) | (refine SeqOk.go ?_; conv => whnf))
                          refine .mk 7 rfl (by decide) ?_
                          conv => whnf
                          repeat (first | (refine Conf.mk (by kernel_rfl) ?_; conv => whnf) | (refine SeqOk.go ?_; conv => whnf))
                          refine .mk 1 rfl (by decide) ?_
                          conv => whnf
                          repeat (first | (refine Conf.mk (by kernel_rfl) ?_; conv => whnf) | (refine SeqOk.go ?_; conv => whnf))
                          simp only
                          generalize s.commR ((7 : Nat) : Int) T = x at p3
                          exact Into.mono (Into.to [0, 1, 2] [(8, dInt (k + 1 : Nat)), (5, .row 0), (6, .ptr 1 0), (7, .ptr 2 0), (0, .dat (.list (cs.map encI))), (1, .dat (.list (ss.map encI)))] [(0, .rows 43 3 ((cur.set 1 x).map Sv.enc) true), (1, .vars 58 24 [dInt (t 0 0), dInt (t 0 1), dInt (t 0 2), dInt (t 1 0), dInt (t 1 1), dInt (t 1 2), dInt (t 2 0), dInt (t 2 1), dInt (t 2 2), dInt (t 3 0), dInt (t 3 1), dInt (t 3 2), dInt (t 4 0), dInt (t 4 1), dInt (t 4 2), dInt (t 5 0), dInt (t 5 1), dInt (t 5 2), dInt (t 6 0), dInt (t 6 1), dInt (t 6 2), dInt (t 7 0), dInt (t 7 1), dInt (t 7 2)] true), (2, .vars 58 24 [dInt (upd f 7 1 T 0 0), dInt (upd f 7 1 T 0 1), dInt (upd f 7 1 T 0 2), dInt (upd f 7 1 T 1 0), dInt (upd f 7 1 T 1 1), dInt (upd f 7 1 T 1 2), dInt (upd f 7 1 T 2 0), dInt (upd f 7 1 T 2 1), dInt (upd f 7 1 T 2 2), dInt (upd f 7 1 T 3 0), dInt (upd f 7 1 T 3 1), dInt (upd f 7 1 T 3 2), dInt (upd f 7 1 T 4 0), dInt (upd f 7 1 T 4 1), dInt (upd f 7 1 T 4 2), dInt (upd f 7 1 T 5 0), dInt (upd f 7 1 T 5 1), dInt (upd f 7 1 T 5 2), dInt (upd f 7 1 T 6 0), dInt (upd f 7 1 T 6 1), dInt (upd f 7 1 T 6 2), dInt (upd f 7 1 T 7 0), dInt (upd f 7 1 T 7 1), dInt (upd f 7 1 T 7 2)] true)] (by repeat (first | exact trivial | refine ⟨.same (congrArg dInt (wrap_up (by omega))), ?_⟩ | refine ⟨.same rfl, ?_⟩ | refine ⟨.any _, ?_⟩)) ⟨⟨rfl, rfl, rfl, setS⟩, ⟨rfl, rfl, rfl, .same rfl, rfl, .same rfl, rfl, .same rfl, rfl, .same rfl, rfl, .same rfl, rfl, .same rfl, rfl, .same rfl, rfl, .same rfl, rfl, .same rfl, rfl, .same rfl, rfl, .same rfl, rfl, .same rfl, rfl, .same rfl, rfl, .same rfl, rfl, .same rfl, rfl, .same rfl, rfl, .same rfl, rfl, .same rfl, rfl, .same rfl, rfl, .same rfl, rfl, .same rfl, rfl, .same rfl, rfl, .same rfl, rfl, .same rfl, rfl, trivial⟩, ⟨rfl, rfl, rfl, .same rfl, rfl, .same rfl, rfl, .same rfl, rfl, .same rfl, rfl, .same rfl, rfl, .same rfl, rfl, .same rfl, rfl, .same rfl, rfl, .same rfl, rfl, .same rfl, rfl, .same rfl, rfl, .same rfl, rfl, .same rfl, rfl, .same rfl, rfl, .same rfl, rfl, .same rfl, rfl, .same rfl, rfl, .same rfl, rfl, .same rfl, rfl, .same rfl, rfl, .same rfl, rfl, .same rfl, rfl, .same rfl, rfl, .same rfl, rfl, trivial⟩, trivial⟩ rfl rfl) fun s' h => ⟨m - 1, by omega, k + 1, _, t, _, by omega, p3, h⟩
                  · refine .mk 7 rfl (by decide) ?_
                    conv => whnf
                    repeat (first | (refine Conf.mk (by kernel_rfl) ?_; conv => whnf) | (refine SeqOk.go ?_; conv => whnf))
                    refine .mk 2 rfl (by decide) ?_
                    conv => whnf
                    repeat (first | (refine Conf.mk (by kernel_rfl) ?_; conv => whnf) | (refine SeqOk.go ?_; conv => whnf))
                    obtain ⟨s, hs⟩ := hget 2 (by decide)
                    have hbn : bitOf (colN cs 7) 2 = true := by rw [hcc]; exact hb
                    have hsr := hI.right 2 s hs
                    have hso := right_ok hsr
                    by_cases hf0 : 0 < f 7 2
                    · refine BoolCase.yes (by simpa using hf0) ?_
                      conv => whnf
                      repeat (first | (refine Conf.mk (by kernel_rfl) ?_; conv => whnf) | (refine SeqOk.go ?_; conv => whnf))
                      exact Into.mono (Into.to [0, 1, 2] [(8, dInt (k + 1 : Nat)), (5, .row 0), (6, .ptr 1 0), (7, .ptr 2 0), (0, .dat (.list (cs.map encI))), (1, .dat (.list (ss.map encI)))] [(0, .rows 43 3 (cur.map Sv.enc) true), (1, .vars 58 24 [dInt (t 0 0), dInt (t 0 1), dInt (t 0 2), dInt (t 1 0), dInt (t 1 1), dInt (t 1 2), dInt (t 2 0), dInt (t 2 1), dInt (t 2 2), dInt (t 3 0), dInt (t 3 1), dInt (t 3 2), dInt (t 4 0), dInt (t 4 1), dInt (t 4 2), dInt (t 5 0), dInt (t 5 1), dInt (t 5 2), dInt (t 6 0), dInt (t 6 1), dInt (t 6 2), dInt (t 7 0), dInt (t 7 1), dInt (t 7 2)] true), (2, .vars 58 24 [dInt (f 0 0), dInt (f 0 1), dInt (f 0 2), dInt (f 1 0), dInt (f 1 1), dInt (f 1 2), dInt (f 2 0), dInt (f 2 1), dInt (f 2 2), dInt (f 3 0), dInt (f 3 1), dInt (f 3 2), dInt (f 4 0), dInt (f 4 1), dInt (f 4 2), dInt (f 5 0), dInt (f 5 1), dInt (f 5 2), dInt (f 6 0), dInt (f 6 1), dInt (f 6 2), dInt (f 7 0), dInt (f 7 1), dInt (f 7 2)] true)] (by repeat (first | exact trivial | refine ⟨.same (congrArg dInt (wrap_up (by omega))), ?_⟩ | refine ⟨.same rfl, ?_⟩ | refine ⟨.any _, ?_⟩)) ⟨⟨rfl, rfl, rfl, rfl⟩, ⟨rfl, rfl, rfl, .same rfl, rfl, .same rfl, rfl, .same rfl, rfl, .same rfl, rfl, .same rfl, rfl, .same rfl, rfl, .same rfl, rfl, .same rfl, rfl, .same rfl, rfl, .same rfl, rfl, .same rfl, rfl, .same rfl, rfl, .same rfl, rfl, .same rfl, rfl, .same rfl, rfl, .same rfl, rfl, .same rfl, rfl, .same rfl, rfl, .same rfl, rfl, .same rfl, rfl, .same rfl, rfl, .same rfl, rfl, .same rfl, rfl, .same rfl, rfl, trivial⟩, ⟨rfl, rfl, rfl, .same rfl, rfl, .same rfl, rfl, .same rfl, rfl, .same rfl, rfl, .same rfl, rfl, .same rfl, rfl, .same rfl, rfl, .same rfl, rfl, .same rfl, rfl, .same rfl, rfl, .same rfl, rfl, .same rfl, rfl, .same rfl, rfl, .same rfl, rfl, .same rfl, rfl, .same rfl, rfl, .same rfl, rfl, .same rfl, rfl, .same rfl, rfl, .same rfl, rfl, .same rfl, rfl, .same rfl, rfl, .same rfl, rfl, .same rfl, rfl, trivial⟩, trivial⟩ rfl rfl) fun s' h => ⟨m - 1, by omega, k + 1, cur, t, f, by omega, hI, h⟩
                    · refine BoolCase.no (by simpa using hf0) ?_
                      conv => whnf
                      repeat (first | (refine Conf.mk (by kernel_rfl) ?_; conv => whnf) | (refine SeqOk.go ?_; conv => whnf))
                      simp only
                      refine .mk 7 rfl (by decide) ?_
                      conv => whnf
                      repeat (first | (refine Conf.mk (by kernel_rfl) ?_; conv => whnf) | (refine SeqOk.go ?_; conv => whnf))
                      refine .mk 2 rfl (by decide) ?_
                      conv => whnf
                      repeat (first | (refine Conf.mk (by kernel_rfl) ?_; conv => whnf) | (refine SeqOk.go ?_; conv => whnf))
                      by_cases ht0 : t 7 2 = 0
                      · obtain ⟨p1, p2, p3⟩ := hI.prop hs (by decide) (by decide) (by decide) hbn ht0
                        refine BoolCase.yes (by simpa using ht0) ?_
                        conv => whnf
                        repeat (first | (refine Conf.mk (by kernel_rfl) ?_; conv => whnf) | (refine SeqOk.go ?_; conv => whnf))
                        refine atS rfl hs ?_
                        conv => whnf
                        repeat (first | (refine Conf.mk (by kernel_rfl) ?_; conv => whnf) | (refine SeqOk.go ?_; conv => whnf))
                        refine elS hs ?_
                        conv => whnf
                        repeat (first | (refine Conf.mk (by kernel_rfl) ?_; conv => whnf) | (refine SeqOk.go ?_; conv => whnf))
                        refine .data _ _ (sprop_ok s (7 : Nat) hso.1 hso.2) rfl ?_
                        conv => whnf
                        repeat (first | (refine Conf.mk (by kernel_rfl) ?_; conv => whnf) | (refine SeqOk.go ?_; conv => whnf))
                        simp only
                        refine BoolCase.no (by rw [p1]; rfl) ?_
                        conv => whnf
                        repeat (first | (refine Conf.mk (by kernel_rfl) ?_; conv => whnf) | (refine SeqOk.go ?_; conv => whnf))
                        refine BoolCase.no (by simp; omega) ?_
                        conv => whnf
                        repeat (first | (refine Conf.mk (by kernel_rfl) ?_; conv => whnf) | (refine SeqOk.go ?_; conv => whnf))
                        simp only
                        refine atS rfl hs ?_
                        conv => whnf
                        repeat (first | (refine Conf.mk (by kernel_rfl) ?_; conv => whnf) | (refine SeqOk.go ?_; conv => whnf))
                        refine elS hs ?_
                        conv => whnf
                        repeat (first | (refine Conf.mk (by kernel_rfl) ?_; conv => whnf) | (refine SeqOk.go ?_; conv => whnf))
                        refine .mk 7 rfl (by decide) ?_
                        conv => whnf
                        repeat (first | (refine Conf.mk (by kernel_rfl) ?_; conv => whnf) | (refine SeqOk.go ?_; conv => whnf))
                        refine .mk 2 rfl (by decide) ?_
                        conv => whnf
                        repeat (first | (refine Conf.mk (by kernel_rfl) ?_; conv => whnf) | (refine SeqOk.go ?_; conv => whnf))
                        simp only
                        generalize s.propR ((7 : Nat) : Int) = x at p2 p3
                        exact Into.mono (Into.to [0, 1, 2] [(8, dInt (k + 1 : Nat)), (5, .row 0), (6, .ptr 1 0), (7, .ptr 2 0), (0, .dat (.list (cs.map encI))), (1, .dat (.list (ss.map encI)))] [(0, .rows 43 3 ((cur.set 2 x).map Sv.enc) true), (1, .vars 58 24 [dInt (upd t 7 2 x.clock 0 0), dInt (upd t 7 2 x.clock 0 1), dInt (upd t 7 2 x.clock 0 2), dInt (upd t 7 2 x.clock 1 0), dInt (upd t 7 2 x.clock 1 1), dInt (upd t 7 2 x.clock 1 2), dInt (upd t 7 2 x.clock 2 0), dInt (upd t 7 2 x.clock 2 1), dInt (upd t 7 2 x.clock 2 2), dInt (upd t 7 2 x.clock 3 0), dInt (upd t 7 2 x.clock 3 1), dInt (upd t 7 2 x.clock 3 2), dInt (upd t 7 2 x.clock 4 0), dInt (upd t 7 2 x.clock 4 1), dInt (upd t 7 2 x.clock 4 2), dInt (upd t 7 2 x.clock 5 0), dInt (upd t 7 2 x.clock 5 1), dInt (upd t 7 2 x.clock 5 2), dInt (upd t 7 2 x.clock 6 0), dInt (upd t 7 2 x.clock 6 1), dInt (upd t 7 2 x.clock 6 2), dInt (upd t 7 2 x.clock 7 0), dInt (upd t 7 2 x.clock 7 1), dInt (upd t 7 2 x.clock 7 2)] true), (2, .vars 58 24 [dInt (f 0 0), dInt (f 0 1), dInt (f 0 2), dInt (f 1 0), dInt (f 1 1), dInt (f 1 2), dInt (f 2 0), dInt (f 2 1), dInt (f 2 2), dInt (f 3 0), dInt (f 3 1), dInt (f 3 2), dInt (f 4 0), dInt (f 4 1), dInt (f 4 2), dInt (f 5 0), dInt (f 5 1), dInt (f 5 2), dInt (f 6 0), dInt (f 6 1), dInt (f 6 2), dInt (f 7 0), dInt (f 7 1), dInt (f 7 2)] true)] (by repeat (first | exact trivial | refine ⟨.same (congrArg dInt (wrap_up (by omega))), ?_⟩ | refine ⟨.same rfl, ?_⟩ | refine ⟨.any _, ?_⟩)) ⟨⟨rfl, rfl, rfl, setS⟩, ⟨rfl, rfl, rfl, .same rfl, rfl, .same rfl, rfl, .same rfl, rfl, .same rfl, rfl, .same rfl, rfl, .same rfl, rfl, .same rfl, rfl, .same rfl, rfl, .same rfl, rfl, .same rfl, rfl, .same rfl, rfl, .same rfl, rfl, .same rfl, rfl, .same rfl, rfl, .same rfl, rfl, .same rfl, rfl, .same rfl, rfl, .same rfl, rfl, .same rfl, rfl, .same rfl, rfl, .same rfl, rfl, .same rfl, rfl, .same rfl, rfl, .same rfl, rfl, trivial⟩, ⟨rfl, rfl, rfl, .same rfl, rfl, .same rfl, rfl, .same rfl, rfl, .same rfl, rfl, .same rfl, rfl, .same rfl, rfl, .same rfl, rfl, .same rfl, rfl, .same rfl, rfl, .same rfl, rfl, .same rfl, rfl, .same rfl, rfl, .same rfl, rfl, .same rfl, rfl, .same rfl, rfl, .same rfl, rfl, .same rfl, rfl, .same rfl, rfl, .same rfl, rfl, .same rfl, rfl, .same rfl, rfl, .same rfl, rfl, .same rfl, rfl, .same rfl, rfl, trivial⟩, trivial⟩ rfl rfl) fun s' h => ⟨m - 1, by omega, k + 1, _, _, f, by omega, p3, h⟩
                      · refine BoolCase.no (by simpa using ht0) ?_
                        conv => whnf
                        repeat (first | (refine Conf.mk (by kernel_rfl) ?_; conv => whnf) | (refine SeqOk.go ?_; conv => whnf))
                        refine .look _ _ (most_ok t 7 c (by decide) (by decide) (by omega)) rfl rfl ?_
                        conv => whnf
                        repeat (first | (refine Conf.mk (by kernel_rfl) ?_; conv => whnf) | (refine SeqOk.go ?_; conv => whnf))
                        simp only
                        cases hmo : (mostV c (t 7)).2
                        · refine BoolCase.no rfl ?_
                          conv => whnf
                          repeat (first | (refine Conf.mk (by kernel_rfl) ?_; conv => whnf) | (refine SeqOk.go ?_; conv => whnf))
                          exact Into.mono (Into.to [0, 1, 2] [(8, dInt (k + 1 : Nat)), (5, .row 0), (6, .ptr 1 0), (7, .ptr 2 0), (0, .dat (.list (cs.map encI))), (1, .dat (.list (ss.map encI)))] [(0, .rows 43 3 (cur.map Sv.enc) true), (1, .vars 58 24 [dInt (t 0 0), dInt (t 0 1), dInt (t 0 2), dInt (t 1 0), dInt (t 1 1), dInt (t 1 2), dInt (t 2 0), dInt (t 2 1), dInt (t 2 2), dInt (t 3 0), dInt (t 3 1), dInt (t 3 2), dInt (t 4 0), dInt (t 4 1), dInt (t 4 2), dInt (t 5 0), dInt (t 5 1), dInt (t 5 2), dInt (t 6 0), dInt (t 6 1), dInt (t 6 2), dInt (t 7 0), dInt (t 7 1), dInt (t 7 2)] true), (2, .vars 58 24 [dInt (f 0 0), dInt (f 0 1), dInt (f 0 2), dInt (f 1 0), dInt (f 1 1), dInt (f 1 2), dInt (f 2 0), dInt (f 2 1), dInt (f 2 2), dInt (f 3 0), dInt (f 3 1), dInt (f 3 2), dInt (f 4 0), dInt (f 4 1), dInt (f 4 2), dInt (f 5 0), dInt (f 5 1), dInt (f 5 2), dInt (f 6 0), dInt (f 6 1), dInt (f 6 2), dInt (f 7 0), dInt (f 7 1), dInt (f 7 2)] true)] (by repeat (first | exact trivial | refine ⟨.same (congrArg dInt (wrap_up (by omega))), ?_⟩ | refine ⟨.same rfl, ?_⟩ | refine ⟨.any _, ?_⟩)) ⟨⟨rfl, rfl, rfl, rfl⟩, ⟨rfl, rfl, rfl, .same rfl, rfl, .same rfl, rfl, .same rfl, rfl, .same rfl, rfl, .same rfl, rfl, .same rfl, rfl, .same rfl, rfl, .same rfl, rfl, .same rfl, rfl, .same rfl, rfl, .same rfl, rfl, .same rfl, rfl, .same rfl, rfl, .same rfl, rfl, .same rfl, rfl, .same rfl, rfl, .same rfl, rfl, .same rfl, rfl, .same rfl, rfl, .same rfl, rfl, .same rfl, rfl, .same rfl, rfl, .same rfl, rfl, .same rfl, rfl, trivial⟩, ⟨rfl, rfl, rfl, .same rfl, rfl, .same rfl, rfl, .same rfl, rfl, .same rfl, rfl, .same rfl, rfl, .same rfl, rfl, .same rfl, rfl, .same rfl, rfl, .same rfl, rfl, .same rfl, rfl, .same rfl, rfl, .same rfl, rfl, .same rfl, rfl, .same rfl, rfl, .same rfl, rfl, .same rfl, rfl, .same rfl, rfl, .same rfl, rfl, .same rfl, rfl, .same rfl, rfl, .same rfl, rfl, .same rfl, rfl, .same rfl, rfl, .same rfl, rfl, trivial⟩, trivial⟩ rfl rfl) fun s' h => ⟨m - 1, by omega, k + 1, cur, t, f, by omega, hI, h⟩
                        · have hmv : mostV (colN cs 7) (t 7) = ((mostV c (t 7)).1, true) := by rw [hcc, ← hmo]
                          obtain ⟨p1, p2, p3⟩ := hI.comm hs (by decide) (by decide) (by decide) hbn ht0 hf0 hmv
                          have hso2 := right_ok (right_of_err p2)
                          generalize (mostV c (t 7)).1 = T at p1 p2 p3 hso2
                          refine BoolCase.yes rfl ?_
                          conv => whnf
                          repeat (first | (refine Conf.mk (by kernel_rfl) ?_; conv => whnf) | (refine SeqOk.go ?_; conv => whnf))
                          refine atS rfl hs ?_
                          conv => whnf
                          repeat (first | (refine Conf.mk (by kernel_rfl) ?_; conv => whnf) | (refine SeqOk.go ?_; conv => whnf))
                          refine elS hs ?_
                          conv => whnf
                          repeat (first | (refine Conf.mk (by kernel_rfl) ?_; conv => whnf) | (refine SeqOk.go ?_; conv => whnf))
                          refine .data _ _ (scomm_ok s (7 : Nat) T hso.1 hso.2) rfl ?_
                          conv => whnf
                          repeat (first | (refine Conf.mk (by kernel_rfl) ?_; conv => whnf) | (refine SeqOk.go ?_; conv => whnf))
                          simp only
                          refine BoolCase.no (by rw [p1]; rfl) ?_
                          conv => whnf
                          repeat (first | (refine Conf.mk (by kernel_rfl) ?_; conv => whnf) | (refine SeqOk.go ?_; conv => whnf))
                          refine .data _ _ (scheck_ok (s.commR ((7 : Nat) : Int) T) hso2.1 hso2.2) rfl ?_
                          conv => whnf
                          repeat (first | (refine Conf.mk (by kernel_rfl) ?_; conv => whnf) | (refine SeqOk.go ?_; conv => whnf))
                          refine BoolCase.no (by rw [p2]; rfl) ?_
                          conv => whnf
                          repeat (first | (refine Conf.mk (by kernel_rfl) ?_; conv => whnf) | (refine SeqOk.go ?_; conv => whnf))
                          simp only
                          refine atS rfl hs ?_
                          conv => whnf
                          repeat (first | (refine Conf.mk (by kernel_rfl) ?_; conv => whnf) | (refine SeqOk.go ?_; conv => whnf))
                          refine elS hs ?_
                          conv => whnf
                          repeat (first | (refine Conf.mk (by kernel_rfl) ?_; conv => whnf) | (refine SeqOk.go ?_; conv => whnf))
                          refine .mk 7 rfl (by decide) ?_
                          conv => whnf
                          repeat (first | (refine Conf.mk (by kernel_rfl) ?_; conv => whnf) | (refine SeqOk.go ?_; conv => whnf))
                          refine .mk 2 rfl (by decide) ?_
                          conv => whnf
                          repeat (first | (refine Conf.mk (by kernel_rfl) ?_; conv => whnf) | (refine SeqOk.go ?_; conv => whnf))
                          simp only
                          generalize s.commR ((7 : Nat) : Int) T = x at p3
                          exact Into.mono (Into.to [0, 1, 2] [(8, dInt (k + 1 : Nat)), (5, .row 0), (6, .ptr 1 0), (7, .ptr 2 0), (0, .dat (.list (cs.map encI))), (1, .dat (.list (ss.map encI)))] [(0, .rows 43 3 ((cur.set 2 x).map Sv.enc) true), (1, .vars 58 24 [dInt (t 0 0), dInt (t 0 1), dInt (t 0 2), dInt (t 1 0), dInt (t 1 1), dInt (t 1 2), dInt (t 2 0), dInt (t 2 1), dInt (t 2 2), dInt (t 3 0), dInt (t 3 1), dInt (t 3 2), dInt (t 4 0), dInt (t 4 1), dInt (t 4 2), dInt (t 5 0), dInt (t 5 1), dInt (t 5 2), dInt (t 6 0), dInt (t 6 1), dInt (t 6 2), dInt (t 7 0), dInt (t 7 1), dInt (t 7 2)] true), (2, .vars 58 24 [dInt (upd f 7 2 T 0 0), dInt (upd f 7 2 T 0 1), dInt (upd f 7 2 T 0 2), dInt (upd f 7 2 T 1 0), dInt (upd f 7 2 T 1 1), dInt (upd f 7 2 T 1 2), dInt (upd f 7 2 T 2 0), dInt (upd f 7 2 T 2 1), dInt (upd f 7 2 T 2 2), dInt (upd f 7 2 T 3 0), dInt (upd f 7 2 T 3 1), dInt (upd f 7 2 T 3 2), dInt (upd f 7 2 T 4 0), dInt (upd f 7 2 T 4 1), dInt (upd f 7 2 T 4 2), dInt (upd f 7 2 T 5 0), dInt (upd f 7 2 T 5 1), dInt (upd f 7 2 T 5 2), dInt (upd f 7 2 T 6 0), dInt (upd f 7 2 T 6 1), dInt (upd f 7 2 T 6 2), dInt (upd f 7 2 T 7 0), dInt (upd f 7 2 T 7 1), dInt (upd f 7 2 T 7 2)] true)] (by repeat (first | exact trivial | refine ⟨.same (congrArg dInt (wrap_up (by omega))), ?_⟩ | refine ⟨.same rfl, ?_⟩ | refine ⟨.any _, ?_⟩)) ⟨⟨rfl, rfl, rfl, setS⟩, ⟨rfl, rfl, rfl, .same rfl, rfl, .same rfl, rfl, .same rfl, rfl, .same rfl, rfl, .same rfl, rfl, .same rfl, rfl, .same rfl, rfl, .same rfl, rfl, .same rfl, rfl, .same rfl, rfl, .same rfl, rfl, .same rfl, rfl, .same rfl, rfl, .same rfl, rfl, .same rfl, rfl, .same rfl, rfl, .same rfl, rfl, .same rfl, rfl, .same rfl, rfl, .same rfl, rfl, .same rfl, rfl, .same rfl, rfl, .same rfl, rfl, .same rfl, rfl, trivial⟩, ⟨rfl, rfl, rfl, .same rfl, rfl, .same rfl, rfl, .same rfl, rfl, .same rfl, rfl, .same rfl, rfl, .same rfl, rfl, .same rfl, rfl, .same rfl, rfl, .same rfl, rfl, .same rfl, rfl, .same rfl, rfl, .same rfl, rfl, .same rfl, rfl, .same rfl, rfl, .same rfl, rfl, .same rfl, rfl, .same rfl, rfl, .same rfl, rfl, .same rfl, rfl, .same rfl, rfl, .same rfl, rfl, .same rfl, rfl, .same rfl, rfl, .same rfl, rfl, trivial⟩, trivial⟩ rfl rfl) fun s' h => ⟨m - 1, by omega, k + 1, _, t, _, by omega, p3, h⟩
    · refine BoolCase.no (by simp; rw [wrap_id (by omega) (by omega)]; omega) ?_
      conv => whnf
      repeat (first | (refine Conf.mk (by kernel_rfl) ?_; conv => whnf) | (refine SeqOk.go ?_; conv => whnf))
      subst hQ1
      conv => whnf
      conv => whnf
      repeat (first | (refine Conf.mk (by kernel_rfl) ?_; conv => whnf) | (refine SeqOk.go ?_; conv => whnf))
      clear hk hk2
      have hl3 := hI.len
      refine LoopOk.hide fun Q2 hQ2 => ?_
      refine LoopOk.mk (fun m st => ∃ i, i + m = 3 ∧ st = ⟨[(20, dInt i), (5, .row 0)], 1, [(0, .rows 43 3 (cur.map Sv.enc) true)]⟩) 3 (Into.mono (Into.to [0] [(20, dInt (0 : Nat)), (5, .row 0)] [(0, .rows 43 3 (cur.map Sv.enc) true)] (by repeat (first | exact trivial | refine ⟨.same (congrArg dInt (wrap_up (by omega))), ?_⟩ | refine ⟨.same rfl, ?_⟩ | refine ⟨.any _, ?_⟩)) ⟨⟨rfl, rfl, rfl, rfl⟩, trivial⟩ rfl rfl) fun s' h => ⟨0, by omega, h⟩) ?_
      clear m
      rintro m st ⟨i, hi, rfl⟩
      conv => whnf
      repeat (first | (refine Conf.mk (by kernel_rfl) ?_; conv => whnf) | (refine SeqOk.go ?_; conv => whnf))
      by_cases hi3 : i < 3
      · refine BoolCase.yes (by simp; omega) ?_
        conv => whnf
        repeat (first | (refine Conf.mk (by kernel_rfl) ?_; conv => whnf) | (refine SeqOk.go ?_; conv => whnf))
        refine LoopOk.hide fun Q3 hQ3 => ?_
        refine LoopOk.mk (fun m st => ∃ k, k + m = i ∧ st = ⟨[(21, dInt k), (20, dInt i), (5, .row 0)], 1, [(0, .rows 43 3 (cur.map Sv.enc) true)]⟩) i (Into.mono (Into.to [0] [(21, dInt (0 : Nat)), (20, dInt i), (5, .row 0)] [(0, .rows 43 3 (cur.map Sv.enc) true)] (by repeat (first | exact trivial | refine ⟨.same (congrArg dInt (wrap_up (by omega))), ?_⟩ | refine ⟨.same rfl, ?_⟩ | refine ⟨.any _, ?_⟩)) ⟨⟨rfl, rfl, rfl, rfl⟩, trivial⟩ rfl rfl) fun s' h => ⟨0, by omega, h⟩) ?_
        rintro m' st ⟨k, hk, rfl⟩
        conv => whnf
        repeat (first | (refine Conf.mk (by kernel_rfl) ?_; conv => whnf) | (refine SeqOk.go ?_; conv => whnf))
        by_cases hki : k < i
        · have hx : cur[i]? = some cur[i] := List.getElem?_eq_getElem (by omega)
          have hy : cur[k]? = some cur[k] := List.getElem?_eq_getElem (by omega)
          generalize cur[i] = x at hx
          generalize cur[k] = y at hy
          have hxr := hI.right i x hx
          have hyr := hI.right k y hy
          have heq := hI.same hx hy
          rw [← hasInt_dec, ← hasInt_dec] at heq
          refine BoolCase.yes (by simp; omega) ?_
          conv => whnf
          repeat (first | (refine Conf.mk (by kernel_rfl) ?_; conv => whnf) | (refine SeqOk.go ?_; conv => whnf))
          refine atS rfl hx ?_
          conv => whnf
          repeat (first | (refine Conf.mk (by kernel_rfl) ?_; conv => whnf) | (refine SeqOk.go ?_; conv => whnf))
          refine elS hx ?_
          conv => whnf
          repeat (first | (refine Conf.mk (by kernel_rfl) ?_; conv => whnf) | (refine SeqOk.go ?_; conv => whnf))
          refine atS rfl hy ?_
          conv => whnf
          repeat (first | (refine Conf.mk (by kernel_rfl) ?_; conv => whnf) | (refine SeqOk.go ?_; conv => whnf))
          refine elS hy ?_
          conv => whnf
          repeat (first | (refine Conf.mk (by kernel_rfl) ?_; conv => whnf) | (refine SeqOk.go ?_; conv => whnf))
          refine .data _ _ (sameOrder_ok x.done y.done (by have := hxr.len2; omega) (by have := hyr.len2; omega) heq).kb rfl ?_
          conv => whnf
          repeat (first | (refine Conf.mk (by kernel_rfl) ?_; conv => whnf) | (refine SeqOk.go ?_; conv => whnf))
          exact Into.mono (Into.to [0] [(21, dInt (k + 1 : Nat)), (20, dInt i), (5, .row 0)] [(0, .rows 43 3 (cur.map Sv.enc) true)] (by repeat (first | exact trivial | refine ⟨.same (congrArg dInt (wrap_up (by omega))), ?_⟩ | refine ⟨.same rfl, ?_⟩ | refine ⟨.any _, ?_⟩)) ⟨⟨rfl, rfl, rfl, rfl⟩, trivial⟩ rfl rfl) fun s' h => ⟨m' - 1, by omega, k + 1, by omega, h⟩
        · refine BoolCase.no (by simp; omega) ?_
          conv => whnf
          repeat (first | (refine Conf.mk (by kernel_rfl) ?_; conv => whnf) | (refine SeqOk.go ?_; conv => whnf))
          subst hQ3
          conv => whnf
          exact Into.mono (Into.to [0] [(20, dInt (i + 1 : Nat)), (5, .row 0)] [(0, .rows 43 3 (cur.map Sv.enc) true)] (by repeat (first | exact trivial | refine ⟨.same (congrArg dInt (wrap_up (by omega))), ?_⟩ | refine ⟨.same rfl, ?_⟩ | refine ⟨.any _, ?_⟩)) ⟨⟨rfl, rfl, rfl, rfl⟩, trivial⟩ rfl rfl) fun s' h => ⟨m - 1, by omega, i + 1, by omega, h⟩
      · refine BoolCase.no (by simp; omega) ?_
        conv => whnf
        repeat (first | (refine Conf.mk (by kernel_rfl) ?_; conv => whnf) | (refine SeqOk.go ?_; conv => whnf))
        subst hQ2
        conv => whnf
        exact Ret.to rfl
  · refine BoolCase.yes (by simp; omega) ?_
    conv => whnf
    repeat (first | (refine Conf.mk (by kernel_rfl) ?_; conv => whnf) | (refine SeqOk.go ?_; conv => whnf))
    exact Ret.to rfl
end Go.Proofs.Ytlioojekjnigiab.AM.Sk
