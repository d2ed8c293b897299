/- What is leaned on: part 5. -/
import Derived.Test.YtlioojekjnigiaeQ4
import Derived.OpenShut
import Derived.ProofKit
import Derived.ChangeOld
import Derived.Lib.SmallJoins
/- A player plays. -/
namespace Go.Proofs.Ytlioojekjnigiae.AM
set_option linter.unusedVariables false
set_option linter.unusedSimpArgs false
/-- One is played, or none may be. -/
def PlayRb (y : Id) (c : Int) (played : List Id) (ts : List Turn) (p : Id → Bool) (x : AVal) (H : Heap) (n : Nat) : Prop :=
  (∃ t, ts.find? (fun t => p t.id && mayT played t) = some t ∧ x = dBool true ∧ H = [(0, .vars 90 3 [dInt c, .row 3, .dat (.list (ts.map Turn.enc))] true), (1, .dead), (2, .vars 36 2 [dInt y.r, dInt y.n] true), (3, .rows 36 2 ((played ++ [t.id]).map Id.enc) true)] ∧ n = 4) ∨ (ts.find? (fun t => p t.id && mayT played t) = none ∧ x = dBool false ∧ H = [(0, .vars 90 3 [dInt c, .row 1, .dat (.list (ts.map Turn.enc))] true), (1, .rows 36 2 (played.map Id.enc) true), (2, .vars 36 2 [dInt y.r, dInt y.n] true)] ∧ n = 3)
/-- .. with no box. -/
def PlayR (c : Int) (played : List Id) (ts : List Turn) (p : Id → Bool) (x : AVal) (H : Heap) (n : Nat) : Prop :=
  (∃ t, ts.find? (fun t => p t.id && mayT played t) = some t ∧ x = dBool true ∧ H = [(0, .vars 90 3 [dInt c, .row 2, .dat (.list (ts.map Turn.enc))] true), (1, .dead), (2, .rows 36 2 ((played ++ [t.id]).map Id.enc) true)] ∧ n = 3) ∨ (ts.find? (fun t => p t.id && mayT played t) = none ∧ x = dBool false ∧ H = [(0, .vars 90 3 [dInt c, .row 1, .dat (.list (ts.map Turn.enc))] true), (1, .rows 36 2 (played.map Id.enc) true)] ∧ n = 2)
set_option maxHeartbeats 0 in
theorem play_ok {cl : Nat} (y : Id) {p : Id → Bool} (c : Int) (played : List Id) (ts : List Turn) (hp : played.length ≤ 900) (ht : ts.length ≤ 1000) (hn : ∀ t ∈ ts, t.needs.length ≤ 1000) (hcl : ∀ x : Id, PCall Try.prog cl [x.arg, .dat (.ptr y.enc)] (dBool (p x))) : ACall Try.prog 59 [.ptr 0 0, .fn (.func cl) [] [.ptr 2 0]] [(0, .vars 90 3 [dInt c, .row 1, .dat (.list (ts.map Turn.enc))] true), (1, .rows 36 2 (played.map Id.enc) true), (2, .vars 36 2 [dInt y.r, dInt y.n] true)] 3 (PlayRb y c played ts p) := by
  refine acall_cut tab_all tab_mixed Try.func59 (by kernel_rfl) Try.ntmps59 rfl ?_
  conv => whnf
  conv => whnf
  repeat (first | (refine Conf.mk (by kernel_rfl) ?_; conv => whnf) | (refine SeqOk.go ?_; conv => whnf))
  refine LoopOk.hide fun Q1 hQ1 => ?_
  refine LoopOk.mk (fun m s => ∃ k, k + m = ts.length ∧ (∀ t ∈ ts.take k, (p t.id && mayT played t) = false) ∧ s = ⟨[(12, dInt k), (11, dInt (ts.map Turn.enc).length), (10, .dat (.list (ts.map Turn.enc))), (0, .ptr 0 0), (1, .fn (.func cl) [] [.ptr 2 0])], 3, [(0, .vars 90 3 [dInt c, .row 1, .dat (.list (ts.map Turn.enc))] true), (1, .rows 36 2 (played.map Id.enc) true), (2, .vars 36 2 [dInt y.r, dInt y.n] true)]⟩) ts.length (Into.mono (Into.to [0, 1, 2] [(12, dInt (0 : Nat)), (11, dInt (ts.map Turn.enc).length), (10, .dat (.list (ts.map Turn.enc))), (0, .ptr 0 0), (1, .fn (.func cl) [] [.ptr 2 0])] [(0, .vars 90 3 [dInt c, .row 1, .dat (.list (ts.map Turn.enc))] true), (1, .rows 36 2 (played.map Id.enc) true), (2, .vars 36 2 [dInt y.r, dInt y.n] true)] (by repeat (first | exact trivial | refine ⟨.same (congrArg dInt (wrap_up (by omega))), ?_⟩ | refine ⟨.same rfl, ?_⟩ | refine ⟨.any _, ?_⟩)) ⟨⟨rfl, rfl, rfl, .same rfl, rfl, .same rfl, rfl, .same rfl, rfl, trivial⟩, ⟨rfl, rfl, rfl, rfl⟩, ⟨rfl, rfl, rfl, .same rfl, rfl, .same rfl, rfl, trivial⟩, trivial⟩ rfl rfl) fun s' h => ⟨0, by omega, by simp, h⟩) ?_
  rintro m s ⟨k, hk, hq, rfl⟩
  conv => whnf
  repeat (first | (refine Conf.mk (by kernel_rfl) ?_; conv => whnf) | (refine SeqOk.go ?_; conv => whnf))
  refine ⟨fun h => ?_, fun h => ?_⟩
  · have hk' := lt_of_len h
    conv => whnf
    repeat (first | (refine Conf.mk (by kernel_rfl) ?_; conv => whnf) | (refine SeqOk.go ?_; conv => whnf))
    refine AtIdx.ofMap hk' rfl ?_
    conv => whnf
    repeat (first | (refine Conf.mk (by kernel_rfl) ?_; conv => whnf) | (refine SeqOk.go ?_; conv => whnf))
    refine .look _ _ (hcl ts[k].id) rfl rfl ?_
    conv => whnf
    repeat (first | (refine Conf.mk (by kernel_rfl) ?_; conv => whnf) | (refine SeqOk.go ?_; conv => whnf))
    refine ⟨fun h2 => ?_, fun h2 => ?_⟩
    · conv => whnf
      repeat (first | (refine Conf.mk (by kernel_rfl) ?_; conv => whnf) | (refine SeqOk.go ?_; conv => whnf))
      refine .look _ _ (mayBeNext_ok c played (ts.map Turn.enc) ts[k] (by omega) (hn _ (List.getElem_mem hk'))) rfl rfl ?_
      conv => whnf
      repeat (first | (refine Conf.mk (by kernel_rfl) ?_; conv => whnf) | (refine SeqOk.go ?_; conv => whnf))
      refine ⟨fun h3 => ?_, fun h3 => ?_⟩
      · have hf : ts.find? (fun t => p t.id && mayT played t) = some ts[k] := by
          have : ts = ts.take k ++ ts[k] :: ts.drop (k + 1) := by rw [← List.drop_eq_getElem_cons hk', List.take_append_drop]
          generalize ts[k] = t at *
          rw [this, List.find?_append, List.find?_eq_none.2 fun y hy => by rw [hq y hy]; simp, List.find?_cons, h2, h3]
          rfl
        conv => whnf
        repeat (first | (refine Conf.mk (by kernel_rfl) ?_; conv => whnf) | (refine SeqOk.go ?_; conv => whnf))
        refine ⟨by simp [Id.enc], by simp; omega, ?_⟩
        conv => whnf
        repeat (first | (refine Conf.mk (by kernel_rfl) ?_; conv => whnf) | (refine SeqOk.go ?_; conv => whnf))
        subst hQ1
        conv => whnf
        refine .mk [] [0, 1, 2, 5] (dBool true) [(0, .vars 90 3 [dInt c, .row 3, .dat (.list (ts.map Turn.enc))] true), (1, .dead), (2, .vars 36 2 [dInt y.r, dInt y.n] true), (3, .rows 36 2 ((played ++ [ts[k].id]).map Id.enc) true)] rfl (.data rfl) ⟨⟨rfl, rfl, rfl, .same rfl, rfl, .same rfl, rfl, .same rfl, rfl, trivial⟩, trivial, ⟨rfl, rfl, rfl, .same rfl, rfl, .same rfl, rfl, trivial⟩, ⟨rfl, rfl, rfl, ?_⟩, trivial⟩ rfl rfl (.inl ⟨ts[k], hf, rfl, rfl, rfl⟩)
        rw [List.map_append]
        rfl
      · have hno : (p ts[k].id && mayT played ts[k]) = false := by rw [h3, Bool.and_false]
        have hq2 : ∀ t ∈ ts.take (k + 1), (p t.id && mayT played t) = false := fun t ht => by
          rw [take_snoc hk'] at ht
          rcases List.mem_append.1 ht with ht | ht
          · exact hq t ht
          · have : t = ts[k] := by simpa using ht
            rw [this]; exact hno
        conv => whnf
        repeat (first | (refine Conf.mk (by kernel_rfl) ?_; conv => whnf) | (refine SeqOk.go ?_; conv => whnf))
        exact Into.mono (Into.to [0, 1, 2] [(12, dInt (k + 1 : Nat)), (11, dInt (ts.map Turn.enc).length), (10, .dat (.list (ts.map Turn.enc))), (0, .ptr 0 0), (1, .fn (.func cl) [] [.ptr 2 0])] [(0, .vars 90 3 [dInt c, .row 1, .dat (.list (ts.map Turn.enc))] true), (1, .rows 36 2 (played.map Id.enc) true), (2, .vars 36 2 [dInt y.r, dInt y.n] true)] (by repeat (first | exact trivial | refine ⟨.same (congrArg dInt (wrap_up (by omega))), ?_⟩ | refine ⟨.same rfl, ?_⟩ | refine ⟨.any _, ?_⟩)) ⟨⟨rfl, rfl, rfl, .same rfl, rfl, .same rfl, rfl, .same rfl, rfl, trivial⟩, ⟨rfl, rfl, rfl, rfl⟩, ⟨rfl, rfl, rfl, .same rfl, rfl, .same rfl, rfl, trivial⟩, trivial⟩ rfl rfl) fun s' h => ⟨m - 1, by omega, k + 1, by omega, hq2, h⟩
    · have hno : (p ts[k].id && mayT played ts[k]) = false := by rw [h2, Bool.false_and]
      have hq2 : ∀ t ∈ ts.take (k + 1), (p t.id && mayT played t) = false := fun t ht => by
        rw [take_snoc hk'] at ht
        rcases List.mem_append.1 ht with ht | ht
        · exact hq t ht
        · have : t = ts[k] := by simpa using ht
          rw [this]; exact hno
      conv => whnf
      repeat (first | (refine Conf.mk (by kernel_rfl) ?_; conv => whnf) | (refine SeqOk.go ?_; conv => whnf))
      exact Into.mono (Into.to [0, 1, 2] [(12, dInt (k + 1 : Nat)), (11, dInt (ts.map Turn.enc).length), (10, .dat (.list (ts.map Turn.enc))), (0, .ptr 0 0), (1, .fn (.func cl) [] [.ptr 2 0])] [(0, .vars 90 3 [dInt c, .row 1, .dat (.list (ts.map Turn.enc))] true), (1, .rows 36 2 (played.map Id.enc) true), (2, .vars 36 2 [dInt y.r, dInt y.n] true)] (by repeat (first | exact trivial | refine ⟨.same (congrArg dInt (wrap_up (by omega))), ?_⟩ | refine ⟨.same rfl, ?_⟩ | refine ⟨.any _, ?_⟩)) ⟨⟨rfl, rfl, rfl, .same rfl, rfl, .same rfl, rfl, .same rfl, rfl, trivial⟩, ⟨rfl, rfl, rfl, rfl⟩, ⟨rfl, rfl, rfl, .same rfl, rfl, .same rfl, rfl, trivial⟩, trivial⟩ rfl rfl) fun s' h => ⟨m - 1, by omega, k + 1, by omega, hq2, h⟩
  · have hk' := ge_of_len h
    have hf : ts.find? (fun t => p t.id && mayT played t) = none := by
      rw [List.find?_eq_none]
      intro t ht
      rw [List.take_of_length_le hk'] at hq
      rw [hq t ht]; simp
    conv => whnf
    repeat (first | (refine Conf.mk (by kernel_rfl) ?_; conv => whnf) | (refine SeqOk.go ?_; conv => whnf))
    subst hQ1
    conv => whnf
    exact .mk [] [0, 1, 2] (dBool false) [(0, .vars 90 3 [dInt c, .row 1, .dat (.list (ts.map Turn.enc))] true), (1, .rows 36 2 (played.map Id.enc) true), (2, .vars 36 2 [dInt y.r, dInt y.n] true)] rfl (.data rfl) ⟨⟨rfl, rfl, rfl, .same rfl, rfl, .same rfl, rfl, .same rfl, rfl, trivial⟩, ⟨rfl, rfl, rfl, rfl⟩, ⟨rfl, rfl, rfl, .same rfl, rfl, .same rfl, rfl, trivial⟩, trivial⟩ rfl rfl (.inr ⟨hf, rfl, rfl, rfl⟩)
set_option maxHeartbeats 0 in
theorem playAny_ok {cl : Nat} {p : Id → Bool} (c : Int) (played : List Id) (ts : List Turn) (hp : played.length ≤ 900) (ht : ts.length ≤ 1000) (hn : ∀ t ∈ ts, t.needs.length ≤ 1000) (hcl : ∀ x : Id, PCall Try.prog cl [x.arg] (dBool (p x))) : ACall Try.prog 59 [.ptr 0 0, .fn (.func cl) [] []] [(0, .vars 90 3 [dInt c, .row 1, .dat (.list (ts.map Turn.enc))] true), (1, .rows 36 2 (played.map Id.enc) true)] 2 (PlayR c played ts p) := by
  refine acall_cut tab_all tab_mixed Try.func59 (by kernel_rfl) Try.ntmps59 rfl ?_
  conv => whnf
  conv => whnf
  repeat (first | (refine Conf.mk (by kernel_rfl) ?_; conv => whnf) | (refine SeqOk.go ?_; conv => whnf))
  refine LoopOk.hide fun Q1 hQ1 => ?_
  refine LoopOk.mk (fun m s => ∃ k, k + m = ts.length ∧ (∀ t ∈ ts.take k, (p t.id && mayT played t) = false) ∧ s = ⟨[(12, dInt k), (11, dInt (ts.map Turn.enc).length), (10, .dat (.list (ts.map Turn.enc))), (0, .ptr 0 0), (1, .fn (.func cl) [] [])], 2, [(0, .vars 90 3 [dInt c, .row 1, .dat (.list (ts.map Turn.enc))] true), (1, .rows 36 2 (played.map Id.enc) true)]⟩) ts.length (Into.mono (Into.to [0, 1] [(12, dInt (0 : Nat)), (11, dInt (ts.map Turn.enc).length), (10, .dat (.list (ts.map Turn.enc))), (0, .ptr 0 0), (1, .fn (.func cl) [] [])] [(0, .vars 90 3 [dInt c, .row 1, .dat (.list (ts.map Turn.enc))] true), (1, .rows 36 2 (played.map Id.enc) true)] (by repeat (first | exact trivial | refine ⟨.same (congrArg dInt (wrap_up (by omega))), ?_⟩ | refine ⟨.same rfl, ?_⟩ | refine ⟨.any _, ?_⟩)) ⟨⟨rfl, rfl, rfl, .same rfl, rfl, .same rfl, rfl, .same rfl, rfl, trivial⟩, ⟨rfl, rfl, rfl, rfl⟩, trivial⟩ rfl rfl) fun s' h => ⟨0, by omega, by simp, h⟩) ?_
  rintro m s ⟨k, hk, hq, rfl⟩
  conv => whnf
  repeat (first | (refine Conf.mk (by kernel_rfl) ?_; conv => whnf) | (refine SeqOk.go ?_; conv => whnf))
  refine ⟨fun h => ?_, fun h => ?_⟩
  · have hk' := lt_of_len h
    conv => whnf
    repeat (first | (refine Conf.mk (by kernel_rfl) ?_; conv => whnf) | (refine SeqOk.go ?_; conv => whnf))
    refine AtIdx.ofMap hk' rfl ?_
    conv => whnf
    repeat (first | (refine Conf.mk (by kernel_rfl) ?_; conv => whnf) | (refine SeqOk.go ?_; conv => whnf))
    refine .look _ _ (hcl ts[k].id) rfl rfl ?_
    conv => whnf
    repeat (first | (refine Conf.mk (by kernel_rfl) ?_; conv => whnf) | (refine SeqOk.go ?_; conv => whnf))
    refine ⟨fun h2 => ?_, fun h2 => ?_⟩
    · conv => whnf
      repeat (first | (refine Conf.mk (by kernel_rfl) ?_; conv => whnf) | (refine SeqOk.go ?_; conv => whnf))
      refine .look _ _ (mayBeNext_ok c played (ts.map Turn.enc) ts[k] (by omega) (hn _ (List.getElem_mem hk'))) rfl rfl ?_
      conv => whnf
      repeat (first | (refine Conf.mk (by kernel_rfl) ?_; conv => whnf) | (refine SeqOk.go ?_; conv => whnf))
      refine ⟨fun h3 => ?_, fun h3 => ?_⟩
      · have hf : ts.find? (fun t => p t.id && mayT played t) = some ts[k] := by
          have : ts = ts.take k ++ ts[k] :: ts.drop (k + 1) := by rw [← List.drop_eq_getElem_cons hk', List.take_append_drop]
          generalize ts[k] = t at *
          rw [this, List.find?_append, List.find?_eq_none.2 fun y hy => by rw [hq y hy]; simp, List.find?_cons, h2, h3]
          rfl
        conv => whnf
        repeat (first | (refine Conf.mk (by kernel_rfl) ?_; conv => whnf) | (refine SeqOk.go ?_; conv => whnf))
        refine ⟨by simp [Id.enc], by simp; omega, ?_⟩
        conv => whnf
        repeat (first | (refine Conf.mk (by kernel_rfl) ?_; conv => whnf) | (refine SeqOk.go ?_; conv => whnf))
        subst hQ1
        conv => whnf
        refine .mk [] [0, 1, 4] (dBool true) [(0, .vars 90 3 [dInt c, .row 2, .dat (.list (ts.map Turn.enc))] true), (1, .dead), (2, .rows 36 2 ((played ++ [ts[k].id]).map Id.enc) true)] rfl (.data rfl) ⟨⟨rfl, rfl, rfl, .same rfl, rfl, .same rfl, rfl, .same rfl, rfl, trivial⟩, trivial, ⟨rfl, rfl, rfl, ?_⟩, trivial⟩ rfl rfl (.inl ⟨ts[k], hf, rfl, rfl, rfl⟩)
        rw [List.map_append]
        rfl
      · have hno : (p ts[k].id && mayT played ts[k]) = false := by rw [h3, Bool.and_false]
        have hq2 : ∀ t ∈ ts.take (k + 1), (p t.id && mayT played t) = false := fun t ht => by
          rw [take_snoc hk'] at ht
          rcases List.mem_append.1 ht with ht | ht
          · exact hq t ht
          · have : t = ts[k] := by simpa using ht
            rw [this]; exact hno
        conv => whnf
        repeat (first | (refine Conf.mk (by kernel_rfl) ?_; conv => whnf) | (refine SeqOk.go ?_; conv => whnf))
        exact Into.mono (Into.to [0, 1] [(12, dInt (k + 1 : Nat)), (11, dInt (ts.map Turn.enc).length), (10, .dat (.list (ts.map Turn.enc))), (0, .ptr 0 0), (1, .fn (.func cl) [] [])] [(0, .vars 90 3 [dInt c, .row 1, .dat (.list (ts.map Turn.enc))] true), (1, .rows 36 2 (played.map Id.enc) true)] (by repeat (first | exact trivial | refine ⟨.same (congrArg dInt (wrap_up (by omega))), ?_⟩ | refine ⟨.same rfl, ?_⟩ | refine ⟨.any _, ?_⟩)) ⟨⟨rfl, rfl, rfl, .same rfl, rfl, .same rfl, rfl, .same rfl, rfl, trivial⟩, ⟨rfl, rfl, rfl, rfl⟩, trivial⟩ rfl rfl) fun s' h => ⟨m - 1, by omega, k + 1, by omega, hq2, h⟩
    · have hno : (p ts[k].id && mayT played ts[k]) = false := by rw [h2, Bool.false_and]
      have hq2 : ∀ t ∈ ts.take (k + 1), (p t.id && mayT played t) = false := fun t ht => by
        rw [take_snoc hk'] at ht
        rcases List.mem_append.1 ht with ht | ht
        · exact hq t ht
        · have : t = ts[k] := by simpa using ht
          rw [this]; exact hno
      conv => whnf
      repeat (first | (refine Conf.mk (by kernel_rfl) ?_; conv => whnf) | (refine SeqOk.go ?_; conv => whnf))
      exact Into.mono (Into.to [0, 1] [(12, dInt (k + 1 : Nat)), (11, dInt (ts.map Turn.enc).length), (10, .dat (.list (ts.map Turn.enc))), (0, .ptr 0 0), (1, .fn (.func cl) [] [])] [(0, .vars 90 3 [dInt c, .row 1, .dat (.list (ts.map Turn.enc))] true), (1, .rows 36 2 (played.map Id.enc) true)] (by repeat (first | exact trivial | refine ⟨.same (congrArg dInt (wrap_up (by omega))), ?_⟩ | refine ⟨.same rfl, ?_⟩ | refine ⟨.any _, ?_⟩)) ⟨⟨rfl, rfl, rfl, .same rfl, rfl, .same rfl, rfl, .same rfl, rfl, trivial⟩, ⟨rfl, rfl, rfl, rfl⟩, trivial⟩ rfl rfl) fun s' h => ⟨m - 1, by omega, k + 1, by omega, hq2, h⟩
  · have hk' := ge_of_len h
    have hf : ts.find? (fun t => p t.id && mayT played t) = none := by
      rw [List.find?_eq_none]
      intro t ht
      rw [List.take_of_length_le hk'] at hq
      rw [hq t ht]; simp
    conv => whnf
    repeat (first | (refine Conf.mk (by kernel_rfl) ?_; conv => whnf) | (refine SeqOk.go ?_; conv => whnf))
    subst hQ1
    conv => whnf
    exact .mk [] [0, 1] (dBool false) [(0, .vars 90 3 [dInt c, .row 1, .dat (.list (ts.map Turn.enc))] true), (1, .rows 36 2 (played.map Id.enc) true)] rfl (.data rfl) ⟨⟨rfl, rfl, rfl, .same rfl, rfl, .same rfl, rfl, .same rfl, rfl, trivial⟩, ⟨rfl, rfl, rfl, rfl⟩, trivial⟩ rfl rfl (.inr ⟨hf, rfl, rfl, rfl⟩)
theorem more1_ok (x y : Id) : PCall Try.prog 60 [y.arg, .dat (.ptr x.enc)] (dBool (isId2 y x)) := by
  refine pcall_intro tab_all tab_mixed Try.func60 (by kernel_rfl) Try.ntmps60 rfl ?_
  conv => whnf
  exact Ret.bool rfl
theorem more2_ok (y : Id) : PCall Try.prog 61 [y.arg] (dBool true) := by
  refine pcall_intro tab_all tab_mixed Try.func61 (by kernel_rfl) Try.ntmps61 rfl ?_
  conv => whnf
  exact Ret.bool rfl
end Go.Proofs.Ytlioojekjnigiae.AM
/- Orders: First and More, as the program reckons them. -/
namespace Go.Proofs.Ytlioojekjnigiae.AM
set_option linter.unusedVariables false
set_option linter.unusedSimpArgs false

theorem insT_cons (t : Turn) (u : List Turn) (x : Turn) : insT (t :: u) x = if t.id.less x.id = true then t :: insT u x else x :: t :: u := by
  unfold insT
  rw [placeOf_cons]
  split
  · rfl
  · rfl
theorem insT_sorted (x : Turn) : ∀ {ts : List Turn}, ts.Pairwise (fun a b => a.id.less b.id = true) → (∀ t ∈ ts, t.id ≠ x.id) → (insT ts x).Pairwise (fun a b => a.id.less b.id = true)
  | [], _, _ => by simp [insT, placeOf', putAt]
  | t :: u, h, hn => by
    rw [List.pairwise_cons] at h
    rw [insT_cons]
    split
    · rename_i hl
      rw [List.pairwise_cons]
      refine ⟨fun y hy => ?_, insT_sorted x h.2 fun t ht => hn t (by simp [ht])⟩
      rcases mem_putAt.1 hy with rfl | hy
      · exact hl
      · exact h.1 y hy
    · rename_i hl
      have hxt : x.id.less t.id = true := by
        cases hh : x.id.less t.id
        · exact absurd (less_total (by simpa using hl) hh) (hn t (by simp))
        · rfl
      rw [List.pairwise_cons]
      refine ⟨fun y hy => ?_, List.pairwise_cons.2 h⟩
      rcases List.mem_cons.1 hy with rfl | hy
      · exact hxt
      · exact less_trans hxt (h.1 y hy)
theorem turnsTo_mem {l : List Entry'} {c : Int} : ∀ {k : Nat}, k ≤ l.length → ∀ t, t ∈ turnsTo l c k ↔ ∃ e ∈ l.take k, bothOf e.colors c = true ∧ t = ⟨e.id, needsL l c e.id⟩
  | 0, _, t => by simp [turnsTo]
  | k + 1, h, t => by
    rw [turnsTo_snoc h, take_snoc h]
    have ih := turnsTo_mem (l := l) (c := c) (k := k) (by omega) t
    unfold turnStep
    split
    · rename_i hb
      unfold insT
      rw [mem_putAt, ih]
      constructor
      · rintro (rfl | ⟨e, he, h1, h2⟩)
        · exact ⟨l[k], List.mem_append.2 (.inr (List.mem_singleton.2 rfl)), hb, rfl⟩
        · exact ⟨e, List.mem_append.2 (.inl he), h1, h2⟩
      · rintro ⟨e, he, h1, h2⟩
        rcases List.mem_append.1 he with he | he
        · exact .inr ⟨e, he, h1, h2⟩
        · have : e = l[k] := by simpa using he
          subst this
          exact .inl h2
    · rename_i hb
      rw [ih]
      constructor
      · rintro ⟨e, he, h1, h2⟩
        exact ⟨e, List.mem_append.2 (.inl he), h1, h2⟩
      · rintro ⟨e, he, h1, h2⟩
        rcases List.mem_append.1 he with he | he
        · exact ⟨e, he, h1, h2⟩
        · have : e = l[k] := by simpa using he
          subst this
          exact absurd h1 hb
theorem turnsTo_sorted {l : List Entry'} (hr : Right l) {c : Int} : ∀ {k : Nat}, k ≤ l.length → (turnsTo l c k).Pairwise (fun a b => a.id.less b.id = true)
  | 0, _ => by simp [turnsTo]
  | k + 1, h => by
    rw [turnsTo_snoc h]
    have ih := turnsTo_sorted hr (c := c) (k := k) (by omega)
    unfold turnStep
    split
    · refine insT_sorted _ ih fun t ht e => ?_
      obtain ⟨e', he', _, rfl⟩ := (turnsTo_mem (by omega) t).1 ht
      exact (hr.get h).new e' he' e
    · exact ih
theorem turns_ids {l : List Entry'} (hr : Right l) {c : Int} (hc : 1 ≤ c ∧ c ≤ 7) : (turnsOf l c).map (·.id) = colIds l c := by
  refine sorted_ext ?_ (allIds_sorted.filter _) fun x => ?_
  · rw [List.pairwise_map]
    exact turnsTo_sorted hr (Nat.le_refl _)
  · rw [mem_colIds hr, colored_iff, List.mem_map]
    constructor
    · rintro ⟨t, ht, rfl⟩
      obtain ⟨e, he, h1, rfl⟩ := (turnsTo_mem (Nat.le_refl _) t).1 ht
      rw [List.take_of_length_le (Nat.le_refl _)] at he
      exact ⟨e, he, rfl, by rw [← meets_bothOf (hr.colors he) hc]; exact h1⟩
    · rintro ⟨e, he, rfl, h1⟩
      exact ⟨⟨e.id, needsL l c e.id⟩, (turnsTo_mem (Nat.le_refl _) _).2 ⟨e, by rw [List.take_of_length_le (Nat.le_refl _)]; exact he, by rw [meets_bothOf (hr.colors he) hc]; exact h1, rfl⟩, rfl⟩
theorem turns_may {l : List Entry'} (hr : Right l) {c : Int} (hc : 1 ≤ c ∧ c ≤ 7) (played : List Id) {t : Turn} (ht : t ∈ turnsOf l c) : mayT played t = mayP l c played t.id := by
  obtain ⟨e, he, h1, rfl⟩ := (turnsTo_mem (Nat.le_refl _) t).1 ht
  unfold mayT mayP
  simp only
  rw [needsL_all hr hc]
theorem find_map_of {α β : Type} {f : α → β} {q : α → Bool} {r : β → Bool} : ∀ {l : List α}, (∀ a ∈ l, q a = r (f a)) → (l.find? q).map f = (l.map f).find? r
  | [], _ => rfl
  | a :: t, h => by
    rw [List.find?_cons, List.map_cons, List.find?_cons, ← h a (by simp)]
    cases q a with
    | true => rfl
    | false => exact find_map_of fun x hx => h x (by simp [hx])
theorem play_find {l : List Entry'} (hr : Right l) {c : Int} (hc : 1 ≤ c ∧ c ≤ 7) (played : List Id) (p : Id → Bool) : ((turnsOf l c).find? fun t => p t.id && mayT played t).map (·.id) = (colIds l c).find? fun x => p x && mayP l c played x := by
  rw [← turns_ids hr hc]
  exact find_map_of fun t ht => by rw [turns_may hr hc played ht]
theorem play_one {l : List Entry'} (hr : Right l) {c : Int} (hc : 1 ≤ c ∧ c ≤ 7) (played : List Id) (x : Id) : ((turnsOf l c).find? fun t => isId2 t.id x && mayT played t).map (·.id) = if (colored l c x && mayP l c played x) = true then some x else none := by
  rw [play_find hr hc played (fun y => isId2 y x)]
  by_cases h : (colored l c x && mayP l c played x) = true
  · rw [if_pos h]
    rw [Bool.and_eq_true] at h
    cases hf : (colIds l c).find? fun y => isId2 y x && mayP l c played y with
    | none =>
      rw [List.find?_eq_none] at hf
      have := hf x ((mem_colIds hr).2 h.1)
      rw [isId2_iff.2 rfl, h.2] at this
      simp at this
    | some y =>
      have := List.find?_some hf
      simp only [Bool.and_eq_true] at this
      rw [isId2_iff.1 this.1]
  · rw [if_neg h, List.find?_eq_none]
    intro y hy hh
    rw [Bool.and_eq_true] at hh
    rw [isId2_iff.1 hh.1] at hy hh
    exact h (by rw [(mem_colIds hr).1 hy, hh.2]; rfl)
theorem play_next {l : List Entry'} (hr : Right l) {c : Int} (hc : 1 ≤ c ∧ c ≤ 7) (played : List Id) : ((turnsOf l c).find? fun t => true && mayT played t).map (·.id) = nextOf l c played := by
  rw [play_find hr hc played (fun _ => true)]
  rfl
def moreAns (l : List Entry') (c : Int) (ids : List Id) : List Id := if begunErr l c ids = 0 then moreOf l c ids else []
set_option maxHeartbeats 0 in
theorem more_ok (l : List Entry') (hl : LogOk l) (c : Int) (ids : List Id) (hi : ids.length ≤ 140737488355326) : PCall Try.prog 37 [.dat (.list (l.map Entry'.enc)), dInt c, .dat (.list (ids.map Id.enc))] (.tup [.dat (.list ((moreAns l c ids).map Id.enc)), dInt (begunErr l c ids)]) := by
  refine pcall_cut tab_all tab_mixed Try.func37 (by kernel_rfl) Try.ntmps37 rfl ?_
  conv => whnf
  conv => whnf
  repeat (first | (refine Conf.mk (by kernel_rfl) ?_; conv => whnf) | (refine SeqOk.go ?_; conv => whnf))
  refine .data _ _ (orderCheck_ok l hl ids (by omega)) rfl ?_
  conv => whnf
  repeat (first | (refine Conf.mk (by kernel_rfl) ?_; conv => whnf) | (refine SeqOk.go ?_; conv => whnf))
  by_cases h0 : idsErr l ids = 0
  · obtain ⟨hr, hin, hnd⟩ := idsErr_ok h0
    have hlen := hr.len
    have hil := ids_len hin hnd
    refine BoolCase.no (by rw [h0]; rfl) ?_
    conv => whnf
    repeat (first | (refine Conf.mk (by kernel_rfl) ?_; conv => whnf) | (refine SeqOk.go ?_; conv => whnf))
    refine ⟨fun h2 => ?_, fun h2 => ?_⟩
    · have hc : c < 1 ∨ 7 < c := .inl (by simpa using h2)
      have he : begunErr l c ids = 3 := by unfold begunErr; rw [if_pos h0, if_pos hc]
      have ha : moreAns l c ids = [] := by unfold moreAns; rw [he]; rfl
      conv => whnf
      repeat (first | (refine Conf.mk (by kernel_rfl) ?_; conv => whnf) | (refine SeqOk.go ?_; conv => whnf))
      exact Ret.to (by rw [he, ha]; rfl)
    · have h2 : ¬ c < 1 := by simpa using h2
      conv => whnf
      repeat (first | (refine Conf.mk (by kernel_rfl) ?_; conv => whnf) | (refine SeqOk.go ?_; conv => whnf))
      refine ⟨fun h3 => ?_, fun h3 => ?_⟩
      · have hc : c < 1 ∨ 7 < c := .inr (by simpa using h3)
        have he : begunErr l c ids = 3 := by unfold begunErr; rw [if_pos h0, if_pos hc]
        have ha : moreAns l c ids = [] := by unfold moreAns; rw [he]; rfl
        conv => whnf
        repeat (first | (refine Conf.mk (by kernel_rfl) ?_; conv => whnf) | (refine SeqOk.go ?_; conv => whnf))
        exact Ret.to (by rw [he, ha]; rfl)
      · have h3 : ¬ 7 < c := by simpa using h3
        have hc : 1 ≤ c ∧ c ≤ 7 := by omega
        have hbp := begun_play hr (c := c) hnd
        have he : begunErr l c ids = if playOk l c [] ids = true then 0 else 4 := by unfold begunErr; rw [if_pos h0, if_neg (by omega), hbp]
        have htl : (turnsOf l c).length ≤ 40 := Nat.le_trans (turnsTo_len (Nat.le_refl _)) hr.len
        have htn : ∀ t ∈ turnsOf l c, t.needs.length ≤ 1000 := fun t ht => by
          obtain ⟨e, _, _, rfl⟩ := (turnsTo_mem (Nat.le_refl _) t).1 ht
          have := needsL_len l c e.id
          simp only
          omega
        conv => whnf
        repeat (first | (refine Conf.mk (by kernel_rfl) ?_; conv => whnf) | (refine SeqOk.go ?_; conv => whnf))
        refine .eff [] _ _ _ _ 0 (newPlayer_ok hr c) rfl rfl rfl rfl rfl ?_
        conv => whnf
        refine SeqOk.cut (fun s => playOk l c [] ids = true ∧ s = ⟨[(9, .ptr 0 0)], 2, [(0, .vars 90 3 [dInt c, .row 1, .dat (.list ((turnsOf l c).map Turn.enc))] true), (1, .rows 36 2 (ids.map Id.enc) true)]⟩) ?_ ?_
        · conv => whnf
          repeat (first | (refine Conf.mk (by kernel_rfl) ?_; conv => whnf) | (refine SeqOk.go ?_; conv => whnf))
          refine LoopOk.mk (fun m s => ∃ i, i + m = ids.length ∧ playOk l c [] (ids.take i) = true ∧ s = ⟨[(29, dInt i), (28, dInt (ids.map Id.enc).length), (27, .dat (.list (ids.map Id.enc))), (9, .ptr 0 0)], 2, [(0, .vars 90 3 [dInt c, .row 1, .dat (.list ((turnsOf l c).map Turn.enc))] true), (1, .rows 36 2 ((ids.take i).map Id.enc) true)]⟩) ids.length ((Into.rowAt 0 90 3 [dInt c, .nil, .dat (.list ((turnsOf l c).map Turn.enc))] 1 36 2 rfl (Nat.lt_succ_self 0) rfl).trans fun s' hs' => by
            subst hs'
            exact Into.mono (Into.to [0, 1] [(29, dInt (0 : Nat)), (28, dInt (ids.map Id.enc).length), (27, .dat (.list (ids.map Id.enc))), (9, .ptr 0 0)] [(0, .vars 90 3 [dInt c, .row 1, .dat (.list ((turnsOf l c).map Turn.enc))] true), (1, .rows 36 2 ((ids.take 0).map Id.enc) true)] (by repeat (first | exact trivial | refine ⟨.same (congrArg dInt (wrap_up (by omega))), ?_⟩ | refine ⟨.same rfl, ?_⟩ | refine ⟨.any _, ?_⟩)) ⟨⟨rfl, rfl, rfl, .same rfl, rfl, .same rfl, rfl, .same rfl, rfl, trivial⟩, ⟨rfl, rfl, rfl, rfl⟩, trivial⟩ rfl rfl) fun s' h => ⟨0, by omega, rfl, h⟩) ?_
          rintro m s ⟨i, him, hp, rfl⟩
          conv => whnf
          repeat (first | (refine Conf.mk (by kernel_rfl) ?_; conv => whnf) | (refine SeqOk.go ?_; conv => whnf))
          refine ⟨fun h => ?_, fun h => ?_⟩
          · have hi' := lt_of_len h
            have hsp : playOk l c [] ids = (playOk l c [] (ids.take i) && ((colored l c ids[i] && mayP l c (ids.take i) ids[i]) && playOk l c (ids.take i ++ [ids[i]]) (ids.drop (i + 1)))) := by
              conv => lhs; rw [← List.take_append_drop i ids, List.drop_eq_getElem_cons hi', playOk_append]
              rfl
            have hpo := play_one hr hc (ids.take i) ids[i]
            conv => whnf
            repeat (first | (refine Conf.mk (by kernel_rfl) ?_; conv => whnf) | (refine SeqOk.go ?_; conv => whnf))
            refine AtIdx.ofMap hi' rfl ?_
            conv => whnf
            repeat (first | (refine Conf.mk (by kernel_rfl) ?_; conv => whnf) | (refine SeqOk.go ?_; conv => whnf))
            refine .some [0, 1, 2] _ _ _ rfl (play_ok ids[i] c (ids.take i) (turnsOf l c) (by rw [List.length_take]; omega) (by omega) htn fun y => more1_ok ids[i] y) rfl rfl rfl rfl rfl ?_
            rintro x Hc' m' (⟨t, hf, rfl, rfl, hm'⟩ | ⟨hf, rfl, rfl, hm'⟩)
            · obtain rfl : m' = 1 := by simp at hm'; omega
              rw [hf] at hpo
              have hcond : (colored l c ids[i] && mayP l c (ids.take i) ids[i]) = true ∧ t.id = ids[i] := by
                split at hpo
                · rename_i hh; exact ⟨hh, by simpa using hpo⟩
                · simp at hpo
              rw [hcond.2]
              conv => whnf
              repeat (first | (refine Conf.mk (by kernel_rfl) ?_; conv => whnf) | (refine SeqOk.go ?_; conv => whnf))
              refine BoolCase.no rfl ?_
              conv => whnf
              repeat (first | (refine Conf.mk (by kernel_rfl) ?_; conv => whnf) | (refine SeqOk.go ?_; conv => whnf))
              refine Into.mono (Into.to [0, 3] [(29, dInt (i + 1 : Nat)), (28, dInt (ids.map Id.enc).length), (27, .dat (.list (ids.map Id.enc))), (9, .ptr 0 0)] [(0, .vars 90 3 [dInt c, .row 1, .dat (.list ((turnsOf l c).map Turn.enc))] true), (1, .rows 36 2 ((ids.take (i + 1)).map Id.enc) true)] (by repeat (first | exact trivial | refine ⟨.same (congrArg dInt (wrap_up (by omega))), ?_⟩ | refine ⟨.same rfl, ?_⟩ | refine ⟨.any _, ?_⟩)) ⟨⟨rfl, rfl, rfl, .same rfl, rfl, .same rfl, rfl, .same rfl, rfl, trivial⟩, ⟨rfl, rfl, rfl, ?_⟩, trivial⟩ rfl rfl) fun s' h => ⟨m - 1, by omega, i + 1, by omega, ?_, h⟩
              · rw [take_snoc hi']
              · rw [take_snoc hi', playOk_append, hp]
                simp only [List.nil_append, playOk, hcond.1, Bool.and_self]
            · obtain rfl : m' = 0 := by simp at hm'; omega
              rw [hf] at hpo
              have hcond : (colored l c ids[i] && mayP l c (ids.take i) ids[i]) = false := by
                split at hpo
                · simp at hpo
                · rename_i hh; simpa using hh
              have hno : playOk l c [] ids = false := by rw [hsp, hcond, Bool.false_and, Bool.and_false]
              have he4 : begunErr l c ids = 4 := by rw [he, hno]; rfl
              have ha4 : moreAns l c ids = [] := by unfold moreAns; rw [he4]; rfl
              conv => whnf
              repeat (first | (refine Conf.mk (by kernel_rfl) ?_; conv => whnf) | (refine SeqOk.go ?_; conv => whnf))
              refine BoolCase.yes rfl ?_
              conv => whnf
              repeat (first | (refine Conf.mk (by kernel_rfl) ?_; conv => whnf) | (refine SeqOk.go ?_; conv => whnf))
              exact Ret.to (by rw [he4, ha4]; rfl)
          · have hi' := ge_of_len h
            rw [List.take_of_length_le hi'] at hp
            conv => whnf
            repeat (first | (refine Conf.mk (by kernel_rfl) ?_; conv => whnf) | (refine SeqOk.go ?_; conv => whnf))
            refine Into.mono (Into.to [0, 1] [(9, .ptr 0 0)] [(0, .vars 90 3 [dInt c, .row 1, .dat (.list ((turnsOf l c).map Turn.enc))] true), (1, .rows 36 2 (ids.map Id.enc) true)] (by repeat (first | exact trivial | refine ⟨.same (congrArg dInt (wrap_up (by omega))), ?_⟩ | refine ⟨.same rfl, ?_⟩ | refine ⟨.any _, ?_⟩)) ⟨⟨rfl, rfl, rfl, .same rfl, rfl, .same rfl, rfl, .same rfl, rfl, trivial⟩, ⟨rfl, rfl, rfl, ?_⟩, trivial⟩ rfl rfl) fun s' h => ⟨hp, h⟩
            rw [List.take_of_length_le hi']
        · rintro s ⟨hp, rfl⟩
          have he0 : begunErr l c ids = 0 := by rw [he, hp]; rfl
          have ha0 : moreAns l c ids = moreOf l c ids := by unfold moreAns; rw [if_pos he0]
          conv => whnf
          repeat (first | (refine Conf.mk (by kernel_rfl) ?_; conv => whnf) | (refine SeqOk.go ?_; conv => whnf))
          refine LoopOk.hide fun Q1 hQ1 => ?_
          refine LoopOk.mk (fun m s => ∃ out, moreOf l c ids = moreOf l c out ∧ (∀ x ∈ out, ∃ e ∈ l, e.id = x) ∧ out.Nodup ∧ m = left l c out ∧ s = ⟨[(9, .ptr 0 0)], 2, [(0, .vars 90 3 [dInt c, .row 1, .dat (.list ((turnsOf l c).map Turn.enc))] true), (1, .rows 36 2 (out.map Id.enc) true)]⟩) (left l c ids) (Into.mono (Into.to [0, 1] [(9, .ptr 0 0)] [(0, .vars 90 3 [dInt c, .row 1, .dat (.list ((turnsOf l c).map Turn.enc))] true), (1, .rows 36 2 (ids.map Id.enc) true)] (by repeat (first | exact trivial | refine ⟨.same (congrArg dInt (wrap_up (by omega))), ?_⟩ | refine ⟨.same rfl, ?_⟩ | refine ⟨.any _, ?_⟩)) ⟨⟨rfl, rfl, rfl, .same rfl, rfl, .same rfl, rfl, .same rfl, rfl, trivial⟩, ⟨rfl, rfl, rfl, rfl⟩, trivial⟩ rfl rfl) fun s' h => ⟨ids, rfl, hin, hnd, rfl, h⟩) ?_
          rintro m s ⟨out, hmo, hon, hod, hm, rfl⟩
          have hol := ids_len hon hod
          have hnx := play_next hr hc out
          conv => whnf
          repeat (first | (refine Conf.mk (by kernel_rfl) ?_; conv => whnf) | (refine SeqOk.go ?_; conv => whnf))
          refine .some [0, 1] _ _ _ rfl (playAny_ok c out (turnsOf l c) (by omega) (by omega) htn more2_ok) rfl rfl rfl rfl rfl ?_
          rintro x Hc' m' (⟨t, hf, rfl, rfl, hm'⟩ | ⟨hf, rfl, rfl, hm'⟩)
          · obtain rfl : m' = 1 := by simp at hm'; omega
            rw [hf] at hnx
            have hx : nextOf l c out = some t.id := hnx.symm
            conv => whnf
            repeat (first | (refine Conf.mk (by kernel_rfl) ?_; conv => whnf) | (refine SeqOk.go ?_; conv => whnf))
            refine BoolCase.yes rfl ?_
            conv => whnf
            repeat (first | (refine Conf.mk (by kernel_rfl) ?_; conv => whnf) | (refine SeqOk.go ?_; conv => whnf))
            exact Into.mono (Into.to [0, 2] [(9, .ptr 0 0)] [(0, .vars 90 3 [dInt c, .row 1, .dat (.list ((turnsOf l c).map Turn.enc))] true), (1, .rows 36 2 ((out ++ [t.id]).map Id.enc) true)] (by repeat (first | exact trivial | refine ⟨.same (congrArg dInt (wrap_up (by omega))), ?_⟩ | refine ⟨.same rfl, ?_⟩ | refine ⟨.any _, ?_⟩)) ⟨⟨rfl, rfl, rfl, .same rfl, rfl, .same rfl, rfl, .same rfl, rfl, trivial⟩, ⟨rfl, rfl, rfl, rfl⟩, trivial⟩ rfl rfl) fun s' h => ⟨left l c (out ++ [t.id]), by have := nextOf_left hx; omega, out ++ [t.id], by rw [hmo, moreOf_some hx], fun y hy => (by
              rcases List.mem_append.1 hy with hy | hy
              · exact hon y hy
              · have : y = t.id := by simpa using hy
                rw [this]
                obtain ⟨e, he, h1, _⟩ := colored_iff.1 ((mem_colIds hr).1 (nextOf_some hx).1)
                exact ⟨e, he, h1⟩), (by
              rw [List.nodup_append]
              refine ⟨hod, by simp, fun y hy z hz e => ?_⟩
              have : z = t.id := by simpa using hz
              subst this
              exact ((mayP_iff hr).1 (nextOf_some hx).2).1 (by rw [← e]; exact hy)), rfl, h⟩
          · obtain rfl : m' = 0 := by simp at hm'; omega
            rw [hf] at hnx
            have hx : nextOf l c out = none := hnx.symm
            conv => whnf
            repeat (first | (refine Conf.mk (by kernel_rfl) ?_; conv => whnf) | (refine SeqOk.go ?_; conv => whnf))
            refine BoolCase.no rfl ?_
            conv => whnf
            repeat (first | (refine Conf.mk (by kernel_rfl) ?_; conv => whnf) | (refine SeqOk.go ?_; conv => whnf))
            subst hQ1
            conv => whnf
            repeat (first | (refine Conf.mk (by kernel_rfl) ?_; conv => whnf) | (refine SeqOk.go ?_; conv => whnf))
            exact Ret.to (by rw [ha0, he0, hmo, moreOf_none hx]; rfl)
  · have he : begunErr l c ids = idsErr l ids := by unfold begunErr; rw [if_neg h0]
    have ha : moreAns l c ids = [] := by unfold moreAns; rw [he, if_neg h0]
    refine BoolCase.yes (by simpa using h0) ?_
    conv => whnf
    repeat (first | (refine Conf.mk (by kernel_rfl) ?_; conv => whnf) | (refine SeqOk.go ?_; conv => whnf))
    exact Ret.to (by rw [he, ha]; rfl)
theorem first_ok (l : List Entry') (hl : LogOk l) (c : Int) : PCall Try.prog 22 [.dat (.list (l.map Entry'.enc)), dInt c] (.tup [.dat (.list ((moreAns l c []).map Id.enc)), dInt (begunErr l c [])]) := by
  refine pcall_intro tab_all tab_mixed Try.func22 (by kernel_rfl) Try.ntmps22 rfl ?_
  conv => whnf
  refine .data _ _ (more_ok l hl c [] (by simp)) rfl ?_
  conv => whnf
  repeat (first | (refine Conf.mk (by kernel_rfl) ?_; conv => whnf) | (refine SeqOk.go ?_; conv => whnf))
  exact Ret.to rfl
end Go.Proofs.Ytlioojekjnigiae.AM
/- Orders: what must be in any case; what the document says of them, called. -/
namespace Go.Proofs.Ytlioojekjnigiae.AM
set_option linter.unusedVariables false
set_option linter.unusedSimpArgs false

set_option maxHeartbeats 0 in
theorem orderBegun_ok : PCall Try.prog 15 [] (dBool true) := by
  have e1 : begunErr someLog 1 [] = 0 := by kernel_rfl
  have a1 : moreAns someLog 1 [] = [⟨0, 1⟩, ⟨0, 2⟩, ⟨1, 1⟩] := by kernel_rfl
  have e2 : begunErr someLog 3 [⟨1, 1⟩] = 0 := by kernel_rfl
  have a2 : moreAns someLog 3 [⟨1, 1⟩] = [⟨1, 1⟩, ⟨0, 1⟩, ⟨0, 2⟩, ⟨1, 2⟩] := by kernel_rfl
  have e3 : idsErr someLog [⟨1, 1⟩, ⟨0, 1⟩, ⟨1, 2⟩] = 0 := by kernel_rfl
  have a3 : isAns someLog [⟨1, 1⟩, ⟨0, 1⟩, ⟨1, 2⟩] = true := by kernel_rfl
  have e4 : idsErr someLog [⟨1, 2⟩, ⟨0, 1⟩] = 0 := by kernel_rfl
  have a4 : isAns someLog [⟨1, 2⟩, ⟨0, 1⟩] = false := by kernel_rfl
  have h1 := first_ok someLog someLog_ok 1
  have h2 := more_ok someLog someLog_ok 3 [⟨1, 1⟩] (by decide)
  have h3 := Is_ok someLog someLog_ok [⟨1, 1⟩, ⟨0, 1⟩, ⟨1, 2⟩] (by decide)
  have h4 := Is_ok someLog someLog_ok [⟨1, 2⟩, ⟨0, 1⟩] (by decide)
  rw [e1, a1] at h1
  rw [e2, a2] at h2
  rw [e3, a3] at h3
  rw [e4, a4] at h4
  refine pcall_intro tab_all tab_mixed Try.func15 (by kernel_rfl) Try.ntmps15 rfl ?_
  conv => whnf
  refine .data _ _ entries_ok rfl ?_
  conv => whnf
  repeat (first | (refine Conf.mk (by kernel_rfl) ?_; conv => whnf) | (refine SeqOk.go ?_; conv => whnf))
  refine .data _ _ h1 rfl ?_
  conv => whnf
  repeat (first | (refine Conf.mk (by kernel_rfl) ?_; conv => whnf) | (refine SeqOk.go ?_; conv => whnf))
  refine .data _ _ entries_ok rfl ?_
  conv => whnf
  repeat (first | (refine Conf.mk (by kernel_rfl) ?_; conv => whnf) | (refine SeqOk.go ?_; conv => whnf))
  refine .data _ _ (id_ok _ _) rfl ?_
  conv => whnf
  repeat (first | (refine Conf.mk (by kernel_rfl) ?_; conv => whnf) | (refine SeqOk.go ?_; conv => whnf))
  refine .keep [0] _ _ h2 rfl rfl rfl rfl ?_
  conv => whnf
  repeat (first | (refine Conf.mk (by kernel_rfl) ?_; conv => whnf) | (refine SeqOk.go ?_; conv => whnf))
  refine .data _ _ entries_ok rfl ?_
  conv => whnf
  repeat (first | (refine Conf.mk (by kernel_rfl) ?_; conv => whnf) | (refine SeqOk.go ?_; conv => whnf))
  refine .data _ _ (id_ok _ _) rfl ?_
  conv => whnf
  repeat (first | (refine Conf.mk (by kernel_rfl) ?_; conv => whnf) | (refine SeqOk.go ?_; conv => whnf))
  refine .data _ _ (id_ok _ _) rfl ?_
  conv => whnf
  repeat (first | (refine Conf.mk (by kernel_rfl) ?_; conv => whnf) | (refine SeqOk.go ?_; conv => whnf))
  refine .data _ _ (id_ok _ _) rfl ?_
  conv => whnf
  repeat (first | (refine Conf.mk (by kernel_rfl) ?_; conv => whnf) | (refine SeqOk.go ?_; conv => whnf))
  refine .look _ _ h3 rfl rfl ?_
  conv => whnf
  repeat (first | (refine Conf.mk (by kernel_rfl) ?_; conv => whnf) | (refine SeqOk.go ?_; conv => whnf))
  refine .data _ _ entries_ok rfl ?_
  conv => whnf
  repeat (first | (refine Conf.mk (by kernel_rfl) ?_; conv => whnf) | (refine SeqOk.go ?_; conv => whnf))
  refine .data _ _ (id_ok _ _) rfl ?_
  conv => whnf
  repeat (first | (refine Conf.mk (by kernel_rfl) ?_; conv => whnf) | (refine SeqOk.go ?_; conv => whnf))
  refine .data _ _ (id_ok _ _) rfl ?_
  conv => whnf
  repeat (first | (refine Conf.mk (by kernel_rfl) ?_; conv => whnf) | (refine SeqOk.go ?_; conv => whnf))
  refine .look _ _ h4 rfl rfl ?_
  conv => whnf
  repeat (first | (refine Conf.mk (by kernel_rfl) ?_; conv => whnf) | (refine SeqOk.go ?_; conv => whnf))
  refine BoolCase.yes rfl ?_
  conv => whnf
  repeat (first | (refine Conf.mk (by kernel_rfl) ?_; conv => whnf) | (refine SeqOk.go ?_; conv => whnf))
  refine BoolCase.yes rfl ?_
  conv => whnf
  repeat (first | (refine Conf.mk (by kernel_rfl) ?_; conv => whnf) | (refine SeqOk.go ?_; conv => whnf))
  refine BoolCase.yes rfl ?_
  conv => whnf
  repeat (first | (refine Conf.mk (by kernel_rfl) ?_; conv => whnf) | (refine SeqOk.go ?_; conv => whnf))
  refine BoolCase.yes rfl ?_
  conv => whnf
  repeat (first | (refine Conf.mk (by kernel_rfl) ?_; conv => whnf) | (refine SeqOk.go ?_; conv => whnf))
  refine BoolCase.yes rfl ?_
  conv => whnf
  repeat (first | (refine Conf.mk (by kernel_rfl) ?_; conv => whnf) | (refine SeqOk.go ?_; conv => whnf))
  refine BoolCase.yes rfl ?_
  conv => whnf
  repeat (first | (refine Conf.mk (by kernel_rfl) ?_; conv => whnf) | (refine SeqOk.go ?_; conv => whnf))
  refine .data _ _ (id_ok _ _) rfl ?_
  conv => whnf
  repeat (first | (refine Conf.mk (by kernel_rfl) ?_; conv => whnf) | (refine SeqOk.go ?_; conv => whnf))
  refine .data _ _ (id_ok _ _) rfl ?_
  conv => whnf
  repeat (first | (refine Conf.mk (by kernel_rfl) ?_; conv => whnf) | (refine SeqOk.go ?_; conv => whnf))
  refine .data _ _ (id_ok _ _) rfl ?_
  conv => whnf
  repeat (first | (refine Conf.mk (by kernel_rfl) ?_; conv => whnf) | (refine SeqOk.go ?_; conv => whnf))
  refine .look _ _ (same_ok [⟨0, 1⟩, ⟨0, 2⟩, ⟨1, 1⟩] (by decide)) rfl rfl ?_
  conv => whnf
  repeat (first | (refine Conf.mk (by kernel_rfl) ?_; conv => whnf) | (refine SeqOk.go ?_; conv => whnf))
  refine .data _ _ (id_ok _ _) rfl ?_
  conv => whnf
  repeat (first | (refine Conf.mk (by kernel_rfl) ?_; conv => whnf) | (refine SeqOk.go ?_; conv => whnf))
  refine .data _ _ (id_ok _ _) rfl ?_
  conv => whnf
  repeat (first | (refine Conf.mk (by kernel_rfl) ?_; conv => whnf) | (refine SeqOk.go ?_; conv => whnf))
  refine .data _ _ (id_ok _ _) rfl ?_
  conv => whnf
  repeat (first | (refine Conf.mk (by kernel_rfl) ?_; conv => whnf) | (refine SeqOk.go ?_; conv => whnf))
  refine .data _ _ (id_ok _ _) rfl ?_
  conv => whnf
  repeat (first | (refine Conf.mk (by kernel_rfl) ?_; conv => whnf) | (refine SeqOk.go ?_; conv => whnf))
  refine .look _ _ (same_ok [⟨1, 1⟩, ⟨0, 1⟩, ⟨0, 2⟩, ⟨1, 2⟩] (by decide)) rfl rfl ?_
  conv => whnf
  repeat (first | (refine Conf.mk (by kernel_rfl) ?_; conv => whnf) | (refine SeqOk.go ?_; conv => whnf))
  exact Ret.bool rfl
theorem moreOf_len {l : List Entry'} (hr : Right l) {c : Int} {ids : List Id} (hin : ∀ x ∈ ids, ∃ e ∈ l, e.id = x) (hnd : ids.Nodup) : (moreOf l c ids).length ≤ 40 ∧ (moreOf l c ids).Nodup ∧ ∀ x ∈ moreOf l c ids, ∃ e ∈ l, e.id = x := by
  obtain ⟨⟨h1, h2⟩, _⟩ := moreOf_ind (l := l) (c := c) (p := fun o => o.Nodup ∧ ∀ x ∈ o, ∃ e ∈ l, e.id = x) (fun out x ⟨k1, k2⟩ hx => by
    refine ⟨?_, fun y hy => ?_⟩
    · rw [List.nodup_append]
      refine ⟨k1, by simp, fun y hy z hz e => ?_⟩
      have : z = x := by simpa using hz
      subst this
      exact ((mayP_iff hr).1 (nextOf_some hx).2).1 (by rw [← e]; exact hy)
    · rcases List.mem_append.1 hy with hy | hy
      · exact k2 y hy
      · have : y = x := by simpa using hy
        rw [this]
        obtain ⟨e, he, h1, _⟩ := colored_iff.1 ((mem_colIds hr).1 (nextOf_some hx).1)
        exact ⟨e, he, h1⟩) ids ⟨hnd, hin⟩
  exact ⟨Nat.le_trans (ids_len h2 h1) hr.len, h1, h2⟩
theorem moreAns_len (l : List Entry') (c : Int) (ids : List Id) : (moreAns l c ids).length ≤ 40 := by
  unfold moreAns
  split
  · rename_i h
    obtain ⟨hr, hin, hnd⟩ := idsErr_ok (begunErr_ok h).1
    exact (moreOf_len hr hin hnd).1
  · simp
end Go.Proofs.Ytlioojekjnigiae.AM
/- Orders: one that has gone on has come to its end. -/
namespace Go.Proofs.Ytlioojekjnigiae.AM
set_option linter.unusedVariables false
set_option linter.unusedSimpArgs false

theorem fits_takeI {es : List Id} {i : Nat} : (List.map Id.enc es).take i = (es.take i).map Id.enc := by rw [List.map_take]
theorem idsErr_of {l : List Entry'} (hr : Right l) {ids : List Id} (h1 : ∀ x ∈ ids, ∃ e ∈ l, e.id = x) (h2 : ids.Nodup) : idsErr l ids = 0 := by
  unfold idsErr
  rw [if_pos (right_iff.2 hr)]
  exact idsLoop_iff.2 ⟨h1, by simp, h2⟩
theorem begunErr_of {l : List Entry'} (hr : Right l) {c : Int} (hc : 1 ≤ c ∧ c ≤ 7) {ids : List Id} (h1 : ∀ x ∈ ids, ∃ e ∈ l, e.id = x) (h2 : ids.Nodup) (h3 : playOk l c [] ids = true) : begunErr l c ids = 0 := by
  unfold begunErr
  rw [if_pos (idsErr_of hr h1 h2), if_neg (by omega), begun_play hr h2, if_pos h3]
theorem begun_facts {l : List Entry'} {c : Int} {ids : List Id} (h : begunErr l c ids = 0) : Right l ∧ (1 ≤ c ∧ c ≤ 7) ∧ (∀ x ∈ ids, ∃ e ∈ l, e.id = x) ∧ ids.Nodup ∧ playOk l c [] ids = true := by
  obtain ⟨hi, hc, hb⟩ := begunErr_ok h
  obtain ⟨hr, hin, hnd⟩ := idsErr_ok hi
  exact ⟨hr, hc, hin, hnd, by rw [← begun_play hr hnd]; exact hb⟩
theorem begun_more {l : List Entry'} {c : Int} {ids : List Id} (h : begunErr l c ids = 0) : begunErr l c (moreOf l c ids) = 0 := by
  obtain ⟨hr, hc, hin, hnd, hp⟩ := begun_facts h
  obtain ⟨_, h1, h2⟩ := moreOf_len hr (c := c) hin hnd
  exact begunErr_of hr hc h2 h1 (playOk_more hr hp)
theorem more_end (l : List Entry') (c : Int) (ids : List Id) : nextOf l c (moreOf l c ids) = none := (moreOf_ind (p := fun _ => True) (fun _ _ _ _ => trivial) ids trivial).2
theorem more_more (l : List Entry') (c : Int) (ids : List Id) : moreOf l c (moreOf l c ids) = moreOf l c ids := moreOf_none (more_end l c ids)
theorem begun_is {l : List Entry'} {c : Int} {ids : List Id} (h : begunErr l c ids = 0) : isAns l ids = true := by
  obtain ⟨hi, hc, hb⟩ := begunErr_ok h
  unfold isAns
  unfold begunOk at hb
  rw [Bool.and_eq_true] at hb
  rw [hi, hb.2]
  rfl
theorem begun_mem {l : List Entry'} {c : Int} {ids : List Id} (h : begunErr l c ids = 0) {x : Id} (hx : x ∈ ids) : colored l c x = true := by
  obtain ⟨hi, hc, hb⟩ := begunErr_ok h
  unfold begunOk at hb
  rw [Bool.and_eq_true, List.all_eq_true] at hb
  have := hb.1 x hx
  rw [Bool.and_eq_true] at this
  exact this.1
/-- How many of a color are among the first. -/
def manyOf (l : List Entry') (c : Int) (i : Nat) : Nat := ((l.take i).filter fun e => meets e.colors c).length
theorem many_succ {l : List Entry'} {c : Int} {i : Nat} (hi : i < l.length) : manyOf l c (i + 1) = manyOf l c i + if meets l[i].colors c = true then 1 else 0 := by
  unfold manyOf
  rw [List.take_succ_eq_append_getElem hi, List.filter_append, List.length_append]
  congr 1
  by_cases h : meets l[i].colors c = true
  · simp [h]
  · simp [h]
theorem many_le (l : List Entry') (c : Int) (i : Nat) : manyOf l c i ≤ l.length := by
  unfold manyOf
  exact Nat.le_trans (List.length_filter_le _ _) (by rw [List.length_take]; exact Nat.min_le_right _ _)
theorem many_all {l : List Entry'} {c : Int} {ids : List Id} (h : begunErr l c ids = 0) : manyOf l c l.length = (moreOf l c ids).length := by
  obtain ⟨hr, hc, hin, hnd, hp⟩ := begun_facts h
  obtain ⟨_, h1, h2⟩ := moreOf_len hr (c := c) hin hnd
  have hn : ((l.filter fun e => meets e.colors c).map (·.id)).Nodup := (nodup_ids hr).sublist (List.filter_sublist.map _)
  unfold manyOf
  rw [List.take_length, ← List.length_map (f := fun e : Entry' => e.id)]
  refine Nat.le_antisymm (nodup_len hn fun x hx => ?_) (nodup_len h1 fun x hx => ?_)
  · obtain ⟨e, he, rfl⟩ := List.mem_map.1 hx
    rw [List.mem_filter] at he
    exact all_there hr (more_end l c ids) (colored_iff.2 ⟨e, he.1, rfl, he.2⟩)
  · obtain ⟨e, he, h3, h4⟩ := colored_iff.1 (begun_mem (begun_more h) hx)
    exact List.mem_map.2 ⟨e, List.mem_filter.2 ⟨he, h4⟩, h3⟩
end Go.Proofs.Ytlioojekjnigiae.AM
/- Plain: sites. -/
namespace Go.Proofs.Ytlioojekjnigiae.AM
set_option linter.unusedVariables false
set_option linter.unusedSimpArgs false

structure Site' where
  region : Int
  log : List Entry'
  waits : List Entry'
/-- May an entry stand right behind a log? -/
def readyP (l : List Entry') (e : Entry') : Bool := decide (e.id.n = (cnt e.id.r l : Int) + 1) && e.links.all fun x => l.any (isThe x)
def settleN : Nat → List Entry' → List Entry' → List Entry' × List Entry'
  | 0, l, w => (l, w)
  | n + 1, l, w => match isIdx (readyP l) w 0 with
    | none => (l, w)
    | some i => match w[i]? with
      | none => (l, w)
      | some e => settleN n (l ++ [e]) (w.eraseIdx i)
def settle (l w : List Entry') : List Entry' × List Entry' := settleN w.length l w
theorem isIdx_first {α : Type} {p : α → Bool} : ∀ {l : List α} {i j : Nat}, isIdx p l i = some j → ∀ k (hk : k < l.length), i + k < j → p l[k] = false
  | [], i, j, h, k, hk, _ => by simp at hk
  | a :: t, i, j, h, k, hk, hkj => by
    unfold isIdx at h
    split at h
    · obtain rfl : i = j := by simpa using h
      omega
    · rename_i hp
      match k with
      | 0 => simpa using hp
      | k + 1 => exact isIdx_first h k (by simpa using hk) (by omega)
theorem settle_none {l w : List Entry'} (h : isIdx (readyP l) w 0 = none) : settle l w = (l, w) := by
  unfold settle
  cases w with
  | nil => rfl
  | cons e t => simp only [List.length_cons, settleN, h]
theorem settle_some {l w : List Entry'} {i : Nat} (h : isIdx (readyP l) w 0 = some i) (hi : i < w.length) : settle l w = settle (l ++ [w[i]]) (w.eraseIdx i) := by
  unfold settle
  rw [List.length_eraseIdx_of_lt hi]
  obtain ⟨n, hn⟩ : ∃ n, w.length = n + 1 := ⟨w.length - 1, by omega⟩
  rw [hn]
  simp only [settleN, h, List.getElem?_eq_getElem hi, Nat.add_sub_cancel]
theorem readyP_behind {l : List Entry'} {e : Entry'} (he : e.err = 0) (hn : ∀ x ∈ l, x.id ≠ e.id) (h : readyP l e = true) : Behind l e := by
  unfold readyP at h
  rw [Bool.and_eq_true, decide_eq_true_eq, List.all_eq_true] at h
  exact ⟨he, hn, h.1, fun y hy => any_isThe.1 (h.2 y hy)⟩
/-- Numbers of a region of a right log: 1, 2, .. -/
theorem Right.num_le {l : List Entry'} (hr : Right l) {e : Entry'} (he : e ∈ l) : 1 ≤ e.id.n ∧ e.id.n ≤ (cnt e.id.r l : Int) := by
  obtain ⟨i, hi, rfl⟩ := List.getElem_of_mem he
  have h1 := (hr.get hi).num
  have h2 := cnt_succ l[i].id.r hi
  simp only [beq_self_eq_true, if_true] at h2
  have h3 : cnt l[i].id.r (l.take (i + 1)) ≤ cnt l[i].id.r l := (List.take_sublist (i + 1) l).countP_le
  omega
theorem Right.cnt_twenty {l : List Entry'} (hr : Right l) (r : Int) : cnt r l ≤ 20 := by
  rcases Nat.eq_zero_or_pos (cnt r l) with h | h
  · omega
  · -- the last of that region
    have key : ∀ k, k ≤ l.length → 0 < cnt r (l.take k) → ∃ e ∈ l, e.id.r = r ∧ e.id.n = (cnt r (l.take k) : Int) := by
      intro k
      induction k with
      | zero => intro _ h; simp [cnt] at h
      | succ k ih =>
        intro hk hc
        have hs := cnt_succ r (l := l) (i := k) hk
        by_cases hx : l[k].id.r = r
        · rw [if_pos (by simp [hx])] at hs
          refine ⟨l[k], List.getElem_mem hk, hx, ?_⟩
          have := (hr.get hk).num
          rw [hx] at this
          omega
        · rw [if_neg (by simp [hx])] at hs
          obtain ⟨e, he, h1, h2⟩ := ih (by omega) (by omega)
          exact ⟨e, he, h1, by omega⟩
    obtain ⟨e, he, h1, h2⟩ := key l.length (Nat.le_refl _) (by rw [List.take_of_length_le (Nat.le_refl _)]; exact h)
    rw [List.take_of_length_le (Nat.le_refl _)] at h2
    have hok := hr.ok he
    simp [Id.ok] at hok
    omega
/-- A right log with one more. -/
theorem Right.snoc {l : List Entry'} (hr : Right l) {e : Entry'} (h : Behind l e) : Right (l ++ [e]) := by
  have hat : ∀ a x b, l ++ [e] = a ++ x :: b → Behind a x := fun a x b hh => by
    rcases List.append_eq_append_iff.1 hh with ⟨c, h1, h2⟩ | ⟨c, h1, h2⟩
    · cases c with
      | nil =>
        simp only [List.append_nil, List.nil_append, List.cons.injEq] at h1 h2
        rw [h1, ← h2.1]; exact h
      | cons y c =>
        simp at h2
    · cases c with
      | nil =>
        simp only [List.append_nil, List.nil_append, List.cons.injEq] at h1 h2
        rw [← h1, h2.1]; exact h
      | cons y c =>
        simp only [List.cons_append, List.cons.injEq] at h2
        obtain ⟨rfl, _⟩ := h2
        exact hr.at' a x c h1
  refine ⟨?_, hat⟩
  have hok := ok_of_err h.err
  simp [Id.ok] at hok
  have h0 := cnt_all (l := l ++ [e]) fun x hx => by
    rcases List.mem_append.1 hx with hx | hx
    · exact hr.regs x hx
    · have : x = e := by simpa using hx
      rw [this]; exact r_of_ok (ok_of_err h.err)
  have a0 := hr.cnt_twenty 0
  have a1 := hr.cnt_twenty 1
  have hnum := h.num
  have s0 : cnt 0 (l ++ [e]) = cnt 0 l + if e.id.r == 0 then 1 else 0 := by simp [cnt, List.countP_append, List.countP_cons]
  have s1 : cnt 1 (l ++ [e]) = cnt 1 l + if e.id.r == 1 then 1 else 0 := by simp [cnt, List.countP_append, List.countP_cons]
  rcases r_of_ok (ok_of_err h.err) with hr0 | hr0
  · rw [hr0] at hnum s0 s1
    simp at s0 s1
    omega
  · rw [hr0] at hnum s0 s1
    simp at s0 s1
    omega
end Go.Proofs.Ytlioojekjnigiae.AM
/- Plain: what a time has of a log, and what is played to it. -/
namespace Go.Proofs.Ytlioojekjnigiae.AM
set_option linter.unusedVariables false
set_option linter.unusedSimpArgs false

structure Vec where
  a : Int
  b : Int
def Vec.at' (v : Vec) (r : Int) : Int := if r = 0 then v.a else v.b
def Vec.ok (v : Vec) : Bool := decide (0 ≤ v.a) && decide (v.a ≤ 20) && (decide (0 ≤ v.b) && decide (v.b ≤ 20))
/-- Has it an id? -/
def inV (v : Vec) (x : Id) : Bool := decide (x.n ≤ v.at' x.r)
def insideL (l : List Entry') (v : Vec) : List Entry' := l.filter fun e => inV v e.id
def linksIn (l : List Entry') (v : Vec) : Bool := (insideL l v).all fun e => e.links.all (inV v)
theorem mem_inside {l : List Entry'} {v : Vec} {e : Entry'} : e ∈ insideL l v ↔ e ∈ l ∧ inV v e.id = true := List.mem_filter
theorem linksIn_iff {l : List Entry'} {v : Vec} : linksIn l v = true ↔ ∀ e ∈ l, inV v e.id = true → ∀ y ∈ e.links, inV v y = true := by
  unfold linksIn
  rw [List.all_eq_true]
  refine ⟨fun h e he hi y hy => List.all_eq_true.1 (h e (mem_inside.2 ⟨he, hi⟩)) y hy, fun h e he => ?_⟩
  obtain ⟨h1, h2⟩ := mem_inside.1 he
  exact List.all_eq_true.2 (h e h1 h2)
theorem cnt_inside {l : List Entry'} (v : Vec) (r : Int) (h : ∀ e ∈ l, e.id.r = r → inV v e.id = true) : cnt r (insideL l v) = cnt r l := by
  unfold cnt insideL
  rw [List.countP_filter]
  refine List.countP_congr fun e he => ?_
  by_cases hr : e.id.r = r
  · simp [hr, h e he hr]
  · simp [hr]
theorem take_succ' {α : Type} {l : List α} {k : Nat} (hk : k < l.length) : l.take (k + 1) = l.take k ++ [l[k]] := by
  rw [List.take_add_one, List.getElem?_eq_getElem hk]
  rfl
/-- What a time has of a right log is a right log, where its links are in it. -/
theorem Right.inside {l : List Entry'} (hr : Right l) {v : Vec} (hl : linksIn l v = true) : Right (insideL l v) := by
  have hli := linksIn_iff.1 hl
  have key : ∀ k, k ≤ l.length → Right (insideL (l.take k) v) := by
    intro k
    induction k with
    | zero => intro _; exact right_iff.1 rfl
    | succ k ih =>
      intro hk
      have ih := ih (by omega)
      have hb := hr.get hk
      have hm := List.getElem_mem hk
      have e1 : insideL (l.take (k + 1)) v = insideL (l.take k) v ++ if inV v l[k].id = true then [l[k]] else [] := by
        unfold insideL
        rw [take_succ' hk, List.filter_append]
        congr 1
        cases h : inV v l[k].id <;> simp [h]
      rw [e1]
      by_cases h : inV v l[k].id = true
      · rw [if_pos h]
        refine ih.snoc ⟨hb.err, fun x hx => hb.new x (mem_inside.1 hx).1, ?_, fun y hy => ?_⟩
        · rw [cnt_inside v l[k].id.r fun e he hre => ?_]
          · exact hb.num
          · have h1 := ((hr.take k).num_le he).2
            rw [hre] at h1
            have h2 := hb.num
            unfold inV at h ⊢
            rw [decide_eq_true_eq] at h ⊢
            rw [hre]
            omega
        · obtain ⟨x, hx, hxe⟩ := hb.links y hy
          exact ⟨x, mem_inside.2 ⟨hx, by rw [hxe]; exact hli _ hm h y hy⟩, hxe⟩
      · rw [if_neg h, List.append_nil]
        exact ih
  have := key l.length (Nat.le_refl _)
  rw [List.take_of_length_le (Nat.le_refl _)] at this
  exact this
theorem anc_inside {l : List Entry'} (hr : Right l) {v : Vec} (hl : linksIn l v = true) {x y : Id} (hx : inV v x = true) : Anc (insideL l v) x y ↔ Anc l x y := by
  have hli := linksIn_iff.1 hl
  refine ⟨fun h => h.mono fun e he => (mem_inside.1 he).1, fun h => ?_⟩
  induction h with
  | link he hy => exact .link (mem_inside.2 ⟨he, hx⟩) hy
  | step he hz _ ih => exact .step (mem_inside.2 ⟨he, hx⟩) hz (ih (hli _ he hx _ hz))
theorem anc_in {l : List Entry'} (hr : Right l) {v : Vec} (hl : linksIn l v = true) {x y : Id} (hx : inV v x = true) (h : Anc l x y) : inV v y = true := by
  have hli := linksIn_iff.1 hl
  induction h with
  | link he hy => exact hli _ he hx _ hy
  | step he hz _ ih => exact ih (hli _ he hx _ hz)
theorem colored_inside {l : List Entry'} {v : Vec} {c : Int} {x : Id} : colored (insideL l v) c x = true ↔ colored l c x = true ∧ inV v x = true := by
  rw [colored_iff, colored_iff]
  constructor
  · rintro ⟨e, he, rfl, h2⟩
    obtain ⟨h3, h4⟩ := mem_inside.1 he
    exact ⟨⟨e, h3, rfl, h2⟩, h4⟩
  · rintro ⟨⟨e, he, rfl, h2⟩, h4⟩
    exact ⟨e, mem_inside.2 ⟨he, h4⟩, rfl, h2⟩
theorem playOk_inside {l : List Entry'} (hr : Right l) {v : Vec} (hl : linksIn l v = true) {c : Int} {ids : List Id} (hi : ∀ x ∈ ids, inV v x = true) : playOk (insideL l v) c [] ids = true ↔ playOk l c [] ids = true := by
  have hr' := hr.inside hl
  rw [playOk_iff hr', playOk_iff hr]
  refine and_congr Iff.rfl (forall_congr' fun a => forall_congr' fun x => forall_congr' fun b => ?_)
  refine ⟨fun h e => ?_, fun h e => ?_⟩
  · have hx : inV v x = true := hi x (by rw [e]; simp)
    obtain ⟨h1, h2⟩ := h e
    exact ⟨(colored_inside.1 h1).1, fun y hy hc => h2 y ((anc_inside hr hl hx).2 hy) (colored_inside.2 ⟨hc, anc_in hr hl hx hy⟩)⟩
  · have hx : inV v x = true := hi x (by rw [e]; simp)
    obtain ⟨h1, h2⟩ := h e
    exact ⟨colored_inside.2 ⟨h1, hx⟩, fun y hy hc => h2 y ((anc_inside hr hl hx).1 hy) (colored_inside.1 hc).1⟩
theorem begun_inside {l : List Entry'} {v : Vec} {c : Int} {ids : List Id} (h : begunErr l c ids = 0) (hl : linksIn l v = true) (hi : ∀ x ∈ ids, inV v x = true) : begunErr (insideL l v) c ids = 0 := by
  obtain ⟨hr, hc, hin, hnd, hp⟩ := begun_facts h
  refine begunErr_of (hr.inside hl) hc (fun x hx => ?_) hnd ((playOk_inside hr hl hi).2 hp)
  obtain ⟨e, he, rfl⟩ := hin x hx
  exact ⟨e, mem_inside.2 ⟨he, hi _ hx⟩, rfl⟩
theorem begun_outside {l : List Entry'} (hr : Right l) {v : Vec} {c : Int} {ids : List Id} (hl : linksIn l v = true) (h : begunErr (insideL l v) c ids = 0) : begunErr l c ids = 0 := by
  obtain ⟨_, hc, hin, hnd, hp⟩ := begun_facts h
  have hi : ∀ x ∈ ids, inV v x = true := fun x hx => by
    obtain ⟨e, he, rfl⟩ := hin x hx
    exact (mem_inside.1 he).2
  refine begunErr_of hr hc (fun x hx => ?_) hnd ((playOk_inside hr hl hi).1 hp)
  obtain ⟨e, he, rfl⟩ := hin x hx
  exact ⟨e, (mem_inside.1 he).1, rfl⟩
/-- All of the colors is played in the end. -/
theorem more_full {l : List Entry'} {c : Int} {ids : List Id} (h : begunErr l c ids = 0) {x : Id} (hx : colored l c x = true) : x ∈ moreOf l c ids := by
  obtain ⟨hr, hc, hin, hnd, hp⟩ := begun_facts h
  have hend := more_end l c ids
  have key : ∀ n x, (∀ i (hi : i < l.length), l[i].id = x → i = n) → colored l c x = true → x ∈ moreOf l c ids := by
    intro n
    induction n using Nat.strongRecOn with
    | _ n ih =>
      intro x hxn hx
      refine Classical.byContradiction fun hno => ?_
      have hno2 : mayP l c (moreOf l c ids) x = true := (mayP_iff hr).2 ⟨hno, fun y hy hyc => by
        obtain ⟨e, he, hex, _⟩ := colored_iff.1 hx
        obtain ⟨i, hi, rfl⟩ := List.getElem_of_mem he
        obtain ⟨j, hj, hji, hje, _⟩ := hy.ahead hr i hi hex
        have hin := hxn i hi hex
        exact ih j (by omega) y (fun k hk hke => hr.inj hk hj (by rw [hke, hje])) hyc⟩
      have := (List.find?_eq_none.1 hend) x ((mem_colIds hr).2 hx)
      exact this hno2
  obtain ⟨e, he, hex, _⟩ := colored_iff.1 hx
  obtain ⟨i, hi, rfl⟩ := List.getElem_of_mem he
  exact key i x (fun k hk hke => hr.inj hk hi (by rw [hke, hex])) hx
theorem inside_all {l : List Entry'} (hr : Right l) : insideL l ⟨cnt 0 l, cnt 1 l⟩ = l := by
  unfold insideL
  rw [List.filter_eq_self]
  intro e he
  have h1 := (hr.num_le he).2
  unfold inV Vec.at'
  rw [decide_eq_true_eq]
  rcases hr.regs e he with h | h <;> rw [h] at h1 ⊢
  · exact h1
  · exact h1
end Go.Proofs.Ytlioojekjnigiae.AM
/- Vectors: right ones, what they have. -/
namespace Go.Proofs.Ytlioojekjnigiae.AM
set_option linter.unusedVariables false
set_option linter.unusedSimpArgs false

def Vec.enc (v : Vec) : List D := [.int .i64 v.a, .int .i64 v.b]
def Vec.arg (v : Vec) : AVal := vecA v.a v.b
def isNum (n : Int) : Bool := decide (0 ≤ n) && decide (n ≤ 20)
theorem Vec.ok_eq (v : Vec) : v.ok = (isNum v.a && isNum v.b) := rfl
def vecsErr (vs : List Vec) : Int := if vs.all Vec.ok = true then 0 else 3
set_option maxHeartbeats 0 in
theorem vcheck_ok (vs : List Vec) (hl : vs.length ≤ 1000) : PCall Try.prog 48 [.dat (.list (vs.map Vec.enc))] (dInt (vecsErr vs)) := by
  refine pcall_cut tab_all tab_mixed Try.func48 (by kernel_rfl) Try.ntmps48 rfl ?_
  conv => whnf
  conv => whnf
  repeat (first | (refine Conf.mk (by kernel_rfl) ?_; conv => whnf) | (refine SeqOk.go ?_; conv => whnf))
  refine LoopOk.hide fun Q1 hQ1 => ?_
  refine LoopOk.mk (fun m s => ∃ i, i + m = vs.length ∧ vs.all Vec.ok = (vs.drop i).all Vec.ok ∧ s = ⟨[(9, dInt i), (8, dInt (vs.map Vec.enc).length), (7, .dat (.list (vs.map Vec.enc)))], 0, []⟩) vs.length (Into.mono (Into.to [] [(9, dInt (0 : Nat)), (8, dInt (vs.map Vec.enc).length), (7, .dat (.list (vs.map Vec.enc)))] [] (by repeat (first | exact trivial | refine ⟨.same (congrArg dInt (wrap_up (by omega))), ?_⟩ | refine ⟨.same rfl, ?_⟩ | refine ⟨.any _, ?_⟩)) trivial rfl rfl) fun s' h => ⟨0, by omega, rfl, h⟩) ?_
  rintro m s ⟨i, him, hp, rfl⟩
  conv => whnf
  repeat (first | (refine Conf.mk (by kernel_rfl) ?_; conv => whnf) | (refine SeqOk.go ?_; conv => whnf))
  refine ⟨fun h => ?_, fun h => ?_⟩
  · have hi := lt_of_len h
    rw [List.drop_eq_getElem_cons hi, List.all_cons] at hp
    conv => whnf
    repeat (first | (refine Conf.mk (by kernel_rfl) ?_; conv => whnf) | (refine SeqOk.go ?_; conv => whnf))
    refine AtIdx.ofMap hi rfl ?_
    conv => whnf
    repeat (first | (refine Conf.mk (by kernel_rfl) ?_; conv => whnf) | (refine SeqOk.go ?_; conv => whnf))
    generalize vs[i] = v at *
    refine LoopOk.hide fun Q2 hQ2 => ?_
    refine LoopOk.mk (fun m2 s => ∃ j, j + m2 = 2 ∧ (1 ≤ j → isNum v.a = true) ∧ (2 ≤ j → isNum v.b = true) ∧ s = ⟨[(14, dInt j), (13, v.arg), (9, dInt i), (8, dInt (vs.map Vec.enc).length), (7, .dat (.list (vs.map Vec.enc)))], 0, []⟩) 2 (Into.mono (Into.to [] [(14, dInt (0 : Nat)), (13, v.arg), (9, dInt i), (8, dInt (vs.map Vec.enc).length), (7, .dat (.list (vs.map Vec.enc)))] [] (by repeat (first | exact trivial | refine ⟨.same (congrArg dInt (wrap_up (by omega))), ?_⟩ | refine ⟨.same rfl, ?_⟩ | refine ⟨.any _, ?_⟩)) trivial rfl rfl) fun s' h => ⟨0, rfl, by omega, by omega, h⟩) ?_
    rintro m2 s ⟨j, hjm, hja, hjb, rfl⟩
    conv => whnf
    repeat (first | (refine Conf.mk (by kernel_rfl) ?_; conv => whnf) | (refine SeqOk.go ?_; conv => whnf))
    refine ⟨fun h2 => ?_, fun h2 => ?_⟩
    · have hj : j < 2 := by have : (j : Int) < 2 := by simpa using h2
                            omega
      conv => whnf
      repeat (first | (refine Conf.mk (by kernel_rfl) ?_; conv => whnf) | (refine SeqOk.go ?_; conv => whnf))
      rcases (show j = 0 ∨ j = 1 by omega) with rfl | rfl
      · refine .mk 0 rfl (by decide) ?_
        conv => whnf
        repeat (first | (refine Conf.mk (by kernel_rfl) ?_; conv => whnf) | (refine SeqOk.go ?_; conv => whnf))
        refine ⟨fun h3 => ?_, fun h3 => ?_⟩
        · have hn : isNum v.a = false := by have h3 : v.a < 0 := by simpa using h3
                                            simp [isNum]; omega
          have hb : v.ok = false := by rw [Vec.ok_eq, hn]; simp
          conv => whnf
          repeat (first | (refine Conf.mk (by kernel_rfl) ?_; conv => whnf) | (refine SeqOk.go ?_; conv => whnf))
          subst hQ2
          conv => whnf
          subst hQ1
          conv => whnf
          exact Ret.int (by unfold vecsErr; rw [hp, hb, Bool.false_and, if_neg (by decide)])
        · have h3 : ¬ v.a < 0 := by simpa using h3
          conv => whnf
          repeat (first | (refine Conf.mk (by kernel_rfl) ?_; conv => whnf) | (refine SeqOk.go ?_; conv => whnf))
          refine ⟨fun h4 => ?_, fun h4 => ?_⟩
          · have hn : isNum v.a = false := by have h4 : 20 < v.a := by simpa using h4
                                              simp [isNum]; omega
            have hb : v.ok = false := by rw [Vec.ok_eq, hn]; simp
            conv => whnf
            repeat (first | (refine Conf.mk (by kernel_rfl) ?_; conv => whnf) | (refine SeqOk.go ?_; conv => whnf))
            subst hQ2
            conv => whnf
            subst hQ1
            conv => whnf
            exact Ret.int (by unfold vecsErr; rw [hp, hb, Bool.false_and, if_neg (by decide)])
          · have h4 : ¬ 20 < v.a := by simpa using h4
            conv => whnf
            repeat (first | (refine Conf.mk (by kernel_rfl) ?_; conv => whnf) | (refine SeqOk.go ?_; conv => whnf))
            exact Into.mono (Into.to [] [(14, dInt (1 : Nat)), (13, v.arg), (9, dInt i), (8, dInt (vs.map Vec.enc).length), (7, .dat (.list (vs.map Vec.enc)))] [] (by repeat (first | exact trivial | refine ⟨.same (congrArg dInt (wrap_up (by omega))), ?_⟩ | refine ⟨.same rfl, ?_⟩ | refine ⟨.any _, ?_⟩)) trivial rfl rfl) fun s' h => ⟨1, by omega, 1, rfl, fun _ => by simp [isNum]; omega, by omega, h⟩
      · refine .mk 1 rfl (by decide) ?_
        conv => whnf
        repeat (first | (refine Conf.mk (by kernel_rfl) ?_; conv => whnf) | (refine SeqOk.go ?_; conv => whnf))
        refine ⟨fun h3 => ?_, fun h3 => ?_⟩
        · have hn : isNum v.b = false := by have h3 : v.b < 0 := by simpa using h3
                                            simp [isNum]; omega
          have hb : v.ok = false := by rw [Vec.ok_eq, hn]; simp
          conv => whnf
          repeat (first | (refine Conf.mk (by kernel_rfl) ?_; conv => whnf) | (refine SeqOk.go ?_; conv => whnf))
          subst hQ2
          conv => whnf
          subst hQ1
          conv => whnf
          exact Ret.int (by unfold vecsErr; rw [hp, hb, Bool.false_and, if_neg (by decide)])
        · have h3 : ¬ v.b < 0 := by simpa using h3
          conv => whnf
          repeat (first | (refine Conf.mk (by kernel_rfl) ?_; conv => whnf) | (refine SeqOk.go ?_; conv => whnf))
          refine ⟨fun h4 => ?_, fun h4 => ?_⟩
          · have hn : isNum v.b = false := by have h4 : 20 < v.b := by simpa using h4
                                              simp [isNum]; omega
            have hb : v.ok = false := by rw [Vec.ok_eq, hn]; simp
            conv => whnf
            repeat (first | (refine Conf.mk (by kernel_rfl) ?_; conv => whnf) | (refine SeqOk.go ?_; conv => whnf))
            subst hQ2
            conv => whnf
            subst hQ1
            conv => whnf
            exact Ret.int (by unfold vecsErr; rw [hp, hb, Bool.false_and, if_neg (by decide)])
          · have h4 : ¬ 20 < v.b := by simpa using h4
            conv => whnf
            repeat (first | (refine Conf.mk (by kernel_rfl) ?_; conv => whnf) | (refine SeqOk.go ?_; conv => whnf))
            exact Into.mono (Into.to [] [(14, dInt (2 : Nat)), (13, v.arg), (9, dInt i), (8, dInt (vs.map Vec.enc).length), (7, .dat (.list (vs.map Vec.enc)))] [] (by repeat (first | exact trivial | refine ⟨.same (congrArg dInt (wrap_up (by omega))), ?_⟩ | refine ⟨.same rfl, ?_⟩ | refine ⟨.any _, ?_⟩)) trivial rfl rfl) fun s' h => ⟨0, by omega, 2, rfl, fun _ => hja (by omega), fun _ => by simp [isNum]; omega, h⟩
    · have hj : j = 2 := by have : (2 : Int) ≤ j := by simpa using h2
                            omega
      have hg : v.ok = true := by rw [Vec.ok_eq, hja (by omega), hjb (by omega)]; rfl
      rw [hg, Bool.true_and] at hp
      conv => whnf
      repeat (first | (refine Conf.mk (by kernel_rfl) ?_; conv => whnf) | (refine SeqOk.go ?_; conv => whnf))
      subst hQ2
      conv => whnf
      exact Into.mono (Into.to [] [(9, dInt (i + 1 : Nat)), (8, dInt (vs.map Vec.enc).length), (7, .dat (.list (vs.map Vec.enc)))] [] (by repeat (first | exact trivial | refine ⟨.same (congrArg dInt (wrap_up (by omega))), ?_⟩ | refine ⟨.same rfl, ?_⟩ | refine ⟨.any _, ?_⟩)) trivial rfl rfl) fun s' h => ⟨m - 1, by omega, i + 1, by omega, hp, h⟩
  · have hi := ge_of_len h
    rw [List.drop_eq_nil_of_le hi] at hp
    conv => whnf
    repeat (first | (refine Conf.mk (by kernel_rfl) ?_; conv => whnf) | (refine SeqOk.go ?_; conv => whnf))
    subst hQ1
    conv => whnf
    exact Ret.int (by unfold vecsErr; rw [hp]; rfl)
def vecErr (v : Vec) : Int := if v.ok = true then 0 else 3
theorem vecsErr_one (v : Vec) : vecsErr [v] = vecErr v := by unfold vecsErr vecErr; simp
set_option maxHeartbeats 0 in
theorem VCheck_ok (v : Vec) : PCall Try.prog 23 [v.arg] (dInt (vecErr v)) := by
  refine pcall_cut tab_all tab_mixed Try.func23 (by kernel_rfl) Try.ntmps23 rfl ?_
  conv => whnf
  conv => whnf
  repeat (first | (refine Conf.mk (by kernel_rfl) ?_; conv => whnf) | (refine SeqOk.go ?_; conv => whnf))
  refine .look _ _ (vcheck_ok [v] (by simp)) rfl rfl ?_
  conv => whnf
  repeat (first | (refine Conf.mk (by kernel_rfl) ?_; conv => whnf) | (refine SeqOk.go ?_; conv => whnf))
  exact Ret.int (by rw [vecsErr_one])
set_option maxHeartbeats 0 in
theorem vcheckId_ok (x : Id) : PCall Try.prog 86 [x.arg] (dInt (if x.ok = true then 0 else 3)) := by
  refine pcall_cut tab_all tab_mixed Try.func86 (by kernel_rfl) Try.ntmps86 rfl ?_
  conv => whnf
  conv => whnf
  repeat (first | (refine Conf.mk (by kernel_rfl) ?_; conv => whnf) | (refine SeqOk.go ?_; conv => whnf))
  refine .data _ _ (check_ok ⟨x, 7, ByteArray.empty, []⟩ (by simp)) rfl ?_
  conv => whnf
  repeat (first | (refine Conf.mk (by kernel_rfl) ?_; conv => whnf) | (refine SeqOk.go ?_; conv => whnf))
  refine Ret.int ?_
  unfold Entry'.err
  cases h : x.ok
  · simp
  · rw [if_neg (by simp), if_neg (by simp), if_pos rfl]; rfl
set_option maxHeartbeats 0 in
theorem VHas_ok (v : Vec) (x : Id) (hv : v.ok = true) (hx : x.ok = true) : PCall Try.prog 75 [v.arg, x.arg] (.tup [dBool (inV v x), dInt 0]) := by
  have hc := vcheck_ok [v] (by simp)
  rw [vecsErr_one, show vecErr v = 0 by unfold vecErr; rw [if_pos hv]] at hc
  have hi := vcheckId_ok x
  rw [if_pos hx] at hi
  refine pcall_cut tab_all tab_mixed Try.func75 (by kernel_rfl) Try.ntmps75 rfl ?_
  conv => whnf
  conv => whnf
  repeat (first | (refine Conf.mk (by kernel_rfl) ?_; conv => whnf) | (refine SeqOk.go ?_; conv => whnf))
  refine .look _ _ hc rfl rfl ?_
  conv => whnf
  repeat (first | (refine Conf.mk (by kernel_rfl) ?_; conv => whnf) | (refine SeqOk.go ?_; conv => whnf))
  refine BoolCase.no rfl ?_
  conv => whnf
  repeat (first | (refine Conf.mk (by kernel_rfl) ?_; conv => whnf) | (refine SeqOk.go ?_; conv => whnf))
  refine .data _ _ hi rfl ?_
  conv => whnf
  repeat (first | (refine Conf.mk (by kernel_rfl) ?_; conv => whnf) | (refine SeqOk.go ?_; conv => whnf))
  refine BoolCase.no rfl ?_
  conv => whnf
  repeat (first | (refine Conf.mk (by kernel_rfl) ?_; conv => whnf) | (refine SeqOk.go ?_; conv => whnf))
  rcases r_of_ok hx with h | h
  · refine .mk 0 h (by decide) ?_
    conv => whnf
    repeat (first | (refine Conf.mk (by kernel_rfl) ?_; conv => whnf) | (refine SeqOk.go ?_; conv => whnf))
    exact Ret.to (by unfold inV Vec.at'; rw [if_pos h]; rfl)
  · refine .mk 1 h (by decide) ?_
    conv => whnf
    repeat (first | (refine Conf.mk (by kernel_rfl) ?_; conv => whnf) | (refine SeqOk.go ?_; conv => whnf))
    exact Ret.to (by unfold inV Vec.at'; rw [if_neg (by omega)]; rfl)
def withinP (u v : Vec) : Bool := decide (u.a ≤ v.a) && decide (u.b ≤ v.b)
set_option maxHeartbeats 0 in
theorem VWithin_ok (u v : Vec) (hu : u.ok = true) (hv : v.ok = true) : PCall Try.prog 73 [u.arg, v.arg] (.tup [dBool (withinP u v), dInt 0]) := by
  have hc := vcheck_ok [u, v] (by simp)
  rw [show vecsErr [u, v] = 0 by unfold vecsErr; simp [hu, hv]] at hc
  refine pcall_cut tab_all tab_mixed Try.func73 (by kernel_rfl) Try.ntmps73 rfl ?_
  conv => whnf
  conv => whnf
  repeat (first | (refine Conf.mk (by kernel_rfl) ?_; conv => whnf) | (refine SeqOk.go ?_; conv => whnf))
  refine .look _ _ hc rfl rfl ?_
  conv => whnf
  repeat (first | (refine Conf.mk (by kernel_rfl) ?_; conv => whnf) | (refine SeqOk.go ?_; conv => whnf))
  refine BoolCase.no rfl ?_
  conv => whnf
  repeat (first | (refine Conf.mk (by kernel_rfl) ?_; conv => whnf) | (refine SeqOk.go ?_; conv => whnf))
  refine LoopOk.hide fun Q1 hQ1 => ?_
  refine LoopOk.mk (fun m s => ∃ j, j + m = 2 ∧ (1 ≤ j → u.a ≤ v.a) ∧ (2 ≤ j → u.b ≤ v.b) ∧ s = ⟨[(17, dInt j), (16, u.arg), (3, .ptr 0 0)], 1, [(0, .vars 27 2 [dInt v.a, dInt v.b] true)]⟩) 2 (Into.mono (Into.to [1] [(17, dInt (0 : Nat)), (16, u.arg), (3, .ptr 0 0)] [(0, .vars 27 2 [dInt v.a, dInt v.b] true)] (by repeat (first | exact trivial | refine ⟨.same (congrArg dInt (wrap_up (by omega))), ?_⟩ | refine ⟨.same rfl, ?_⟩ | refine ⟨.any _, ?_⟩)) ⟨⟨rfl, rfl, rfl, .same rfl, rfl, .same rfl, rfl, trivial⟩, trivial⟩ rfl rfl) fun s' h => ⟨0, rfl, by omega, by omega, h⟩) ?_
  rintro m s ⟨j, hjm, hja, hjb, rfl⟩
  conv => whnf
  repeat (first | (refine Conf.mk (by kernel_rfl) ?_; conv => whnf) | (refine SeqOk.go ?_; conv => whnf))
  refine ⟨fun h2 => ?_, fun h2 => ?_⟩
  · have hj : j < 2 := by have : (j : Int) < 2 := by simpa using h2
                          omega
    conv => whnf
    repeat (first | (refine Conf.mk (by kernel_rfl) ?_; conv => whnf) | (refine SeqOk.go ?_; conv => whnf))
    rcases (show j = 0 ∨ j = 1 by omega) with rfl | rfl
    · refine .mk 0 rfl (by decide) ?_
      conv => whnf
      repeat (first | (refine Conf.mk (by kernel_rfl) ?_; conv => whnf) | (refine SeqOk.go ?_; conv => whnf))
      refine .mk 0 rfl (by decide) ?_
      conv => whnf
      repeat (first | (refine Conf.mk (by kernel_rfl) ?_; conv => whnf) | (refine SeqOk.go ?_; conv => whnf))
      refine ⟨fun h3 => ?_, fun h3 => ?_⟩
      · have h3 : v.a < u.a := by simpa using h3
        conv => whnf
        repeat (first | (refine Conf.mk (by kernel_rfl) ?_; conv => whnf) | (refine SeqOk.go ?_; conv => whnf))
        subst hQ1
        conv => whnf
        exact Ret.to (by unfold withinP; rw [decide_eq_false (by omega : ¬ u.a ≤ v.a), Bool.false_and]; rfl)
      · have h3 : ¬ v.a < u.a := by simpa using h3
        conv => whnf
        repeat (first | (refine Conf.mk (by kernel_rfl) ?_; conv => whnf) | (refine SeqOk.go ?_; conv => whnf))
        exact Into.mono (Into.to [0] [(17, dInt (1 : Nat)), (16, u.arg), (3, .ptr 0 0)] [(0, .vars 27 2 [dInt v.a, dInt v.b] true)] (by repeat (first | exact trivial | refine ⟨.same (congrArg dInt (wrap_up (by omega))), ?_⟩ | refine ⟨.same rfl, ?_⟩ | refine ⟨.any _, ?_⟩)) ⟨⟨rfl, rfl, rfl, .same rfl, rfl, .same rfl, rfl, trivial⟩, trivial⟩ rfl rfl) fun s' h => ⟨1, by omega, 1, rfl, fun _ => by omega, by omega, h⟩
    · refine .mk 1 rfl (by decide) ?_
      conv => whnf
      repeat (first | (refine Conf.mk (by kernel_rfl) ?_; conv => whnf) | (refine SeqOk.go ?_; conv => whnf))
      refine .mk 1 rfl (by decide) ?_
      conv => whnf
      repeat (first | (refine Conf.mk (by kernel_rfl) ?_; conv => whnf) | (refine SeqOk.go ?_; conv => whnf))
      refine ⟨fun h3 => ?_, fun h3 => ?_⟩
      · have h3 : v.b < u.b := by simpa using h3
        conv => whnf
        repeat (first | (refine Conf.mk (by kernel_rfl) ?_; conv => whnf) | (refine SeqOk.go ?_; conv => whnf))
        subst hQ1
        conv => whnf
        exact Ret.to (by unfold withinP; rw [decide_eq_false (by omega : ¬ u.b ≤ v.b), Bool.and_false]; rfl)
      · have h3 : ¬ v.b < u.b := by simpa using h3
        conv => whnf
        repeat (first | (refine Conf.mk (by kernel_rfl) ?_; conv => whnf) | (refine SeqOk.go ?_; conv => whnf))
        exact Into.mono (Into.to [0] [(17, dInt (2 : Nat)), (16, u.arg), (3, .ptr 0 0)] [(0, .vars 27 2 [dInt v.a, dInt v.b] true)] (by repeat (first | exact trivial | refine ⟨.same (congrArg dInt (wrap_up (by omega))), ?_⟩ | refine ⟨.same rfl, ?_⟩ | refine ⟨.any _, ?_⟩)) ⟨⟨rfl, rfl, rfl, .same rfl, rfl, .same rfl, rfl, trivial⟩, trivial⟩ rfl rfl) fun s' h => ⟨0, by omega, 2, rfl, fun _ => hja (by omega), fun _ => by omega, h⟩
  · have hj : j = 2 := by have : (2 : Int) ≤ j := by simpa using h2
                          omega
    conv => whnf
    repeat (first | (refine Conf.mk (by kernel_rfl) ?_; conv => whnf) | (refine SeqOk.go ?_; conv => whnf))
    subst hQ1
    conv => whnf
    exact Ret.to (by unfold withinP; rw [decide_eq_true (hja (by omega)), decide_eq_true (hjb (by omega))]; rfl)
set_option maxHeartbeats 0 in
theorem checkVector_ok (v : Vec) : PCall Try.prog 31 [v.arg] (dInt (vecErr v)) := by
  have ha := between_ok v.a 0 20
  have hb := between_ok v.b 0 20
  have hk : v.ok = (isNum v.a && isNum v.b) := rfl
  refine pcall_cut tab_all tab_mixed Try.func31 (by kernel_rfl) Try.ntmps31 rfl ?_
  conv => whnf
  conv => whnf
  repeat (first | (refine Conf.mk (by kernel_rfl) ?_; conv => whnf) | (refine SeqOk.go ?_; conv => whnf))
  refine .mk 0 rfl (by decide) ?_
  conv => whnf
  repeat (first | (refine Conf.mk (by kernel_rfl) ?_; conv => whnf) | (refine SeqOk.go ?_; conv => whnf))
  refine .data _ _ ha rfl ?_
  conv => whnf
  repeat (first | (refine Conf.mk (by kernel_rfl) ?_; conv => whnf) | (refine SeqOk.go ?_; conv => whnf))
  refine ⟨fun h => ?_, fun h => ?_⟩
  · have h : isNum v.a = false := (Bool.not_eq_true' _).mp h
    conv => whnf
    repeat (first | (refine Conf.mk (by kernel_rfl) ?_; conv => whnf) | (refine SeqOk.go ?_; conv => whnf))
    exact Ret.int (by unfold vecErr; rw [hk, h]; rfl)
  · have h : isNum v.a = true := (Bool.not_eq_false' (b := isNum v.a)).mp h
    conv => whnf
    repeat (first | (refine Conf.mk (by kernel_rfl) ?_; conv => whnf) | (refine SeqOk.go ?_; conv => whnf))
    refine .mk 1 rfl (by decide) ?_
    conv => whnf
    repeat (first | (refine Conf.mk (by kernel_rfl) ?_; conv => whnf) | (refine SeqOk.go ?_; conv => whnf))
    refine .data _ _ hb rfl ?_
    conv => whnf
    repeat (first | (refine Conf.mk (by kernel_rfl) ?_; conv => whnf) | (refine SeqOk.go ?_; conv => whnf))
    refine ⟨fun h2 => ?_, fun h2 => ?_⟩
    · have h2 : isNum v.b = false := (Bool.not_eq_true' _).mp h2
      conv => whnf
      repeat (first | (refine Conf.mk (by kernel_rfl) ?_; conv => whnf) | (refine SeqOk.go ?_; conv => whnf))
      exact Ret.int (by unfold vecErr; rw [hk, h2, Bool.and_false]; rfl)
    · have h2 : isNum v.b = true := (Bool.not_eq_false' (b := isNum v.b)).mp h2
      conv => whnf
      repeat (first | (refine Conf.mk (by kernel_rfl) ?_; conv => whnf) | (refine SeqOk.go ?_; conv => whnf))
      exact Ret.int (by unfold vecErr; rw [hk, h, h2]; rfl)
end Go.Proofs.Ytlioojekjnigiae.AM
/- Clients: what a time has. -/
namespace Go.Proofs.Ytlioojekjnigiae.AM
set_option linter.unusedVariables false
set_option linter.unusedSimpArgs false

theorem indexFunc_idB {cl : Nat} {v : Vec} {ids : List Id} {p : Id → Bool} (hl : ids.length ≤ 140737488355327) (hcl : ∀ x ∈ ids, PCall Try.prog cl [v.arg, x.arg] (dBool (p x))) :
    PCall Try.prog 64 [.dat (.list (ids.map Id.enc)), .fn (.func cl) [v.arg] []] (dInt (idxOf (isIdx p ids 0))) := by
  refine pcall_cut tab_all tab_mixed Try.func64 (by kernel_rfl) Try.ntmps64 rfl ?_
  conv => whnf
  conv => whnf
  repeat (first | (refine Conf.mk (by kernel_rfl) ?_; conv => whnf) | (refine SeqOk.go ?_; conv => whnf))
  refine LoopOk.hide fun Q1 hQ1 => ?_
  refine LoopOk.mk (fun m s => ∃ i, i + m = ids.length ∧ isIdx p ids 0 = isIdx p (ids.drop i) i ∧ s = ⟨[(8, dInt i), (7, dInt (ids.map Id.enc).length), (1, .fn (.func cl) [v.arg] []), (0, .dat (.list (ids.map Id.enc)))], 0, []⟩) ids.length (Into.mono (Into.to [] [(8, dInt (0 : Nat)), (7, dInt (ids.map Id.enc).length), (1, .fn (.func cl) [v.arg] []), (0, .dat (.list (ids.map Id.enc)))] [] (by repeat (first | exact trivial | refine ⟨.same (congrArg dInt (wrap_up (by omega))), ?_⟩ | refine ⟨.same rfl, ?_⟩ | refine ⟨.any _, ?_⟩)) trivial rfl rfl) fun s' h => ⟨0, by omega, rfl, h⟩) ?_
  rintro m s ⟨i, hi, hp, rfl⟩
  conv => whnf
  repeat (first | (refine Conf.mk (by kernel_rfl) ?_; conv => whnf) | (refine SeqOk.go ?_; conv => whnf))
  refine ⟨fun h => ?_, fun h => ?_⟩
  · have hi' := lt_of_len h
    conv => whnf
    repeat (first | (refine Conf.mk (by kernel_rfl) ?_; conv => whnf) | (refine SeqOk.go ?_; conv => whnf))
    refine AtIdx.ofMap hi' rfl ?_
    conv => whnf
    repeat (first | (refine Conf.mk (by kernel_rfl) ?_; conv => whnf) | (refine SeqOk.go ?_; conv => whnf))
    refine .data _ _ (hcl ids[i] (List.getElem_mem hi')) rfl ?_
    conv => whnf
    repeat (first | (refine Conf.mk (by kernel_rfl) ?_; conv => whnf) | (refine SeqOk.go ?_; conv => whnf))
    rw [List.drop_eq_getElem_cons hi'] at hp
    refine ⟨fun h => ?_, fun h => ?_⟩
    · have h : p ids[i] = true := h
      conv => whnf
      repeat (first | (refine Conf.mk (by kernel_rfl) ?_; conv => whnf) | (refine SeqOk.go ?_; conv => whnf))
      subst hQ1
      conv => whnf
      exact Ret.int (by rw [hp]; simp [isIdx, h, idxOf])
    · have h : p ids[i] = false := h
      conv => whnf
      repeat (first | (refine Conf.mk (by kernel_rfl) ?_; conv => whnf) | (refine SeqOk.go ?_; conv => whnf))
      exact Into.mono (Into.to [] [(8, dInt (i + 1 : Nat)), (7, dInt (ids.map Id.enc).length), (1, .fn (.func cl) [v.arg] []), (0, .dat (.list (ids.map Id.enc)))] [] (by repeat (first | exact trivial | refine ⟨.same (congrArg dInt (wrap_up (by omega))), ?_⟩ | refine ⟨.same rfl, ?_⟩ | refine ⟨.any _, ?_⟩)) trivial rfl rfl) fun s' h' => ⟨m - 1, by omega, i + 1, by omega, by rw [hp]; simp [isIdx, h], h'⟩
  · conv => whnf
    repeat (first | (refine Conf.mk (by kernel_rfl) ?_; conv => whnf) | (refine SeqOk.go ?_; conv => whnf))
    subst hQ1
    conv => whnf
    exact Ret.int (by rw [hp, List.drop_eq_nil_of_le (ge_of_len h)]; rfl)
theorem containsFunc_idB {cl : Nat} {v : Vec} {ids : List Id} {p : Id → Bool} (hl : ids.length ≤ 140737488355327) (hcl : ∀ x ∈ ids, PCall Try.prog cl [v.arg, x.arg] (dBool (p x))) :
    PCall Try.prog 40 [.dat (.list (ids.map Id.enc)), .fn (.func cl) [v.arg] []] (dBool (ids.any p)) := by
  refine pcall_intro tab_all tab_mixed Try.func40 (by kernel_rfl) Try.ntmps40 rfl ?_
  conv => whnf
  refine .look _ _ (indexFunc_idB hl hcl) rfl rfl ?_
  conv => whnf
  exact Ret.bool (by rw [← idx_any p ids 0])
theorem lacks_ok (v : Vec) (x : Id) (hv : v.ok = true) (hx : x.ok = true) : PCall Try.prog 52 [v.arg, x.arg] (dBool (!inV v x)) := by
  refine pcall_cut tab_all tab_mixed Try.func52 (by kernel_rfl) Try.ntmps52 rfl ?_
  conv => whnf
  conv => whnf
  repeat (first | (refine Conf.mk (by kernel_rfl) ?_; conv => whnf) | (refine SeqOk.go ?_; conv => whnf))
  refine .data _ _ (VHas_ok v x hv hx) rfl ?_
  conv => whnf
  repeat (first | (refine Conf.mk (by kernel_rfl) ?_; conv => whnf) | (refine SeqOk.go ?_; conv => whnf))
  exact Ret.bool rfl
set_option maxHeartbeats 0 in
theorem entriesOf_ok (v : Vec) (hv : v.ok = true) {l : List Entry'} (hr : Right l) : PCall Try.prog 49 [v.arg, .dat (.list (l.map Entry'.enc))] (.dat (.list ((insideL l v).map Entry'.enc))) := by
  have hll := hr.len
  refine pcall_cut tab_all tab_mixed Try.func49 (by kernel_rfl) Try.ntmps49 rfl ?_
  conv => whnf
  conv => whnf
  repeat (first | (refine Conf.mk (by kernel_rfl) ?_; conv => whnf) | (refine SeqOk.go ?_; conv => whnf))
  refine LoopOk.hide fun Q1 hQ1 => ?_
  refine LoopOk.mk (fun m s => ∃ i, i + m = l.length ∧ s = ⟨[(10, dInt i), (9, dInt (l.map Entry'.enc).length), (8, .dat (.list (l.map Entry'.enc))), (2, .ptr 0 0), (5, .row 1)], 2, [(0, .vars 78 2 [dInt v.a, dInt v.b] true), (1, .rows 38 5 ((insideL (l.take i) v).map Entry'.enc) true)]⟩) l.length ((Into.row 5 38 5 rfl).trans fun s' hs' => by
    subst hs'
    exact Into.mono (Into.to [0, 1] [(10, dInt (0 : Nat)), (9, dInt (l.map Entry'.enc).length), (8, .dat (.list (l.map Entry'.enc))), (2, .ptr 0 0), (5, .row 1)] [(0, .vars 78 2 [dInt v.a, dInt v.b] true), (1, .rows 38 5 ((insideL (l.take 0) v).map Entry'.enc) true)] (by repeat (first | exact trivial | refine ⟨.same (congrArg dInt (wrap_up (by omega))), ?_⟩ | refine ⟨.same rfl, ?_⟩ | refine ⟨.any _, ?_⟩)) ⟨⟨rfl, rfl, rfl, .same rfl, rfl, .same rfl, rfl, trivial⟩, ⟨rfl, rfl, rfl, rfl⟩, trivial⟩ rfl rfl) fun s' h => ⟨0, by omega, h⟩) ?_
  rintro m s ⟨i, him, rfl⟩
  conv => whnf
  repeat (first | (refine Conf.mk (by kernel_rfl) ?_; conv => whnf) | (refine SeqOk.go ?_; conv => whnf))
  refine ⟨fun h => ?_, fun h => ?_⟩
  · have hi := lt_of_len h
    have hm := List.getElem_mem hi
    have hst : insideL (l.take (i + 1)) v = insideL (l.take i) v ++ if inV v l[i].id = true then [l[i]] else [] := by
      unfold insideL
      rw [take_succ' hi, List.filter_append]
      congr 1
      cases h : inV v l[i].id <;> simp [h]
    have hfl : (insideL (l.take i) v).length ≤ i := by
      have := List.length_filter_le (fun e : Entry' => inV v e.id) (l.take i)
      rw [List.length_take] at this
      show (List.filter _ _).length ≤ i
      omega
    conv => whnf
    repeat (first | (refine Conf.mk (by kernel_rfl) ?_; conv => whnf) | (refine SeqOk.go ?_; conv => whnf))
    refine AtIdx.ofMap hi rfl ?_
    conv => whnf
    repeat (first | (refine Conf.mk (by kernel_rfl) ?_; conv => whnf) | (refine SeqOk.go ?_; conv => whnf))
    refine .data _ _ (lacks_ok v l[i].id hv (hr.ok hm)) rfl ?_
    conv => whnf
    repeat (first | (refine Conf.mk (by kernel_rfl) ?_; conv => whnf) | (refine SeqOk.go ?_; conv => whnf))
    by_cases hb : inV v l[i].id = true
    · rw [if_pos hb] at hst
      have hrow : (insideL (l.take (i + 1)) v).map Entry'.enc = (insideL (l.take i) v).map Entry'.enc ++ [l[i].enc] := by rw [hst, List.map_append]; rfl
      refine BoolCase.yes (by rw [hb]; rfl) ?_
      conv => whnf
      repeat (first | (refine Conf.mk (by kernel_rfl) ?_; conv => whnf) | (refine SeqOk.go ?_; conv => whnf))
      refine ⟨by simp [Entry'.enc], by simp; omega, ?_⟩
      conv => whnf
      repeat (first | (refine Conf.mk (by kernel_rfl) ?_; conv => whnf) | (refine SeqOk.go ?_; conv => whnf))
      exact Into.mono (Into.to [0, 4] [(10, dInt (i + 1 : Nat)), (9, dInt (l.map Entry'.enc).length), (8, .dat (.list (l.map Entry'.enc))), (2, .ptr 0 0), (5, .row 1)] [(0, .vars 78 2 [dInt v.a, dInt v.b] true), (1, .rows 38 5 ((insideL (l.take (i + 1)) v).map Entry'.enc) true)] (by repeat (first | exact trivial | refine ⟨.same (congrArg dInt (wrap_up (by omega))), ?_⟩ | refine ⟨.same rfl, ?_⟩ | refine ⟨.any _, ?_⟩)) ⟨⟨rfl, rfl, rfl, .same rfl, rfl, .same rfl, rfl, trivial⟩, ⟨rfl, rfl, rfl, hrow⟩, trivial⟩ rfl rfl) fun s' h => ⟨m - 1, by omega, i + 1, by omega, h⟩
    · have hb : inV v l[i].id = false := by simpa using hb
      rw [hb, if_neg (by simp), List.append_nil] at hst
      refine BoolCase.no (by rw [hb]; rfl) ?_
      conv => whnf
      repeat (first | (refine Conf.mk (by kernel_rfl) ?_; conv => whnf) | (refine SeqOk.go ?_; conv => whnf))
      exact Into.mono (Into.to [0, 1] [(10, dInt (i + 1 : Nat)), (9, dInt (l.map Entry'.enc).length), (8, .dat (.list (l.map Entry'.enc))), (2, .ptr 0 0), (5, .row 1)] [(0, .vars 78 2 [dInt v.a, dInt v.b] true), (1, .rows 38 5 ((insideL (l.take (i + 1)) v).map Entry'.enc) true)] (by repeat (first | exact trivial | refine ⟨.same (congrArg dInt (wrap_up (by omega))), ?_⟩ | refine ⟨.same rfl, ?_⟩ | refine ⟨.any _, ?_⟩)) ⟨⟨rfl, rfl, rfl, .same rfl, rfl, .same rfl, rfl, trivial⟩, ⟨rfl, rfl, rfl, by rw [hst]⟩, trivial⟩ rfl rfl) fun s' h => ⟨m - 1, by omega, i + 1, by omega, h⟩
  · have hi : i = l.length := by have := ge_of_len h; omega
    subst hi
    conv => whnf
    repeat (first | (refine Conf.mk (by kernel_rfl) ?_; conv => whnf) | (refine SeqOk.go ?_; conv => whnf))
    subst hQ1
    conv => whnf
    exact Ret.to (by rw [List.take_length])
theorem hasLinks1_ok (v : Vec) (hv : v.ok = true) (e : Entry') (he : e.err = 0) (hk : ∀ x ∈ e.links, x.ok = true) : PCall Try.prog 74 [e.arg, .dat (.ptr v.enc)] (dBool (e.links.any fun x => !inV v x)) := by
  have h6 := (six_of he).2
  refine pcall_cut tab_all tab_mixed Try.func74 (by kernel_rfl) Try.ntmps74 rfl ?_
  conv => whnf
  conv => whnf
  repeat (first | (refine Conf.mk (by kernel_rfl) ?_; conv => whnf) | (refine SeqOk.go ?_; conv => whnf))
  refine .look _ _ (containsFunc_idB (by omega) fun x hx => lacks_ok v x hv (hk x hx)) rfl rfl ?_
  conv => whnf
  repeat (first | (refine Conf.mk (by kernel_rfl) ?_; conv => whnf) | (refine SeqOk.go ?_; conv => whnf))
  exact Ret.bool rfl
theorem Right.linkOk {l : List Entry'} (hr : Right l) {e : Entry'} (he : e ∈ l) {x : Id} (hx : x ∈ e.links) : x.ok = true := by
  obtain ⟨f, hf, rfl⟩ := hr.links he hx
  exact hr.ok hf
theorem not_any_notB {α : Type} (p : α → Bool) (l : List α) : (!l.any fun x => !p x) = l.all p := by rw [List.not_any_eq_all_not]; simp
theorem not_any_any (v : Vec) : ∀ l : List Entry', (!l.any fun e => e.links.any fun x => !inV v x) = l.all fun e => e.links.all (inV v)
  | [] => rfl
  | e :: t => by
    rw [List.any_cons, List.all_cons, Bool.not_or, not_any_any v t, not_any_notB]
theorem hasLinks_ok (v : Vec) (hv : v.ok = true) {l : List Entry'} (hr : Right l) : PCall Try.prog 51 [v.arg, .dat (.list ((insideL l v).map Entry'.enc))] (dBool (linksIn l v)) := by
  have hll := hr.len
  have hfl : (insideL l v).length ≤ l.length := List.length_filter_le _ _
  refine pcall_cut tab_all tab_mixed Try.func51 (by kernel_rfl) Try.ntmps51 rfl ?_
  conv => whnf
  conv => whnf
  repeat (first | (refine Conf.mk (by kernel_rfl) ?_; conv => whnf) | (refine SeqOk.go ?_; conv => whnf))
  refine .look _ _ (containsFunc_entry (by omega) fun e he => hasLinks1_ok v hv e (hr.mem (mem_inside.1 he).1) fun x hx => hr.linkOk (mem_inside.1 he).1 hx) rfl rfl ?_
  conv => whnf
  repeat (first | (refine Conf.mk (by kernel_rfl) ?_; conv => whnf) | (refine SeqOk.go ?_; conv => whnf))
  exact Ret.bool (not_any_any v _)
def counts (l : List Entry') : Vec := ⟨cnt 0 l, cnt 1 l⟩
theorem counts_ok {l : List Entry'} (hr : Right l) : (counts l).ok = true := by
  have h0 := hr.cnt_twenty 0
  have h1 := hr.cnt_twenty 1
  show (decide (0 ≤ (cnt 0 l : Int)) && decide ((cnt 0 l : Int) ≤ 20) && (decide (0 ≤ (cnt 1 l : Int)) && decide ((cnt 1 l : Int) ≤ 20))) = true
  rw [decide_eq_true (by omega : 0 ≤ (cnt 0 l : Int)), decide_eq_true (by omega : (cnt 0 l : Int) ≤ 20), decide_eq_true (by omega : 0 ≤ (cnt 1 l : Int)), decide_eq_true (by omega : (cnt 1 l : Int) ≤ 20)]
  rfl
theorem reaches_ok (c : Int) (ds : List (List D)) {l : List Entry'} (hr : Right l) (v : Vec) (hv : v.ok = true) : PCall Try.prog 50 [.dat (.ptr [.int .i64 c, .list ds, .list (l.map Entry'.enc)]), v.arg] (dBool (withinP v (counts l))) := by
  have hc := Count_ok l hr.logOk
  rw [show countA l = (counts l).arg by unfold countA cntv; rw [if_pos (right_iff.2 hr), if_pos (right_iff.2 hr)]; rfl] at hc
  refine pcall_cut tab_all tab_mixed Try.func50 (by kernel_rfl) Try.ntmps50 rfl ?_
  conv => whnf
  conv => whnf
  repeat (first | (refine Conf.mk (by kernel_rfl) ?_; conv => whnf) | (refine SeqOk.go ?_; conv => whnf))
  refine .data _ _ hc rfl ?_
  conv => whnf
  repeat (first | (refine Conf.mk (by kernel_rfl) ?_; conv => whnf) | (refine SeqOk.go ?_; conv => whnf))
  refine .data _ _ (VWithin_ok v (counts l) hv (counts_ok hr)) rfl ?_
  conv => whnf
  repeat (first | (refine Conf.mk (by kernel_rfl) ?_; conv => whnf) | (refine SeqOk.go ?_; conv => whnf))
  exact Ret.bool rfl
end Go.Proofs.Ytlioojekjnigiae.AM
/- Clients: Play, Texts. -/
namespace Go.Proofs.Ytlioojekjnigiae.AM
set_option linter.unusedVariables false
set_option linter.unusedSimpArgs false
/-- May it be played to a time? -/
def mayPlay (l : List Entry') (ids : List Id) (v : Vec) : Bool := withinP v (counts l) && (linksIn l v && ids.all (inV v))
theorem mayPlay_iff {l : List Entry'} {ids : List Id} {v : Vec} : mayPlay l ids v = true ↔ withinP v (counts l) = true ∧ linksIn l v = true ∧ ∀ x ∈ ids, inV v x = true := by
  unfold mayPlay
  rw [Bool.and_eq_true, Bool.and_eq_true, List.all_eq_true]
set_option maxHeartbeats 0 in
theorem rplay_no {l : List Entry'} {c : Int} {ids : List Id} (hb : begunErr l c ids = 0) (v : Vec) (hv : v.ok = true) (hm : mayPlay l ids v = false) : ECall Try.prog 24 [.ptr 0 0, v.arg] [(0, .vars 58 3 [dInt c, .dat (.list (ids.map Id.enc)), .dat (.list (l.map Entry'.enc))] true)] 1 (dInt 4) [(0, .vars 58 3 [dInt c, .dat (.list (ids.map Id.enc)), .dat (.list (l.map Entry'.enc))] true)] 0 := by
  obtain ⟨hr, hc, hin, hnd, hp⟩ := begun_facts hb
  have hll := hr.len
  have hil := ids_len hin hnd
  have hok : ∀ x ∈ ids, x.ok = true := fun x hx => by
    obtain ⟨e, he, rfl⟩ := hin x hx
    exact hr.ok he
  have hre := reaches_ok c (ids.map Id.enc) hr v hv
  have hlk := hasLinks_ok v hv hr
  have hcf := containsFunc_idB (ids := ids) (by omega) fun x hx => lacks_ok v x hv (hok x hx)
  refine acall_cut tab_all tab_mixed Try.func24 (by kernel_rfl) Try.ntmps24 rfl ?_
  conv => whnf
  conv => whnf
  repeat (first | (refine Conf.mk (by kernel_rfl) ?_; conv => whnf) | (refine SeqOk.go ?_; conv => whnf))
  refine .data _ _ (entriesOf_ok v hv hr) rfl ?_
  conv => whnf
  repeat (first | (refine Conf.mk (by kernel_rfl) ?_; conv => whnf) | (refine SeqOk.go ?_; conv => whnf))
  refine .look _ _ hre rfl rfl ?_
  conv => whnf
  repeat (first | (refine Conf.mk (by kernel_rfl) ?_; conv => whnf) | (refine SeqOk.go ?_; conv => whnf))
  by_cases h1 : withinP v (counts l) = true
  · refine BoolCase.no (by rw [h1]; rfl) ?_
    conv => whnf
    repeat (first | (refine Conf.mk (by kernel_rfl) ?_; conv => whnf) | (refine SeqOk.go ?_; conv => whnf))
    refine .data _ _ hlk rfl ?_
    conv => whnf
    repeat (first | (refine Conf.mk (by kernel_rfl) ?_; conv => whnf) | (refine SeqOk.go ?_; conv => whnf))
    by_cases h2 : linksIn l v = true
    · refine BoolCase.no (by rw [h2]; rfl) ?_
      conv => whnf
      repeat (first | (refine Conf.mk (by kernel_rfl) ?_; conv => whnf) | (refine SeqOk.go ?_; conv => whnf))
      refine .look _ _ hcf rfl rfl ?_
      conv => whnf
      repeat (first | (refine Conf.mk (by kernel_rfl) ?_; conv => whnf) | (refine SeqOk.go ?_; conv => whnf))
      have h3 : (ids.any fun x => !inV v x) = true := by
        cases h3 : (ids.any fun x => !inV v x) with
        | true => rfl
        | false =>
          have : ids.all (inV v) = true := by rw [← not_any_notB, h3]; rfl
          unfold mayPlay at hm
          rw [h1, h2, this] at hm
          cases hm
      refine BoolCase.yes h3 ?_
      conv => whnf
      repeat (first | (refine Conf.mk (by kernel_rfl) ?_; conv => whnf) | (refine SeqOk.go ?_; conv => whnf))
      exact .mk [] [0] (dInt 4) [(0, .vars 58 3 [dInt c, .dat (.list (ids.map Id.enc)), .dat (.list (l.map Entry'.enc))] true)] rfl (.same rfl) ⟨⟨rfl, rfl, rfl, .same rfl, rfl, .same rfl, rfl, .same rfl, rfl, trivial⟩, trivial⟩ rfl rfl ⟨rfl, rfl, rfl⟩
    · refine BoolCase.yes (by simpa using h2) ?_
      conv => whnf
      repeat (first | (refine Conf.mk (by kernel_rfl) ?_; conv => whnf) | (refine SeqOk.go ?_; conv => whnf))
      exact .mk [] [0] (dInt 4) [(0, .vars 58 3 [dInt c, .dat (.list (ids.map Id.enc)), .dat (.list (l.map Entry'.enc))] true)] rfl (.same rfl) ⟨⟨rfl, rfl, rfl, .same rfl, rfl, .same rfl, rfl, .same rfl, rfl, trivial⟩, trivial⟩ rfl rfl ⟨rfl, rfl, rfl⟩
  · refine BoolCase.yes (by simpa using h1) ?_
    conv => whnf
    repeat (first | (refine Conf.mk (by kernel_rfl) ?_; conv => whnf) | (refine SeqOk.go ?_; conv => whnf))
    exact .mk [] [0] (dInt 4) [(0, .vars 58 3 [dInt c, .dat (.list (ids.map Id.enc)), .dat (.list (l.map Entry'.enc))] true)] rfl (.same rfl) ⟨⟨rfl, rfl, rfl, .same rfl, rfl, .same rfl, rfl, .same rfl, rfl, trivial⟩, trivial⟩ rfl rfl ⟨rfl, rfl, rfl⟩
set_option maxHeartbeats 0 in
theorem rplay_ok {l : List Entry'} {c : Int} {ids : List Id} (hb : begunErr l c ids = 0) (v : Vec) (hv : v.ok = true) (hm : mayPlay l ids v = true) : ECall Try.prog 24 [.ptr 0 0, v.arg] [(0, .vars 58 3 [dInt c, .dat (.list (ids.map Id.enc)), .dat (.list (l.map Entry'.enc))] true)] 1 (dInt 0) [(0, .vars 58 3 [dInt c, .dat (.list ((moreOf (insideL l v) c ids).map Id.enc)), .dat (.list (l.map Entry'.enc))] true)] 0 := by
  obtain ⟨hr, hc, hin, hnd, hp⟩ := begun_facts hb
  obtain ⟨h1, h2, h3⟩ := mayPlay_iff.1 hm
  have hll := hr.len
  have hil := ids_len hin hnd
  have hok : ∀ x ∈ ids, x.ok = true := fun x hx => by
    obtain ⟨e, he, rfl⟩ := hin x hx
    exact hr.ok he
  have hre := reaches_ok c (ids.map Id.enc) hr v hv
  rw [h1] at hre
  have hlk := hasLinks_ok v hv hr
  rw [h2] at hlk
  have hcf := containsFunc_idB (ids := ids) (by omega) fun x hx => lacks_ok v x hv (hok x hx)
  have h4 : (ids.any fun x => !inV v x) = false := by
    have := not_any_notB (inV v) ids
    rw [List.all_eq_true.2 h3] at this
    simpa using this
  rw [h4] at hcf
  have hbi := begun_inside hb h2 h3
  have hmo := more_ok (insideL l v) (hr.inside h2).logOk c ids (by omega)
  rw [show moreAns (insideL l v) c ids = moreOf (insideL l v) c ids by unfold moreAns; rw [if_pos hbi], hbi] at hmo
  refine acall_cut tab_all tab_mixed Try.func24 (by kernel_rfl) Try.ntmps24 rfl ?_
  conv => whnf
  conv => whnf
  repeat (first | (refine Conf.mk (by kernel_rfl) ?_; conv => whnf) | (refine SeqOk.go ?_; conv => whnf))
  refine .data _ _ (entriesOf_ok v hv hr) rfl ?_
  conv => whnf
  repeat (first | (refine Conf.mk (by kernel_rfl) ?_; conv => whnf) | (refine SeqOk.go ?_; conv => whnf))
  refine .look _ _ hre.kb rfl rfl ?_
  conv => whnf
  repeat (first | (refine Conf.mk (by kernel_rfl) ?_; conv => whnf) | (refine SeqOk.go ?_; conv => whnf))
  refine .data _ _ hlk.kb rfl ?_
  conv => whnf
  repeat (first | (refine Conf.mk (by kernel_rfl) ?_; conv => whnf) | (refine SeqOk.go ?_; conv => whnf))
  refine .look _ _ hcf.kb rfl rfl ?_
  conv => whnf
  repeat (first | (refine Conf.mk (by kernel_rfl) ?_; conv => whnf) | (refine SeqOk.go ?_; conv => whnf))
  refine .data _ _ hmo rfl ?_
  conv => whnf
  repeat (first | (refine Conf.mk (by kernel_rfl) ?_; conv => whnf) | (refine SeqOk.go ?_; conv => whnf))
  exact .mk [] [0] (dInt 0) [(0, .vars 58 3 [dInt c, .dat (.list ((moreOf (insideL l v) c ids).map Id.enc)), .dat (.list (l.map Entry'.enc))] true)] rfl (.same rfl) ⟨⟨rfl, rfl, rfl, .same rfl, rfl, .same rfl, rfl, .same rfl, rfl, trivial⟩, trivial⟩ rfl rfl ⟨rfl, rfl, rfl⟩
structure Client' where
  colors : Int
  played : List Id
def Client'.arg (c : Client') : AVal := .agg [dInt c.colors, .dat (.list (c.played.map Id.enc))]
/-- What is wrong where one plays to a time. -/
def playErr (l : List Entry') (c : Client') (v : Vec) : Int :=
  if begunErr l c.colors c.played ≠ 0 then begunErr l c.colors c.played else if v.ok = false then 3 else if mayPlay l c.played v = false then 4 else 0
def playAns (l : List Entry') (c : Client') (v : Vec) : Client' := if playErr l c v = 0 then ⟨c.colors, moreOf (insideL l v) c.colors c.played⟩ else ⟨0, []⟩
theorem playErr_zero {l : List Entry'} {c : Client'} {v : Vec} (h : playErr l c v = 0) : begunErr l c.colors c.played = 0 ∧ v.ok = true ∧ mayPlay l c.played v = true := by
  unfold playErr at h
  split at h
  · rename_i h1; exact absurd h h1
  · rename_i h1
    split at h
    · cases h
    · rename_i h2
      split at h
      · cases h
      · rename_i h3; exact ⟨by simpa using h1, by simpa using h2, by simpa using h3⟩
set_option maxHeartbeats 0 in
theorem clientCheck_ok (l : List Entry') (hl : LogOk l) (c : Client') (hi : c.played.length ≤ 140737488355326) : PCall Try.prog 12 [.dat (.list (l.map Entry'.enc)), c.arg] (dInt (begunErr l c.colors c.played)) := by
  refine pcall_cut tab_all tab_mixed Try.func12 (by kernel_rfl) Try.ntmps12 rfl ?_
  conv => whnf
  conv => whnf
  repeat (first | (refine Conf.mk (by kernel_rfl) ?_; conv => whnf) | (refine SeqOk.go ?_; conv => whnf))
  refine .data _ _ (more_ok l hl c.colors c.played hi) rfl ?_
  conv => whnf
  repeat (first | (refine Conf.mk (by kernel_rfl) ?_; conv => whnf) | (refine SeqOk.go ?_; conv => whnf))
  exact Ret.int rfl
set_option maxHeartbeats 0 in
theorem clientPlay_ok (l : List Entry') (hl : LogOk l) (c : Client') (hi : c.played.length ≤ 140737488355326) (v : Vec) : PCall Try.prog 6 [.dat (.list (l.map Entry'.enc)), c.arg, v.arg] (.tup [(playAns l c v).arg, dInt (playErr l c v)]) := by
  refine pcall_cut tab_all tab_mixed Try.func6 (by kernel_rfl) Try.ntmps6 rfl ?_
  conv => whnf
  conv => whnf
  repeat (first | (refine Conf.mk (by kernel_rfl) ?_; conv => whnf) | (refine SeqOk.go ?_; conv => whnf))
  refine .data _ _ (clientCheck_ok l hl c hi) rfl ?_
  conv => whnf
  repeat (first | (refine Conf.mk (by kernel_rfl) ?_; conv => whnf) | (refine SeqOk.go ?_; conv => whnf))
  by_cases h1 : begunErr l c.colors c.played = 0
  · refine BoolCase.no (by simp [h1]) ?_
    conv => whnf
    repeat (first | (refine Conf.mk (by kernel_rfl) ?_; conv => whnf) | (refine SeqOk.go ?_; conv => whnf))
    refine .data _ _ (VCheck_ok v) rfl ?_
    conv => whnf
    repeat (first | (refine Conf.mk (by kernel_rfl) ?_; conv => whnf) | (refine SeqOk.go ?_; conv => whnf))
    by_cases h2 : v.ok = true
    · have hve : vecErr v = 0 := by unfold vecErr; rw [if_pos h2]
      refine BoolCase.no (by simp [hve]) ?_
      conv => whnf
      repeat (first | (refine Conf.mk (by kernel_rfl) ?_; conv => whnf) | (refine SeqOk.go ?_; conv => whnf))
      by_cases h3 : mayPlay l c.played v = true
      · have hE : playErr l c v = 0 := by unfold playErr; rw [if_neg (by simp [h1]), if_neg (by simp [h2]), if_neg (by simp [h3])]
        have hA : playAns l c v = ⟨c.colors, moreOf (insideL l v) c.colors c.played⟩ := by unfold playAns; rw [if_pos hE]
        refine .eff [3] _ _ _ _ 0 (rplay_ok h1 v h2 h3) rfl rfl rfl rfl rfl ?_
        conv => whnf
        repeat (first | (refine Conf.mk (by kernel_rfl) ?_; conv => whnf) | (refine SeqOk.go ?_; conv => whnf))
        refine BoolCase.no rfl ?_
        conv => whnf
        repeat (first | (refine Conf.mk (by kernel_rfl) ?_; conv => whnf) | (refine SeqOk.go ?_; conv => whnf))
        exact Ret.to (by rw [hE, hA]; rfl)
      · have h3 : mayPlay l c.played v = false := by simpa using h3
        have hE : playErr l c v = 4 := by unfold playErr; rw [if_neg (by simp [h1]), if_neg (by simp [h2]), if_pos h3]
        have hA : playAns l c v = ⟨0, []⟩ := by unfold playAns; rw [if_neg (by rw [hE]; decide)]
        refine .eff [3] _ _ _ _ 0 (rplay_no h1 v h2 h3) rfl rfl rfl rfl rfl ?_
        conv => whnf
        repeat (first | (refine Conf.mk (by kernel_rfl) ?_; conv => whnf) | (refine SeqOk.go ?_; conv => whnf))
        refine BoolCase.yes rfl ?_
        conv => whnf
        repeat (first | (refine Conf.mk (by kernel_rfl) ?_; conv => whnf) | (refine SeqOk.go ?_; conv => whnf))
        exact Ret.to (by rw [hE, hA]; rfl)
    · have hve : vecErr v = 3 := by unfold vecErr; rw [if_neg h2]
      have hE : playErr l c v = 3 := by unfold playErr; rw [if_neg (by simp [h1]), if_pos (by simpa using h2)]
      have hA : playAns l c v = ⟨0, []⟩ := by unfold playAns; rw [if_neg (by rw [hE]; decide)]
      refine BoolCase.yes (by simp [hve]) ?_
      conv => whnf
      repeat (first | (refine Conf.mk (by kernel_rfl) ?_; conv => whnf) | (refine SeqOk.go ?_; conv => whnf))
      exact Ret.to (by rw [hE, hA, hve]; rfl)
  · have hE : playErr l c v = begunErr l c.colors c.played := by unfold playErr; rw [if_pos h1]
    have hA : playAns l c v = ⟨0, []⟩ := by unfold playAns; rw [if_neg (by rw [hE]; exact h1)]
    refine BoolCase.yes (by simp [h1]) ?_
    conv => whnf
    repeat (first | (refine Conf.mk (by kernel_rfl) ?_; conv => whnf) | (refine SeqOk.go ?_; conv => whnf))
    exact Ret.to (by rw [hE, hA]; rfl)
end Go.Proofs.Ytlioojekjnigiae.AM
/- Clients: texts; the same ones. -/
namespace Go.Proofs.Ytlioojekjnigiae.AM
set_option linter.unusedVariables false
set_option linter.unusedSimpArgs false

def strEnc (s : ByteArray) : List D := [.str s]
def textAt (l : List Entry') (x : Id) : ByteArray := match idx l x with
  | some j => (l[j]?.map (·.text)).getD ByteArray.empty
  | none => ByteArray.empty
def textsOf (l : List Entry') (ids : List Id) : List ByteArray := ids.map (textAt l)
theorem idx_there {l : List Entry'} {x : Id} (h : ∃ e ∈ l, e.id = x) : ∃ j, ∃ hj : j < l.length, idx l x = some j ∧ textAt l x = l[j].text := by
  cases hx : idx l x with
  | none =>
    obtain ⟨e, he, h⟩ := h
    exact absurd h (idx_none.1 hx e he)
  | some j =>
    obtain ⟨hj, hjx⟩ := idx_some hx
    exact ⟨j, hj, rfl, by unfold textAt; rw [hx]; simp [List.getElem?_eq_getElem hj]⟩
theorem texts1_ok (x : Id) (e : Entry') : PCall Try.prog 54 [e.arg, .dat (.ptr x.enc)] (dBool (isThe x e)) := by
  refine pcall_intro tab_all tab_mixed Try.func54 (by kernel_rfl) Try.ntmps54 rfl ?_
  conv => whnf
  exact Ret.bool rfl
set_option maxHeartbeats 0 in
theorem rtexts_ok (c : Int) {l : List Entry'} {ids : List Id} (hl : l.length ≤ 1000) (hi : ids.length ≤ 1000) (hin : ∀ x ∈ ids, ∃ e ∈ l, e.id = x) : PCall Try.prog 25 [.dat (.ptr [.int .i64 c, .list (ids.map Id.enc), .list (l.map Entry'.enc)])] (.dat (.list ((textsOf l ids).map strEnc))) := by
  refine pcall_cut tab_all tab_mixed Try.func25 (by kernel_rfl) Try.ntmps25 rfl ?_
  conv => whnf
  conv => whnf
  repeat (first | (refine Conf.mk (by kernel_rfl) ?_; conv => whnf) | (refine SeqOk.go ?_; conv => whnf))
  refine LoopOk.hide fun Q1 hQ1 => ?_
  refine LoopOk.mk (fun m s => ∃ i, i + m = ids.length ∧ s = ⟨[(13, dInt i), (12, dInt (ids.map Id.enc).length), (11, .dat (.list (ids.map Id.enc))), (0, .dat (.ptr [.int .i64 c, .list (ids.map Id.enc), .list (l.map Entry'.enc)])), (3, .row 0)], 1, [(0, .rows 9 1 ((textsOf l (ids.take i)).map strEnc) true)]⟩) ids.length ((Into.row 3 9 1 rfl).trans fun s' hs' => by
    subst hs'
    exact Into.mono (Into.to [0] [(13, dInt (0 : Nat)), (12, dInt (ids.map Id.enc).length), (11, .dat (.list (ids.map Id.enc))), (0, .dat (.ptr [.int .i64 c, .list (ids.map Id.enc), .list (l.map Entry'.enc)])), (3, .row 0)] [(0, .rows 9 1 ((textsOf l (ids.take 0)).map strEnc) true)] (by repeat (first | exact trivial | refine ⟨.same (congrArg dInt (wrap_up (by omega))), ?_⟩ | refine ⟨.same rfl, ?_⟩ | refine ⟨.any _, ?_⟩)) ⟨⟨rfl, rfl, rfl, rfl⟩, trivial⟩ rfl rfl) fun s' h => ⟨0, by omega, h⟩) ?_
  rintro m s ⟨i, him, rfl⟩
  conv => whnf
  repeat (first | (refine Conf.mk (by kernel_rfl) ?_; conv => whnf) | (refine SeqOk.go ?_; conv => whnf))
  refine ⟨fun h => ?_, fun h => ?_⟩
  · have hi' := lt_of_len h
    obtain ⟨j, hj, hjx, hjt⟩ := idx_there (hin _ (List.getElem_mem hi'))
    have hif := indexFunc_entry (l := l) (p := isThe ids[i]) (by omega) fun e _ => texts1_ok ids[i] e
    rw [show isIdx (isThe ids[i]) l 0 = some j from hjx] at hif
    have hrow : (textsOf l (ids.take (i + 1))).map strEnc = (textsOf l (ids.take i)).map strEnc ++ [[.str l[j].text]] := by
      unfold textsOf
      rw [take_succ' hi', List.map_append, List.map_append, List.map_singleton, List.map_singleton, hjt]
      rfl
    have htl : (textsOf l (ids.take i)).length ≤ i := by unfold textsOf; simp; omega
    conv => whnf
    repeat (first | (refine Conf.mk (by kernel_rfl) ?_; conv => whnf) | (refine SeqOk.go ?_; conv => whnf))
    refine AtIdx.ofMap hi' rfl ?_
    conv => whnf
    repeat (first | (refine Conf.mk (by kernel_rfl) ?_; conv => whnf) | (refine SeqOk.go ?_; conv => whnf))
    refine .look _ _ hif rfl rfl ?_
    conv => whnf
    repeat (first | (refine Conf.mk (by kernel_rfl) ?_; conv => whnf) | (refine SeqOk.go ?_; conv => whnf))
    refine AtIdx.ofMap hj rfl ?_
    conv => whnf
    repeat (first | (refine Conf.mk (by kernel_rfl) ?_; conv => whnf) | (refine SeqOk.go ?_; conv => whnf))
    refine ⟨by simp, by simp; omega, ?_⟩
    conv => whnf
    repeat (first | (refine Conf.mk (by kernel_rfl) ?_; conv => whnf) | (refine SeqOk.go ?_; conv => whnf))
    exact Into.mono (Into.to [3] [(13, dInt (i + 1 : Nat)), (12, dInt (ids.map Id.enc).length), (11, .dat (.list (ids.map Id.enc))), (0, .dat (.ptr [.int .i64 c, .list (ids.map Id.enc), .list (l.map Entry'.enc)])), (3, .row 0)] [(0, .rows 9 1 ((textsOf l (ids.take (i + 1))).map strEnc) true)] (by repeat (first | exact trivial | refine ⟨.same (congrArg dInt (wrap_up (by omega))), ?_⟩ | refine ⟨.same rfl, ?_⟩ | refine ⟨.any _, ?_⟩)) ⟨⟨rfl, rfl, rfl, hrow⟩, trivial⟩ rfl rfl) fun s' h => ⟨m - 1, by omega, i + 1, by omega, h⟩
  · have hk : i = ids.length := by have := ge_of_len h; omega
    subst hk
    conv => whnf
    repeat (first | (refine Conf.mk (by kernel_rfl) ?_; conv => whnf) | (refine SeqOk.go ?_; conv => whnf))
    subst hQ1
    conv => whnf
    exact Ret.to (by rw [List.take_length])
/-- The texts, or none where something is wrong. -/
def textsAns (l : List Entry') (c : Client') : List ByteArray := if begunErr l c.colors c.played = 0 then textsOf l c.played else []
set_option maxHeartbeats 0 in
theorem clientTexts_ok (l : List Entry') (hl : LogOk l) (c : Client') (hi : c.played.length ≤ 140737488355326) : PCall Try.prog 7 [.dat (.list (l.map Entry'.enc)), c.arg] (.tup [.dat (.list ((textsAns l c).map strEnc)), dInt (begunErr l c.colors c.played)]) := by
  refine pcall_cut tab_all tab_mixed Try.func7 (by kernel_rfl) Try.ntmps7 rfl ?_
  conv => whnf
  conv => whnf
  repeat (first | (refine Conf.mk (by kernel_rfl) ?_; conv => whnf) | (refine SeqOk.go ?_; conv => whnf))
  refine .data _ _ (clientCheck_ok l hl c hi) rfl ?_
  conv => whnf
  repeat (first | (refine Conf.mk (by kernel_rfl) ?_; conv => whnf) | (refine SeqOk.go ?_; conv => whnf))
  by_cases h1 : begunErr l c.colors c.played = 0
  · obtain ⟨hr, hc, hin, hnd, hp⟩ := begun_facts h1
    have hll := hr.len
    have hil := ids_len hin hnd
    have ht := rtexts_ok c.colors (by omega) (by omega) hin
    refine BoolCase.no (by simp [h1]) ?_
    conv => whnf
    repeat (first | (refine Conf.mk (by kernel_rfl) ?_; conv => whnf) | (refine SeqOk.go ?_; conv => whnf))
    refine .keep [1] _ _ ht rfl rfl rfl rfl ?_
    conv => whnf
    repeat (first | (refine Conf.mk (by kernel_rfl) ?_; conv => whnf) | (refine SeqOk.go ?_; conv => whnf))
    exact Ret.to (by unfold textsAns; rw [if_pos h1, h1]; rfl)
  · refine BoolCase.yes (by simp [h1]) ?_
    conv => whnf
    repeat (first | (refine Conf.mk (by kernel_rfl) ?_; conv => whnf) | (refine SeqOk.go ?_; conv => whnf))
    exact Ret.to (by unfold textsAns; rw [if_neg h1]; rfl)
set_option maxHeartbeats 0 in
theorem sameTexts_kb (a : List ByteArray) (h : a.length ≤ 140737488355327) : PCall Try.prog 14 [.dat (.list (a.map strEnc)), .dat (.list (a.map strEnc))] (.kb true) := by
  refine PCall.kb ?_
  refine pcall_cut tab_all tab_mixed Try.func14 (by kernel_rfl) Try.ntmps14 rfl ?_
  conv => whnf
  conv => whnf
  repeat (first | (refine Conf.mk (by kernel_rfl) ?_; conv => whnf) | (refine SeqOk.go ?_; conv => whnf))
  refine BoolCase.no (by simp) ?_
  conv => whnf
  repeat (first | (refine Conf.mk (by kernel_rfl) ?_; conv => whnf) | (refine SeqOk.go ?_; conv => whnf))
  refine LoopOk.hide fun Q1 hQ1 => ?_
  refine LoopOk.mk (fun m s => ∃ i, i + m = a.length ∧ s = ⟨[(5, dInt i), (0, .dat (.list (a.map strEnc))), (1, .dat (.list (a.map strEnc)))], 0, []⟩) a.length (Into.mono (Into.to [] [(5, dInt (0 : Nat)), (0, .dat (.list (a.map strEnc))), (1, .dat (.list (a.map strEnc)))] [] (by repeat (first | exact trivial | refine ⟨.same (congrArg dInt (wrap_up (by omega))), ?_⟩ | refine ⟨.same rfl, ?_⟩ | refine ⟨.any _, ?_⟩)) trivial rfl rfl) fun s' h => ⟨0, by omega, h⟩) ?_
  rintro m s ⟨i, him, rfl⟩
  conv => whnf
  repeat (first | (refine Conf.mk (by kernel_rfl) ?_; conv => whnf) | (refine SeqOk.go ?_; conv => whnf))
  refine ⟨fun h => ?_, fun h => ?_⟩
  · have hi' := lt_of_len h
    conv => whnf
    repeat (first | (refine Conf.mk (by kernel_rfl) ?_; conv => whnf) | (refine SeqOk.go ?_; conv => whnf))
    refine AtIdx.ofMap hi' rfl ?_
    conv => whnf
    repeat (first | (refine Conf.mk (by kernel_rfl) ?_; conv => whnf) | (refine SeqOk.go ?_; conv => whnf))
    refine AtIdx.ofMap hi' rfl ?_
    conv => whnf
    repeat (first | (refine Conf.mk (by kernel_rfl) ?_; conv => whnf) | (refine SeqOk.go ?_; conv => whnf))
    refine BoolCase.no (by simp) ?_
    conv => whnf
    repeat (first | (refine Conf.mk (by kernel_rfl) ?_; conv => whnf) | (refine SeqOk.go ?_; conv => whnf))
    exact Into.mono (Into.to [] [(5, dInt (i + 1 : Nat)), (0, .dat (.list (a.map strEnc))), (1, .dat (.list (a.map strEnc)))] [] (by repeat (first | exact trivial | refine ⟨.same (congrArg dInt (wrap_up (by omega))), ?_⟩ | refine ⟨.same rfl, ?_⟩ | refine ⟨.any _, ?_⟩)) trivial rfl rfl) fun s' h => ⟨m - 1, by omega, i + 1, by omega, h⟩
  · conv => whnf
    repeat (first | (refine Conf.mk (by kernel_rfl) ?_; conv => whnf) | (refine SeqOk.go ?_; conv => whnf))
    subst hQ1
    conv => whnf
    exact Ret.bool rfl
theorem sameClient_kb (c : Client') (h : c.played.length ≤ 140737488355328) : PCall Try.prog 13 [c.arg, c.arg] (.kb true) := by
  refine PCall.kb ?_
  refine pcall_cut tab_all tab_mixed Try.func13 (by kernel_rfl) Try.ntmps13 rfl ?_
  conv => whnf
  conv => whnf
  repeat (first | (refine Conf.mk (by kernel_rfl) ?_; conv => whnf) | (refine SeqOk.go ?_; conv => whnf))
  refine BoolCase.yes (by simp) ?_
  conv => whnf
  repeat (first | (refine Conf.mk (by kernel_rfl) ?_; conv => whnf) | (refine SeqOk.go ?_; conv => whnf))
  refine .data _ _ (same_ok c.played h) rfl ?_
  conv => whnf
  repeat (first | (refine Conf.mk (by kernel_rfl) ?_; conv => whnf) | (refine SeqOk.go ?_; conv => whnf))
  exact Ret.bool rfl
end Go.Proofs.Ytlioojekjnigiae.AM
/- Clients: what a time has, and what is played to it, as the document says. -/
namespace Go.Proofs.Ytlioojekjnigiae.AM
set_option linter.unusedVariables false
set_option linter.unusedSimpArgs false
theorem linksIn_succ {l : List Entry'} {v : Vec} {i : Nat} (hi : i < l.length) : linksIn (l.take (i + 1)) v = (linksIn (l.take i) v && (if inV v l[i].id = true then l[i].links.all (inV v) else true)) := by
  unfold linksIn insideL
  rw [take_succ' hi, List.filter_append, List.all_append]
  congr 1
  cases h : inV v l[i].id <;> simp [h]
theorem inside_succ {l : List Entry'} {v : Vec} {i : Nat} (hi : i < l.length) : insideL (l.take (i + 1)) v = insideL (l.take i) v ++ if inV v l[i].id = true then [l[i]] else [] := by
  unfold insideL
  rw [take_succ' hi, List.filter_append]
  congr 1
  cases h : inV v l[i].id <;> simp [h]
theorem inside_len {l : List Entry'} {v : Vec} : (insideL l v).length ≤ l.length := List.length_filter_le _ _
set_option maxHeartbeats 0 in
theorem inside_ok (v : Vec) {l : List Entry'} (hr : Right l) : PCall Try.prog 32 [.dat (.list (l.map Entry'.enc)), v.arg] (.tup [.dat (.list ((insideL l v).map Entry'.enc)), dBool (linksIn l v)]) := by
  have hll := hr.len
  refine pcall_cut tab_all tab_mixed Try.func32 (by kernel_rfl) Try.ntmps32 rfl ?_
  conv => whnf
  conv => whnf
  repeat (first | (refine Conf.mk (by kernel_rfl) ?_; conv => whnf) | (refine SeqOk.go ?_; conv => whnf))
  refine LoopOk.hide fun Q1 hQ1 => ?_
  refine LoopOk.mk (fun m s => ∃ i, i + m = l.length ∧ s = ⟨[(8, dInt i), (0, .dat (.list (l.map Entry'.enc))), (3, .ptr 0 0), (6, .row 1), (7, dBool (linksIn (l.take i) v))], 2, [(0, .vars 27 2 [dInt v.a, dInt v.b] true), (1, .rows 38 5 ((insideL (l.take i) v).map Entry'.enc) true)]⟩) l.length ((Into.row 6 38 5 rfl).trans fun s' hs' => by
    subst hs'
    exact Into.mono (Into.to [0, 1] [(8, dInt (0 : Nat)), (0, .dat (.list (l.map Entry'.enc))), (3, .ptr 0 0), (6, .row 1), (7, dBool (linksIn (l.take 0) v))] [(0, .vars 27 2 [dInt v.a, dInt v.b] true), (1, .rows 38 5 ((insideL (l.take 0) v).map Entry'.enc) true)] ⟨.same rfl, .same rfl, .same rfl, .same rfl, .kb true, trivial⟩ ⟨⟨rfl, rfl, rfl, .same rfl, rfl, .same rfl, rfl, trivial⟩, ⟨rfl, rfl, rfl, rfl⟩, trivial⟩ rfl rfl) fun s' h => ⟨0, by omega, h⟩) ?_
  rintro m s ⟨i, him, rfl⟩
  conv => whnf
  repeat (first | (refine Conf.mk (by kernel_rfl) ?_; conv => whnf) | (refine SeqOk.go ?_; conv => whnf))
  refine ⟨fun h => ?_, fun h => ?_⟩
  · have hi := lt_of_len h
    have hm := List.getElem_mem hi
    have hst := inside_succ (v := v) hi
    have hls := linksIn_succ (v := v) hi
    have hfl := inside_len (l := l.take i) (v := v)
    rw [List.length_take] at hfl
    have hk6 := hr.six hm
    conv => whnf
    repeat (first | (refine Conf.mk (by kernel_rfl) ?_; conv => whnf) | (refine SeqOk.go ?_; conv => whnf))
    refine AtIdx.ofMap hi rfl ?_
    conv => whnf
    repeat (first | (refine Conf.mk (by kernel_rfl) ?_; conv => whnf) | (refine SeqOk.go ?_; conv => whnf))
    refine AtIdx.ofMap hi rfl ?_
    conv => whnf
    repeat (first | (refine Conf.mk (by kernel_rfl) ?_; conv => whnf) | (refine SeqOk.go ?_; conv => whnf))
    rcases hr.regs _ hm with hre | hre
    · refine .mk 0 hre (by decide) ?_
      conv => whnf
      repeat (first | (refine Conf.mk (by kernel_rfl) ?_; conv => whnf) | (refine SeqOk.go ?_; conv => whnf))
      by_cases hb : inV v l[i].id = true
      · rw [if_pos hb] at hst hls
        refine BoolCase.no (by have hb2 := hb; unfold inV Vec.at' at hb2; simp [hre] at hb2; simp; omega) ?_
        conv => whnf
        repeat (first | (refine Conf.mk (by kernel_rfl) ?_; conv => whnf) | (refine SeqOk.go ?_; conv => whnf))
        refine LoopOk.hide fun Q2 hQ2 => ?_
        refine LoopOk.mk (fun m2 s => ∃ k, k + m2 = l[i].links.length ∧ s = ⟨[(9, dInt k), (8, dInt i), (0, .dat (.list (l.map Entry'.enc))), (3, .ptr 0 0), (6, .row 1), (7, dBool (linksIn (l.take i) v && (l[i].links.take k).all (inV v)))], 2, [(0, .vars 27 2 [dInt v.a, dInt v.b] true), (1, .rows 38 5 ((insideL (l.take i) v).map Entry'.enc) true)]⟩) l[i].links.length (Into.mono (Into.to [0, 1] [(9, dInt (0 : Nat)), (8, dInt i), (0, .dat (.list (l.map Entry'.enc))), (3, .ptr 0 0), (6, .row 1), (7, dBool (linksIn (l.take i) v && (l[i].links.take 0).all (inV v)))] [(0, .vars 27 2 [dInt v.a, dInt v.b] true), (1, .rows 38 5 ((insideL (l.take i) v).map Entry'.enc) true)] ⟨.same rfl, .same rfl, .same rfl, .same rfl, .same rfl, .same (by rw [List.take_zero, List.all_nil, Bool.and_true]; rfl), trivial⟩ ⟨⟨rfl, rfl, rfl, .same rfl, rfl, .same rfl, rfl, trivial⟩, ⟨rfl, rfl, rfl, rfl⟩, trivial⟩ rfl rfl) fun s' h => ⟨0, by omega, h⟩) ?_
        rintro m2 s ⟨k, hkm, rfl⟩
        conv => whnf
        repeat (first | (refine Conf.mk (by kernel_rfl) ?_; conv => whnf) | (refine SeqOk.go ?_; conv => whnf))
        refine AtIdx.ofMap hi rfl ?_
        conv => whnf
        repeat (first | (refine Conf.mk (by kernel_rfl) ?_; conv => whnf) | (refine SeqOk.go ?_; conv => whnf))
        refine ⟨fun h2 => ?_, fun h2 => ?_⟩
        · have hk := lt_of_len h2
          have hlo := hr.linkOk hm (List.getElem_mem hk)
          have hts : (l[i].links.take (k + 1)).all (inV v) = ((l[i].links.take k).all (inV v) && inV v l[i].links[k]) := by rw [take_succ' hk, List.all_append]; simp
          conv => whnf
          repeat (first | (refine Conf.mk (by kernel_rfl) ?_; conv => whnf) | (refine SeqOk.go ?_; conv => whnf))
          refine AtIdx.ofMap hi rfl ?_
          conv => whnf
          repeat (first | (refine Conf.mk (by kernel_rfl) ?_; conv => whnf) | (refine SeqOk.go ?_; conv => whnf))
          refine AtIdx.ofMap hk rfl ?_
          conv => whnf
          repeat (first | (refine Conf.mk (by kernel_rfl) ?_; conv => whnf) | (refine SeqOk.go ?_; conv => whnf))
          by_cases hq : (linksIn (l.take i) v && (l[i].links.take k).all (inV v)) = true
          · refine BoolCase.yes hq ?_
            conv => whnf
            repeat (first | (refine Conf.mk (by kernel_rfl) ?_; conv => whnf) | (refine SeqOk.go ?_; conv => whnf))
            rcases r_of_ok hlo with hx | hx
            · refine .mk 0 hx (by decide) ?_
              conv => whnf
              repeat (first | (refine Conf.mk (by kernel_rfl) ?_; conv => whnf) | (refine SeqOk.go ?_; conv => whnf))
              exact Into.mono (Into.to [0, 1] [(9, dInt (k + 1 : Nat)), (8, dInt i), (0, .dat (.list (l.map Entry'.enc))), (3, .ptr 0 0), (6, .row 1), (7, dBool (linksIn (l.take i) v && (l[i].links.take (k + 1)).all (inV v)))] [(0, .vars 27 2 [dInt v.a, dInt v.b] true), (1, .rows 38 5 ((insideL (l.take i) v).map Entry'.enc) true)] ⟨.same (congrArg dInt (wrap_up (by omega))), .same rfl, .same rfl, .same rfl, .same rfl, .same (by rw [hts, ← Bool.and_assoc, hq, Bool.true_and]; unfold inV Vec.at'; rw [if_pos hx]; rfl), trivial⟩ ⟨⟨rfl, rfl, rfl, .same rfl, rfl, .same rfl, rfl, trivial⟩, ⟨rfl, rfl, rfl, rfl⟩, trivial⟩ rfl rfl) fun s' h => ⟨m2 - 1, by omega, k + 1, by omega, h⟩
            · refine .mk 1 hx (by decide) ?_
              conv => whnf
              repeat (first | (refine Conf.mk (by kernel_rfl) ?_; conv => whnf) | (refine SeqOk.go ?_; conv => whnf))
              exact Into.mono (Into.to [0, 1] [(9, dInt (k + 1 : Nat)), (8, dInt i), (0, .dat (.list (l.map Entry'.enc))), (3, .ptr 0 0), (6, .row 1), (7, dBool (linksIn (l.take i) v && (l[i].links.take (k + 1)).all (inV v)))] [(0, .vars 27 2 [dInt v.a, dInt v.b] true), (1, .rows 38 5 ((insideL (l.take i) v).map Entry'.enc) true)] ⟨.same (congrArg dInt (wrap_up (by omega))), .same rfl, .same rfl, .same rfl, .same rfl, .same (by rw [hts, ← Bool.and_assoc, hq, Bool.true_and]; unfold inV Vec.at'; rw [if_neg (by omega)]; rfl), trivial⟩ ⟨⟨rfl, rfl, rfl, .same rfl, rfl, .same rfl, rfl, trivial⟩, ⟨rfl, rfl, rfl, rfl⟩, trivial⟩ rfl rfl) fun s' h => ⟨m2 - 1, by omega, k + 1, by omega, h⟩
          · have hq : (linksIn (l.take i) v && (l[i].links.take k).all (inV v)) = false := by simpa using hq
            refine BoolCase.no hq ?_
            conv => whnf
            repeat (first | (refine Conf.mk (by kernel_rfl) ?_; conv => whnf) | (refine SeqOk.go ?_; conv => whnf))
            exact Into.mono (Into.to [0, 1] [(9, dInt (k + 1 : Nat)), (8, dInt i), (0, .dat (.list (l.map Entry'.enc))), (3, .ptr 0 0), (6, .row 1), (7, dBool (linksIn (l.take i) v && (l[i].links.take (k + 1)).all (inV v)))] [(0, .vars 27 2 [dInt v.a, dInt v.b] true), (1, .rows 38 5 ((insideL (l.take i) v).map Entry'.enc) true)] ⟨.same (congrArg dInt (wrap_up (by omega))), .same rfl, .same rfl, .same rfl, .same rfl, (by rw [hts, ← Bool.and_assoc, hq, Bool.false_and]; exact .kb false), trivial⟩ ⟨⟨rfl, rfl, rfl, .same rfl, rfl, .same rfl, rfl, trivial⟩, ⟨rfl, rfl, rfl, rfl⟩, trivial⟩ rfl rfl) fun s' h => ⟨m2 - 1, by omega, k + 1, by omega, h⟩
        · have hk := ge_of_len h2
          have hrow : (insideL (l.take (i + 1)) v).map Entry'.enc = (insideL (l.take i) v).map Entry'.enc ++ [l[i].enc] := by rw [hst, List.map_append]; rfl
          conv => whnf
          repeat (first | (refine Conf.mk (by kernel_rfl) ?_; conv => whnf) | (refine SeqOk.go ?_; conv => whnf))
          subst hQ2
          conv => whnf
          conv => whnf
          repeat (first | (refine Conf.mk (by kernel_rfl) ?_; conv => whnf) | (refine SeqOk.go ?_; conv => whnf))
          refine AtIdx.ofMap hi rfl ?_
          conv => whnf
          repeat (first | (refine Conf.mk (by kernel_rfl) ?_; conv => whnf) | (refine SeqOk.go ?_; conv => whnf))
          refine ⟨by simp [Entry'.enc], by simp; omega, ?_⟩
          conv => whnf
          repeat (first | (refine Conf.mk (by kernel_rfl) ?_; conv => whnf) | (refine SeqOk.go ?_; conv => whnf))
          exact Into.mono (Into.to [0, 3] [(8, dInt (i + 1 : Nat)), (0, .dat (.list (l.map Entry'.enc))), (3, .ptr 0 0), (6, .row 1), (7, dBool (linksIn (l.take (i + 1)) v))] [(0, .vars 27 2 [dInt v.a, dInt v.b] true), (1, .rows 38 5 ((insideL (l.take (i + 1)) v).map Entry'.enc) true)] ⟨.same (congrArg dInt (wrap_up (by omega))), .same rfl, .same rfl, .same rfl, .same (by rw [hls, List.take_of_length_le hk]; rfl), trivial⟩ ⟨⟨rfl, rfl, rfl, .same rfl, rfl, .same rfl, rfl, trivial⟩, ⟨rfl, rfl, rfl, hrow⟩, trivial⟩ rfl rfl) fun s' h => ⟨m - 1, by omega, i + 1, by omega, h⟩
      · rw [if_neg hb] at hst hls
        rw [List.append_nil] at hst
        rw [Bool.and_true] at hls
        refine BoolCase.yes (by have hb2 := hb; unfold inV Vec.at' at hb2; simp [hre] at hb2; simp; omega) ?_
        conv => whnf
        repeat (first | (refine Conf.mk (by kernel_rfl) ?_; conv => whnf) | (refine SeqOk.go ?_; conv => whnf))
        exact Into.mono (Into.to [0, 1] [(8, dInt (i + 1 : Nat)), (0, .dat (.list (l.map Entry'.enc))), (3, .ptr 0 0), (6, .row 1), (7, dBool (linksIn (l.take (i + 1)) v))] [(0, .vars 27 2 [dInt v.a, dInt v.b] true), (1, .rows 38 5 ((insideL (l.take (i + 1)) v).map Entry'.enc) true)] ⟨.same (congrArg dInt (wrap_up (by omega))), .same rfl, .same rfl, .same rfl, .same (by rw [hls]; rfl), trivial⟩ ⟨⟨rfl, rfl, rfl, .same rfl, rfl, .same rfl, rfl, trivial⟩, ⟨rfl, rfl, rfl, by rw [hst]⟩, trivial⟩ rfl rfl) fun s' h => ⟨m - 1, by omega, i + 1, by omega, h⟩
    · refine .mk 1 hre (by decide) ?_
      conv => whnf
      repeat (first | (refine Conf.mk (by kernel_rfl) ?_; conv => whnf) | (refine SeqOk.go ?_; conv => whnf))
      by_cases hb : inV v l[i].id = true
      · rw [if_pos hb] at hst hls
        refine BoolCase.no (by have hb2 := hb; unfold inV Vec.at' at hb2; simp [hre] at hb2; simp; omega) ?_
        conv => whnf
        repeat (first | (refine Conf.mk (by kernel_rfl) ?_; conv => whnf) | (refine SeqOk.go ?_; conv => whnf))
        refine LoopOk.hide fun Q2 hQ2 => ?_
        refine LoopOk.mk (fun m2 s => ∃ k, k + m2 = l[i].links.length ∧ s = ⟨[(9, dInt k), (8, dInt i), (0, .dat (.list (l.map Entry'.enc))), (3, .ptr 0 0), (6, .row 1), (7, dBool (linksIn (l.take i) v && (l[i].links.take k).all (inV v)))], 2, [(0, .vars 27 2 [dInt v.a, dInt v.b] true), (1, .rows 38 5 ((insideL (l.take i) v).map Entry'.enc) true)]⟩) l[i].links.length (Into.mono (Into.to [0, 1] [(9, dInt (0 : Nat)), (8, dInt i), (0, .dat (.list (l.map Entry'.enc))), (3, .ptr 0 0), (6, .row 1), (7, dBool (linksIn (l.take i) v && (l[i].links.take 0).all (inV v)))] [(0, .vars 27 2 [dInt v.a, dInt v.b] true), (1, .rows 38 5 ((insideL (l.take i) v).map Entry'.enc) true)] ⟨.same rfl, .same rfl, .same rfl, .same rfl, .same rfl, .same (by rw [List.take_zero, List.all_nil, Bool.and_true]; rfl), trivial⟩ ⟨⟨rfl, rfl, rfl, .same rfl, rfl, .same rfl, rfl, trivial⟩, ⟨rfl, rfl, rfl, rfl⟩, trivial⟩ rfl rfl) fun s' h => ⟨0, by omega, h⟩) ?_
        rintro m2 s ⟨k, hkm, rfl⟩
        conv => whnf
        repeat (first | (refine Conf.mk (by kernel_rfl) ?_; conv => whnf) | (refine SeqOk.go ?_; conv => whnf))
        refine AtIdx.ofMap hi rfl ?_
        conv => whnf
        repeat (first | (refine Conf.mk (by kernel_rfl) ?_; conv => whnf) | (refine SeqOk.go ?_; conv => whnf))
        refine ⟨fun h2 => ?_, fun h2 => ?_⟩
        · have hk := lt_of_len h2
          have hlo := hr.linkOk hm (List.getElem_mem hk)
          have hts : (l[i].links.take (k + 1)).all (inV v) = ((l[i].links.take k).all (inV v) && inV v l[i].links[k]) := by rw [take_succ' hk, List.all_append]; simp
          conv => whnf
          repeat (first | (refine Conf.mk (by kernel_rfl) ?_; conv => whnf) | (refine SeqOk.go ?_; conv => whnf))
          refine AtIdx.ofMap hi rfl ?_
          conv => whnf
          repeat (first | (refine Conf.mk (by kernel_rfl) ?_; conv => whnf) | (refine SeqOk.go ?_; conv => whnf))
          refine AtIdx.ofMap hk rfl ?_
          conv => whnf
          repeat (first | (refine Conf.mk (by kernel_rfl) ?_; conv => whnf) | (refine SeqOk.go ?_; conv => whnf))
          by_cases hq : (linksIn (l.take i) v && (l[i].links.take k).all (inV v)) = true
          · refine BoolCase.yes hq ?_
            conv => whnf
            repeat (first | (refine Conf.mk (by kernel_rfl) ?_; conv => whnf) | (refine SeqOk.go ?_; conv => whnf))
            rcases r_of_ok hlo with hx | hx
            · refine .mk 0 hx (by decide) ?_
              conv => whnf
              repeat (first | (refine Conf.mk (by kernel_rfl) ?_; conv => whnf) | (refine SeqOk.go ?_; conv => whnf))
              exact Into.mono (Into.to [0, 1] [(9, dInt (k + 1 : Nat)), (8, dInt i), (0, .dat (.list (l.map Entry'.enc))), (3, .ptr 0 0), (6, .row 1), (7, dBool (linksIn (l.take i) v && (l[i].links.take (k + 1)).all (inV v)))] [(0, .vars 27 2 [dInt v.a, dInt v.b] true), (1, .rows 38 5 ((insideL (l.take i) v).map Entry'.enc) true)] ⟨.same (congrArg dInt (wrap_up (by omega))), .same rfl, .same rfl, .same rfl, .same rfl, .same (by rw [hts, ← Bool.and_assoc, hq, Bool.true_and]; unfold inV Vec.at'; rw [if_pos hx]; rfl), trivial⟩ ⟨⟨rfl, rfl, rfl, .same rfl, rfl, .same rfl, rfl, trivial⟩, ⟨rfl, rfl, rfl, rfl⟩, trivial⟩ rfl rfl) fun s' h => ⟨m2 - 1, by omega, k + 1, by omega, h⟩
            · refine .mk 1 hx (by decide) ?_
              conv => whnf
              repeat (first | (refine Conf.mk (by kernel_rfl) ?_; conv => whnf) | (refine SeqOk.go ?_; conv => whnf))
              exact Into.mono (Into.to [0, 1] [(9, dInt (k + 1 : Nat)), (8, dInt i), (0, .dat (.list (l.map Entry'.enc))), (3, .ptr 0 0), (6, .row 1), (7, dBool (linksIn (l.take i) v && (l[i].links.take (k + 1)).all (inV v)))] [(0, .vars 27 2 [dInt v.a, dInt v.b] true), (1, .rows 38 5 ((insideL (l.take i) v).map Entry'.enc) true)] ⟨.same (congrArg dInt (wrap_up (by omega))), .same rfl, .same rfl, .same rfl, .same rfl, .same (by rw [hts, ← Bool.and_assoc, hq, Bool.true_and]; unfold inV Vec.at'; rw [if_neg (by omega)]; rfl), trivial⟩ ⟨⟨rfl, rfl, rfl, .same rfl, rfl, .same rfl, rfl, trivial⟩, ⟨rfl, rfl, rfl, rfl⟩, trivial⟩ rfl rfl) fun s' h => ⟨m2 - 1, by omega, k + 1, by omega, h⟩
          · have hq : (linksIn (l.take i) v && (l[i].links.take k).all (inV v)) = false := by simpa using hq
            refine BoolCase.no hq ?_
            conv => whnf
            repeat (first | (refine Conf.mk (by kernel_rfl) ?_; conv => whnf) | (refine SeqOk.go ?_; conv => whnf))
            exact Into.mono (Into.to [0, 1] [(9, dInt (k + 1 : Nat)), (8, dInt i), (0, .dat (.list (l.map Entry'.enc))), (3, .ptr 0 0), (6, .row 1), (7, dBool (linksIn (l.take i) v && (l[i].links.take (k + 1)).all (inV v)))] [(0, .vars 27 2 [dInt v.a, dInt v.b] true), (1, .rows 38 5 ((insideL (l.take i) v).map Entry'.enc) true)] ⟨.same (congrArg dInt (wrap_up (by omega))), .same rfl, .same rfl, .same rfl, .same rfl, (by rw [hts, ← Bool.and_assoc, hq, Bool.false_and]; exact .kb false), trivial⟩ ⟨⟨rfl, rfl, rfl, .same rfl, rfl, .same rfl, rfl, trivial⟩, ⟨rfl, rfl, rfl, rfl⟩, trivial⟩ rfl rfl) fun s' h => ⟨m2 - 1, by omega, k + 1, by omega, h⟩
        · have hk := ge_of_len h2
          have hrow : (insideL (l.take (i + 1)) v).map Entry'.enc = (insideL (l.take i) v).map Entry'.enc ++ [l[i].enc] := by rw [hst, List.map_append]; rfl
          conv => whnf
          repeat (first | (refine Conf.mk (by kernel_rfl) ?_; conv => whnf) | (refine SeqOk.go ?_; conv => whnf))
          subst hQ2
          conv => whnf
          conv => whnf
          repeat (first | (refine Conf.mk (by kernel_rfl) ?_; conv => whnf) | (refine SeqOk.go ?_; conv => whnf))
          refine AtIdx.ofMap hi rfl ?_
          conv => whnf
          repeat (first | (refine Conf.mk (by kernel_rfl) ?_; conv => whnf) | (refine SeqOk.go ?_; conv => whnf))
          refine ⟨by simp [Entry'.enc], by simp; omega, ?_⟩
          conv => whnf
          repeat (first | (refine Conf.mk (by kernel_rfl) ?_; conv => whnf) | (refine SeqOk.go ?_; conv => whnf))
          exact Into.mono (Into.to [0, 3] [(8, dInt (i + 1 : Nat)), (0, .dat (.list (l.map Entry'.enc))), (3, .ptr 0 0), (6, .row 1), (7, dBool (linksIn (l.take (i + 1)) v))] [(0, .vars 27 2 [dInt v.a, dInt v.b] true), (1, .rows 38 5 ((insideL (l.take (i + 1)) v).map Entry'.enc) true)] ⟨.same (congrArg dInt (wrap_up (by omega))), .same rfl, .same rfl, .same rfl, .same (by rw [hls, List.take_of_length_le hk]; rfl), trivial⟩ ⟨⟨rfl, rfl, rfl, .same rfl, rfl, .same rfl, rfl, trivial⟩, ⟨rfl, rfl, rfl, hrow⟩, trivial⟩ rfl rfl) fun s' h => ⟨m - 1, by omega, i + 1, by omega, h⟩
      · rw [if_neg hb] at hst hls
        rw [List.append_nil] at hst
        rw [Bool.and_true] at hls
        refine BoolCase.yes (by have hb2 := hb; unfold inV Vec.at' at hb2; simp [hre] at hb2; simp; omega) ?_
        conv => whnf
        repeat (first | (refine Conf.mk (by kernel_rfl) ?_; conv => whnf) | (refine SeqOk.go ?_; conv => whnf))
        exact Into.mono (Into.to [0, 1] [(8, dInt (i + 1 : Nat)), (0, .dat (.list (l.map Entry'.enc))), (3, .ptr 0 0), (6, .row 1), (7, dBool (linksIn (l.take (i + 1)) v))] [(0, .vars 27 2 [dInt v.a, dInt v.b] true), (1, .rows 38 5 ((insideL (l.take (i + 1)) v).map Entry'.enc) true)] ⟨.same (congrArg dInt (wrap_up (by omega))), .same rfl, .same rfl, .same rfl, .same (by rw [hls]; rfl), trivial⟩ ⟨⟨rfl, rfl, rfl, .same rfl, rfl, .same rfl, rfl, trivial⟩, ⟨rfl, rfl, rfl, by rw [hst]⟩, trivial⟩ rfl rfl) fun s' h => ⟨m - 1, by omega, i + 1, by omega, h⟩
  · have hk : i = l.length := by have := ge_of_len h; omega
    subst hk
    conv => whnf
    repeat (first | (refine Conf.mk (by kernel_rfl) ?_; conv => whnf) | (refine SeqOk.go ?_; conv => whnf))
    subst hQ1
    conv => whnf
    exact Ret.to (by rw [List.take_length]; rfl)
end Go.Proofs.Ytlioojekjnigiae.AM
/- Clients: what is played to a time, as the document says. -/
namespace Go.Proofs.Ytlioojekjnigiae.AM
set_option linter.unusedVariables false
set_option linter.unusedSimpArgs false

/-- May it, the first so many ids looked at? -/
def mayTo (l : List Entry') (ids : List Id) (v : Vec) (i : Nat) : Bool := (linksIn l v && withinP v (counts l)) && (ids.take i).all (inV v)
theorem mayTo_all (l : List Entry') (ids : List Id) (v : Vec) : mayTo l ids v ids.length = mayPlay l ids v := by
  unfold mayTo mayPlay
  rw [List.take_length]
  cases linksIn l v <;> cases withinP v (counts l) <;> cases ids.all (inV v) <;> rfl
theorem mayTo_succ {l : List Entry'} {ids : List Id} {v : Vec} {i : Nat} (hi : i < ids.length) : mayTo l ids v (i + 1) = (mayTo l ids v i && inV v ids[i]) := by
  unfold mayTo
  rw [take_succ' hi, List.all_append, Bool.and_assoc, Bool.and_assoc, Bool.and_assoc]
  simp
set_option maxHeartbeats 0 in
theorem playOf_ok (l : List Entry') (hl : LogOk l) (c : Client') (hi : c.played.length ≤ 140737488355326) (v : Vec) : PCall Try.prog 9 [.dat (.list (l.map Entry'.enc)), c.arg, v.arg] (.tup [(playAns l c v).arg, dInt (playErr l c v)]) := by
  refine pcall_cut tab_all tab_mixed Try.func9 (by kernel_rfl) Try.ntmps9 rfl ?_
  conv => whnf
  conv => whnf
  repeat (first | (refine Conf.mk (by kernel_rfl) ?_; conv => whnf) | (refine SeqOk.go ?_; conv => whnf))
  refine .data _ _ (checkBegun_ok l hl c.colors c.played hi) rfl ?_
  conv => whnf
  repeat (first | (refine Conf.mk (by kernel_rfl) ?_; conv => whnf) | (refine SeqOk.go ?_; conv => whnf))
  by_cases h1 : begunErr l c.colors c.played = 0
  · obtain ⟨hr, hc, hin, hnd, hp⟩ := begun_facts h1
    have hll := hr.len
    have hil := ids_len hin hnd
    have hok : ∀ x ∈ c.played, x.ok = true := fun x hx => by
      obtain ⟨e, he, rfl⟩ := hin x hx
      exact hr.ok he
    refine BoolCase.yes (by simp [h1]) ?_
    conv => whnf
    repeat (first | (refine Conf.mk (by kernel_rfl) ?_; conv => whnf) | (refine SeqOk.go ?_; conv => whnf))
    refine .data _ _ (checkVector_ok v) rfl ?_
    conv => whnf
    repeat (first | (refine Conf.mk (by kernel_rfl) ?_; conv => whnf) | (refine SeqOk.go ?_; conv => whnf))
    by_cases h2 : v.ok = true
    · have hve : vecErr v = 0 := by unfold vecErr; rw [if_pos h2]
      refine BoolCase.no (by simp [hve]) ?_
      conv => whnf
      repeat (first | (refine Conf.mk (by kernel_rfl) ?_; conv => whnf) | (refine SeqOk.go ?_; conv => whnf))
      refine .data _ _ (inside_ok v hr) rfl ?_
      conv => whnf
      repeat (first | (refine Conf.mk (by kernel_rfl) ?_; conv => whnf) | (refine SeqOk.go ?_; conv => whnf))
      refine .data _ _ (countOf_ok l (by omega) hr.regs) rfl ?_
      conv => whnf
      repeat (first | (refine Conf.mk (by kernel_rfl) ?_; conv => whnf) | (refine SeqOk.go ?_; conv => whnf))
      have hz0 : mayTo l c.played v 0 = (linksIn l v && withinP v (counts l)) := by unfold mayTo; rw [List.take_zero, List.all_nil, Bool.and_true]
      by_cases hL : linksIn l v = true
      · refine BoolCase.yes hL ?_
        conv => whnf
        repeat (first | (refine Conf.mk (by kernel_rfl) ?_; conv => whnf) | (refine SeqOk.go ?_; conv => whnf))
        refine .mk 0 rfl (by decide) ?_
        conv => whnf
        repeat (first | (refine Conf.mk (by kernel_rfl) ?_; conv => whnf) | (refine SeqOk.go ?_; conv => whnf))
        refine .mk 0 rfl (by decide) ?_
        conv => whnf
        repeat (first | (refine Conf.mk (by kernel_rfl) ?_; conv => whnf) | (refine SeqOk.go ?_; conv => whnf))
        by_cases ha : v.a ≤ (cnt 0 l : Int)
        · have hz : mayTo l c.played v 0 = decide (v.b ≤ (cnt 1 l : Int)) := by
            rw [hz0, hL, Bool.true_and]
            show (decide (v.a ≤ (cnt 0 l : Int)) && decide (v.b ≤ (cnt 1 l : Int))) = _
            rw [decide_eq_true ha, Bool.true_and]
          refine BoolCase.yes (decide_eq_true ha) ?_
          conv => whnf
          repeat (first | (refine Conf.mk (by kernel_rfl) ?_; conv => whnf) | (refine SeqOk.go ?_; conv => whnf))
          refine .mk 1 rfl (by decide) ?_
          conv => whnf
          repeat (first | (refine Conf.mk (by kernel_rfl) ?_; conv => whnf) | (refine SeqOk.go ?_; conv => whnf))
          refine .mk 1 rfl (by decide) ?_
          conv => whnf
          repeat (first | (refine Conf.mk (by kernel_rfl) ?_; conv => whnf) | (refine SeqOk.go ?_; conv => whnf))
          refine LoopOk.hide fun Q1 hQ1 => ?_
          refine LoopOk.mk (fun m s => ∃ i, i + m = c.played.length ∧ s = ⟨[(12, dInt i), (10, dBool (mayTo l c.played v i)), (4, .ptr 0 0), (5, .ptr 1 0), (6, .ptr 2 0), (9, .dat (.list ((insideL l v).map Entry'.enc)))], 3, [(0, .vars 25 2 [dInt c.colors, .dat (.list (c.played.map Id.enc))] true), (1, .vars 27 2 [dInt v.a, dInt v.b] true), (2, .vars 25 2 [dInt 0, .nil] true)]⟩) c.played.length (Into.mono (Into.to [0, 1, 2] [(12, dInt (0 : Nat)), (10, dBool (mayTo l c.played v 0)), (4, .ptr 0 0), (5, .ptr 1 0), (6, .ptr 2 0), (9, .dat (.list ((insideL l v).map Entry'.enc)))] [(0, .vars 25 2 [dInt c.colors, .dat (.list (c.played.map Id.enc))] true), (1, .vars 27 2 [dInt v.a, dInt v.b] true), (2, .vars 25 2 [dInt 0, .nil] true)] ⟨.same rfl, (.same (by rw [hz]; rfl)), .same rfl, .same rfl, .same rfl, .same rfl, trivial⟩ ⟨⟨rfl, rfl, rfl, .same rfl, rfl, .same rfl, rfl, trivial⟩, ⟨rfl, rfl, rfl, .same rfl, rfl, .same rfl, rfl, trivial⟩, ⟨rfl, rfl, rfl, .same rfl, rfl, .same rfl, rfl, trivial⟩, trivial⟩ rfl rfl) fun s' h => ⟨0, by omega, h⟩) ?_
          rintro m s ⟨i, him, rfl⟩
          conv => whnf
          repeat (first | (refine Conf.mk (by kernel_rfl) ?_; conv => whnf) | (refine SeqOk.go ?_; conv => whnf))
          refine ⟨fun h => ?_, fun h => ?_⟩
          · have hi' := lt_of_len h
            have hms := mayTo_succ (l := l) (v := v) hi'
            have hxo := hok _ (List.getElem_mem hi')
            conv => whnf
            repeat (first | (refine Conf.mk (by kernel_rfl) ?_; conv => whnf) | (refine SeqOk.go ?_; conv => whnf))
            by_cases hq : mayTo l c.played v i = true
            · refine BoolCase.yes hq ?_
              conv => whnf
              repeat (first | (refine Conf.mk (by kernel_rfl) ?_; conv => whnf) | (refine SeqOk.go ?_; conv => whnf))
              refine AtIdx.ofMap hi' rfl ?_
              conv => whnf
              repeat (first | (refine Conf.mk (by kernel_rfl) ?_; conv => whnf) | (refine SeqOk.go ?_; conv => whnf))
              refine AtIdx.ofMap hi' rfl ?_
              conv => whnf
              repeat (first | (refine Conf.mk (by kernel_rfl) ?_; conv => whnf) | (refine SeqOk.go ?_; conv => whnf))
              rcases r_of_ok hxo with hx | hx
              · refine .mk 0 hx (by decide) ?_
                conv => whnf
                repeat (first | (refine Conf.mk (by kernel_rfl) ?_; conv => whnf) | (refine SeqOk.go ?_; conv => whnf))
                exact Into.mono (Into.to [0, 1, 2] [(12, dInt (i + 1 : Nat)), (10, dBool (mayTo l c.played v (i + 1))), (4, .ptr 0 0), (5, .ptr 1 0), (6, .ptr 2 0), (9, .dat (.list ((insideL l v).map Entry'.enc)))] [(0, .vars 25 2 [dInt c.colors, .dat (.list (c.played.map Id.enc))] true), (1, .vars 27 2 [dInt v.a, dInt v.b] true), (2, .vars 25 2 [dInt 0, .nil] true)] ⟨.same (congrArg dInt (wrap_up (by omega))), .same (by rw [hms, hq, Bool.true_and]; unfold inV Vec.at'; rw [if_pos hx]; rfl), .same rfl, .same rfl, .same rfl, .same rfl, trivial⟩ ⟨⟨rfl, rfl, rfl, .same rfl, rfl, .same rfl, rfl, trivial⟩, ⟨rfl, rfl, rfl, .same rfl, rfl, .same rfl, rfl, trivial⟩, ⟨rfl, rfl, rfl, .same rfl, rfl, .same rfl, rfl, trivial⟩, trivial⟩ rfl rfl) fun s' h => ⟨m - 1, by omega, i + 1, by omega, h⟩
              · refine .mk 1 hx (by decide) ?_
                conv => whnf
                repeat (first | (refine Conf.mk (by kernel_rfl) ?_; conv => whnf) | (refine SeqOk.go ?_; conv => whnf))
                exact Into.mono (Into.to [0, 1, 2] [(12, dInt (i + 1 : Nat)), (10, dBool (mayTo l c.played v (i + 1))), (4, .ptr 0 0), (5, .ptr 1 0), (6, .ptr 2 0), (9, .dat (.list ((insideL l v).map Entry'.enc)))] [(0, .vars 25 2 [dInt c.colors, .dat (.list (c.played.map Id.enc))] true), (1, .vars 27 2 [dInt v.a, dInt v.b] true), (2, .vars 25 2 [dInt 0, .nil] true)] ⟨.same (congrArg dInt (wrap_up (by omega))), .same (by rw [hms, hq, Bool.true_and]; unfold inV Vec.at'; rw [if_neg (by omega)]; rfl), .same rfl, .same rfl, .same rfl, .same rfl, trivial⟩ ⟨⟨rfl, rfl, rfl, .same rfl, rfl, .same rfl, rfl, trivial⟩, ⟨rfl, rfl, rfl, .same rfl, rfl, .same rfl, rfl, trivial⟩, ⟨rfl, rfl, rfl, .same rfl, rfl, .same rfl, rfl, trivial⟩, trivial⟩ rfl rfl) fun s' h => ⟨m - 1, by omega, i + 1, by omega, h⟩
            · have hq : mayTo l c.played v i = false := by simpa using hq
              refine BoolCase.no hq ?_
              conv => whnf
              repeat (first | (refine Conf.mk (by kernel_rfl) ?_; conv => whnf) | (refine SeqOk.go ?_; conv => whnf))
              exact Into.mono (Into.to [0, 1, 2] [(12, dInt (i + 1 : Nat)), (10, dBool (mayTo l c.played v (i + 1))), (4, .ptr 0 0), (5, .ptr 1 0), (6, .ptr 2 0), (9, .dat (.list ((insideL l v).map Entry'.enc)))] [(0, .vars 25 2 [dInt c.colors, .dat (.list (c.played.map Id.enc))] true), (1, .vars 27 2 [dInt v.a, dInt v.b] true), (2, .vars 25 2 [dInt 0, .nil] true)] ⟨.same (congrArg dInt (wrap_up (by omega))), (by rw [hms, hq, Bool.false_and]; exact .kb false), .same rfl, .same rfl, .same rfl, .same rfl, trivial⟩ ⟨⟨rfl, rfl, rfl, .same rfl, rfl, .same rfl, rfl, trivial⟩, ⟨rfl, rfl, rfl, .same rfl, rfl, .same rfl, rfl, trivial⟩, ⟨rfl, rfl, rfl, .same rfl, rfl, .same rfl, rfl, trivial⟩, trivial⟩ rfl rfl) fun s' h => ⟨m - 1, by omega, i + 1, by omega, h⟩
          · have hk : i = c.played.length := by have := ge_of_len h; omega
            subst hk
            conv => whnf
            repeat (first | (refine Conf.mk (by kernel_rfl) ?_; conv => whnf) | (refine SeqOk.go ?_; conv => whnf))
            subst hQ1
            conv => whnf
            conv => whnf
            repeat (first | (refine Conf.mk (by kernel_rfl) ?_; conv => whnf) | (refine SeqOk.go ?_; conv => whnf))
            have hbm : mayTo l c.played v c.played.length = mayPlay l c.played v := mayTo_all l c.played v
            by_cases h3 : mayPlay l c.played v = true
            · have hE : playErr l c v = 0 := by unfold playErr; rw [if_neg (by simp [h1]), if_neg (by simp [h2]), if_neg (by simp [h3])]
              have hA : playAns l c v = ⟨c.colors, moreOf (insideL l v) c.colors c.played⟩ := by unfold playAns; rw [if_pos hE]
              obtain ⟨m1, m2, m3⟩ := mayPlay_iff.1 h3
              refine BoolCase.no (by rw [hbm, h3]; rfl) ?_
              conv => whnf
              repeat (first | (refine Conf.mk (by kernel_rfl) ?_; conv => whnf) | (refine SeqOk.go ?_; conv => whnf))
              refine .data _ _ (moreOf_ok (hr.inside m2) c.colors c.played (fun x hx => by
                obtain ⟨e, he, rfl⟩ := hin x hx
                exact ⟨e, mem_inside.2 ⟨he, m3 _ hx⟩, rfl⟩) hnd) rfl ?_
              conv => whnf
              repeat (first | (refine Conf.mk (by kernel_rfl) ?_; conv => whnf) | (refine SeqOk.go ?_; conv => whnf))
              exact Ret.to (by rw [hE, hA]; rfl)
            · have h3 : mayPlay l c.played v = false := by simpa using h3
              have hE : playErr l c v = 4 := by unfold playErr; rw [if_neg (by simp [h1]), if_neg (by simp [h2]), if_pos h3]
              have hA : playAns l c v = ⟨0, []⟩ := by unfold playAns; rw [if_neg (by rw [hE]; decide)]
              refine BoolCase.yes (by rw [hbm, h3]; rfl) ?_
              conv => whnf
              repeat (first | (refine Conf.mk (by kernel_rfl) ?_; conv => whnf) | (refine SeqOk.go ?_; conv => whnf))
              exact Ret.to (by rw [hE, hA]; rfl)
        · have hz : mayTo l c.played v 0 = false := by
            rw [hz0, hL, Bool.true_and]
            show (decide (v.a ≤ (cnt 0 l : Int)) && decide (v.b ≤ (cnt 1 l : Int))) = _
            rw [decide_eq_false ha, Bool.false_and]
          refine BoolCase.no (decide_eq_false ha) ?_
          conv => whnf
          repeat (first | (refine Conf.mk (by kernel_rfl) ?_; conv => whnf) | (refine SeqOk.go ?_; conv => whnf))
          refine LoopOk.hide fun Q1 hQ1 => ?_
          refine LoopOk.mk (fun m s => ∃ i, i + m = c.played.length ∧ s = ⟨[(12, dInt i), (10, dBool (mayTo l c.played v i)), (4, .ptr 0 0), (5, .ptr 1 0), (6, .ptr 2 0), (9, .dat (.list ((insideL l v).map Entry'.enc)))], 3, [(0, .vars 25 2 [dInt c.colors, .dat (.list (c.played.map Id.enc))] true), (1, .vars 27 2 [dInt v.a, dInt v.b] true), (2, .vars 25 2 [dInt 0, .nil] true)]⟩) c.played.length (Into.mono (Into.to [0, 1, 2] [(12, dInt (0 : Nat)), (10, dBool (mayTo l c.played v 0)), (4, .ptr 0 0), (5, .ptr 1 0), (6, .ptr 2 0), (9, .dat (.list ((insideL l v).map Entry'.enc)))] [(0, .vars 25 2 [dInt c.colors, .dat (.list (c.played.map Id.enc))] true), (1, .vars 27 2 [dInt v.a, dInt v.b] true), (2, .vars 25 2 [dInt 0, .nil] true)] ⟨.same rfl, (by rw [hz]; exact .kb false), .same rfl, .same rfl, .same rfl, .same rfl, trivial⟩ ⟨⟨rfl, rfl, rfl, .same rfl, rfl, .same rfl, rfl, trivial⟩, ⟨rfl, rfl, rfl, .same rfl, rfl, .same rfl, rfl, trivial⟩, ⟨rfl, rfl, rfl, .same rfl, rfl, .same rfl, rfl, trivial⟩, trivial⟩ rfl rfl) fun s' h => ⟨0, by omega, h⟩) ?_
          rintro m s ⟨i, him, rfl⟩
          conv => whnf
          repeat (first | (refine Conf.mk (by kernel_rfl) ?_; conv => whnf) | (refine SeqOk.go ?_; conv => whnf))
          refine ⟨fun h => ?_, fun h => ?_⟩
          · have hi' := lt_of_len h
            have hms := mayTo_succ (l := l) (v := v) hi'
            have hxo := hok _ (List.getElem_mem hi')
            conv => whnf
            repeat (first | (refine Conf.mk (by kernel_rfl) ?_; conv => whnf) | (refine SeqOk.go ?_; conv => whnf))
            by_cases hq : mayTo l c.played v i = true
            · refine BoolCase.yes hq ?_
              conv => whnf
              repeat (first | (refine Conf.mk (by kernel_rfl) ?_; conv => whnf) | (refine SeqOk.go ?_; conv => whnf))
              refine AtIdx.ofMap hi' rfl ?_
              conv => whnf
              repeat (first | (refine Conf.mk (by kernel_rfl) ?_; conv => whnf) | (refine SeqOk.go ?_; conv => whnf))
              refine AtIdx.ofMap hi' rfl ?_
              conv => whnf
              repeat (first | (refine Conf.mk (by kernel_rfl) ?_; conv => whnf) | (refine SeqOk.go ?_; conv => whnf))
              rcases r_of_ok hxo with hx | hx
              · refine .mk 0 hx (by decide) ?_
                conv => whnf
                repeat (first | (refine Conf.mk (by kernel_rfl) ?_; conv => whnf) | (refine SeqOk.go ?_; conv => whnf))
                exact Into.mono (Into.to [0, 1, 2] [(12, dInt (i + 1 : Nat)), (10, dBool (mayTo l c.played v (i + 1))), (4, .ptr 0 0), (5, .ptr 1 0), (6, .ptr 2 0), (9, .dat (.list ((insideL l v).map Entry'.enc)))] [(0, .vars 25 2 [dInt c.colors, .dat (.list (c.played.map Id.enc))] true), (1, .vars 27 2 [dInt v.a, dInt v.b] true), (2, .vars 25 2 [dInt 0, .nil] true)] ⟨.same (congrArg dInt (wrap_up (by omega))), .same (by rw [hms, hq, Bool.true_and]; unfold inV Vec.at'; rw [if_pos hx]; rfl), .same rfl, .same rfl, .same rfl, .same rfl, trivial⟩ ⟨⟨rfl, rfl, rfl, .same rfl, rfl, .same rfl, rfl, trivial⟩, ⟨rfl, rfl, rfl, .same rfl, rfl, .same rfl, rfl, trivial⟩, ⟨rfl, rfl, rfl, .same rfl, rfl, .same rfl, rfl, trivial⟩, trivial⟩ rfl rfl) fun s' h => ⟨m - 1, by omega, i + 1, by omega, h⟩
              · refine .mk 1 hx (by decide) ?_
                conv => whnf
                repeat (first | (refine Conf.mk (by kernel_rfl) ?_; conv => whnf) | (refine SeqOk.go ?_; conv => whnf))
                exact Into.mono (Into.to [0, 1, 2] [(12, dInt (i + 1 : Nat)), (10, dBool (mayTo l c.played v (i + 1))), (4, .ptr 0 0), (5, .ptr 1 0), (6, .ptr 2 0), (9, .dat (.list ((insideL l v).map Entry'.enc)))] [(0, .vars 25 2 [dInt c.colors, .dat (.list (c.played.map Id.enc))] true), (1, .vars 27 2 [dInt v.a, dInt v.b] true), (2, .vars 25 2 [dInt 0, .nil] true)] ⟨.same (congrArg dInt (wrap_up (by omega))), .same (by rw [hms, hq, Bool.true_and]; unfold inV Vec.at'; rw [if_neg (by omega)]; rfl), .same rfl, .same rfl, .same rfl, .same rfl, trivial⟩ ⟨⟨rfl, rfl, rfl, .same rfl, rfl, .same rfl, rfl, trivial⟩, ⟨rfl, rfl, rfl, .same rfl, rfl, .same rfl, rfl, trivial⟩, ⟨rfl, rfl, rfl, .same rfl, rfl, .same rfl, rfl, trivial⟩, trivial⟩ rfl rfl) fun s' h => ⟨m - 1, by omega, i + 1, by omega, h⟩
            · have hq : mayTo l c.played v i = false := by simpa using hq
              refine BoolCase.no hq ?_
              conv => whnf
              repeat (first | (refine Conf.mk (by kernel_rfl) ?_; conv => whnf) | (refine SeqOk.go ?_; conv => whnf))
              exact Into.mono (Into.to [0, 1, 2] [(12, dInt (i + 1 : Nat)), (10, dBool (mayTo l c.played v (i + 1))), (4, .ptr 0 0), (5, .ptr 1 0), (6, .ptr 2 0), (9, .dat (.list ((insideL l v).map Entry'.enc)))] [(0, .vars 25 2 [dInt c.colors, .dat (.list (c.played.map Id.enc))] true), (1, .vars 27 2 [dInt v.a, dInt v.b] true), (2, .vars 25 2 [dInt 0, .nil] true)] ⟨.same (congrArg dInt (wrap_up (by omega))), (by rw [hms, hq, Bool.false_and]; exact .kb false), .same rfl, .same rfl, .same rfl, .same rfl, trivial⟩ ⟨⟨rfl, rfl, rfl, .same rfl, rfl, .same rfl, rfl, trivial⟩, ⟨rfl, rfl, rfl, .same rfl, rfl, .same rfl, rfl, trivial⟩, ⟨rfl, rfl, rfl, .same rfl, rfl, .same rfl, rfl, trivial⟩, trivial⟩ rfl rfl) fun s' h => ⟨m - 1, by omega, i + 1, by omega, h⟩
          · have hk : i = c.played.length := by have := ge_of_len h; omega
            subst hk
            conv => whnf
            repeat (first | (refine Conf.mk (by kernel_rfl) ?_; conv => whnf) | (refine SeqOk.go ?_; conv => whnf))
            subst hQ1
            conv => whnf
            conv => whnf
            repeat (first | (refine Conf.mk (by kernel_rfl) ?_; conv => whnf) | (refine SeqOk.go ?_; conv => whnf))
            have hbm : mayTo l c.played v c.played.length = mayPlay l c.played v := mayTo_all l c.played v
            by_cases h3 : mayPlay l c.played v = true
            · have hE : playErr l c v = 0 := by unfold playErr; rw [if_neg (by simp [h1]), if_neg (by simp [h2]), if_neg (by simp [h3])]
              have hA : playAns l c v = ⟨c.colors, moreOf (insideL l v) c.colors c.played⟩ := by unfold playAns; rw [if_pos hE]
              obtain ⟨m1, m2, m3⟩ := mayPlay_iff.1 h3
              refine BoolCase.no (by rw [hbm, h3]; rfl) ?_
              conv => whnf
              repeat (first | (refine Conf.mk (by kernel_rfl) ?_; conv => whnf) | (refine SeqOk.go ?_; conv => whnf))
              refine .data _ _ (moreOf_ok (hr.inside m2) c.colors c.played (fun x hx => by
                obtain ⟨e, he, rfl⟩ := hin x hx
                exact ⟨e, mem_inside.2 ⟨he, m3 _ hx⟩, rfl⟩) hnd) rfl ?_
              conv => whnf
              repeat (first | (refine Conf.mk (by kernel_rfl) ?_; conv => whnf) | (refine SeqOk.go ?_; conv => whnf))
              exact Ret.to (by rw [hE, hA]; rfl)
            · have h3 : mayPlay l c.played v = false := by simpa using h3
              have hE : playErr l c v = 4 := by unfold playErr; rw [if_neg (by simp [h1]), if_neg (by simp [h2]), if_pos h3]
              have hA : playAns l c v = ⟨0, []⟩ := by unfold playAns; rw [if_neg (by rw [hE]; decide)]
              refine BoolCase.yes (by rw [hbm, h3]; rfl) ?_
              conv => whnf
              repeat (first | (refine Conf.mk (by kernel_rfl) ?_; conv => whnf) | (refine SeqOk.go ?_; conv => whnf))
              exact Ret.to (by rw [hE, hA]; rfl)
      · have hz : mayTo l c.played v 0 = false := by rw [hz0, show linksIn l v = false by simpa using hL, Bool.false_and]
        refine BoolCase.no (by simpa using hL) ?_
        conv => whnf
        repeat (first | (refine Conf.mk (by kernel_rfl) ?_; conv => whnf) | (refine SeqOk.go ?_; conv => whnf))
        refine LoopOk.hide fun Q1 hQ1 => ?_
        refine LoopOk.mk (fun m s => ∃ i, i + m = c.played.length ∧ s = ⟨[(12, dInt i), (10, dBool (mayTo l c.played v i)), (4, .ptr 0 0), (5, .ptr 1 0), (6, .ptr 2 0), (9, .dat (.list ((insideL l v).map Entry'.enc)))], 3, [(0, .vars 25 2 [dInt c.colors, .dat (.list (c.played.map Id.enc))] true), (1, .vars 27 2 [dInt v.a, dInt v.b] true), (2, .vars 25 2 [dInt 0, .nil] true)]⟩) c.played.length (Into.mono (Into.to [0, 1, 2] [(12, dInt (0 : Nat)), (10, dBool (mayTo l c.played v 0)), (4, .ptr 0 0), (5, .ptr 1 0), (6, .ptr 2 0), (9, .dat (.list ((insideL l v).map Entry'.enc)))] [(0, .vars 25 2 [dInt c.colors, .dat (.list (c.played.map Id.enc))] true), (1, .vars 27 2 [dInt v.a, dInt v.b] true), (2, .vars 25 2 [dInt 0, .nil] true)] ⟨.same rfl, (by rw [hz]; exact .kb false), .same rfl, .same rfl, .same rfl, .same rfl, trivial⟩ ⟨⟨rfl, rfl, rfl, .same rfl, rfl, .same rfl, rfl, trivial⟩, ⟨rfl, rfl, rfl, .same rfl, rfl, .same rfl, rfl, trivial⟩, ⟨rfl, rfl, rfl, .same rfl, rfl, .same rfl, rfl, trivial⟩, trivial⟩ rfl rfl) fun s' h => ⟨0, by omega, h⟩) ?_
        rintro m s ⟨i, him, rfl⟩
        conv => whnf
        repeat (first | (refine Conf.mk (by kernel_rfl) ?_; conv => whnf) | (refine SeqOk.go ?_; conv => whnf))
        refine ⟨fun h => ?_, fun h => ?_⟩
        · have hi' := lt_of_len h
          have hms := mayTo_succ (l := l) (v := v) hi'
          have hxo := hok _ (List.getElem_mem hi')
          conv => whnf
          repeat (first | (refine Conf.mk (by kernel_rfl) ?_; conv => whnf) | (refine SeqOk.go ?_; conv => whnf))
          by_cases hq : mayTo l c.played v i = true
          · refine BoolCase.yes hq ?_
            conv => whnf
            repeat (first | (refine Conf.mk (by kernel_rfl) ?_; conv => whnf) | (refine SeqOk.go ?_; conv => whnf))
            refine AtIdx.ofMap hi' rfl ?_
            conv => whnf
            repeat (first | (refine Conf.mk (by kernel_rfl) ?_; conv => whnf) | (refine SeqOk.go ?_; conv => whnf))
            refine AtIdx.ofMap hi' rfl ?_
            conv => whnf
            repeat (first | (refine Conf.mk (by kernel_rfl) ?_; conv => whnf) | (refine SeqOk.go ?_; conv => whnf))
            rcases r_of_ok hxo with hx | hx
            · refine .mk 0 hx (by decide) ?_
              conv => whnf
              repeat (first | (refine Conf.mk (by kernel_rfl) ?_; conv => whnf) | (refine SeqOk.go ?_; conv => whnf))
              exact Into.mono (Into.to [0, 1, 2] [(12, dInt (i + 1 : Nat)), (10, dBool (mayTo l c.played v (i + 1))), (4, .ptr 0 0), (5, .ptr 1 0), (6, .ptr 2 0), (9, .dat (.list ((insideL l v).map Entry'.enc)))] [(0, .vars 25 2 [dInt c.colors, .dat (.list (c.played.map Id.enc))] true), (1, .vars 27 2 [dInt v.a, dInt v.b] true), (2, .vars 25 2 [dInt 0, .nil] true)] ⟨.same (congrArg dInt (wrap_up (by omega))), .same (by rw [hms, hq, Bool.true_and]; unfold inV Vec.at'; rw [if_pos hx]; rfl), .same rfl, .same rfl, .same rfl, .same rfl, trivial⟩ ⟨⟨rfl, rfl, rfl, .same rfl, rfl, .same rfl, rfl, trivial⟩, ⟨rfl, rfl, rfl, .same rfl, rfl, .same rfl, rfl, trivial⟩, ⟨rfl, rfl, rfl, .same rfl, rfl, .same rfl, rfl, trivial⟩, trivial⟩ rfl rfl) fun s' h => ⟨m - 1, by omega, i + 1, by omega, h⟩
            · refine .mk 1 hx (by decide) ?_
              conv => whnf
              repeat (first | (refine Conf.mk (by kernel_rfl) ?_; conv => whnf) | (refine SeqOk.go ?_; conv => whnf))
              exact Into.mono (Into.to [0, 1, 2] [(12, dInt (i + 1 : Nat)), (10, dBool (mayTo l c.played v (i + 1))), (4, .ptr 0 0), (5, .ptr 1 0), (6, .ptr 2 0), (9, .dat (.list ((insideL l v).map Entry'.enc)))] [(0, .vars 25 2 [dInt c.colors, .dat (.list (c.played.map Id.enc))] true), (1, .vars 27 2 [dInt v.a, dInt v.b] true), (2, .vars 25 2 [dInt 0, .nil] true)] ⟨.same (congrArg dInt (wrap_up (by omega))), .same (by rw [hms, hq, Bool.true_and]; unfold inV Vec.at'; rw [if_neg (by omega)]; rfl), .same rfl, .same rfl, .same rfl, .same rfl, trivial⟩ ⟨⟨rfl, rfl, rfl, .same rfl, rfl, .same rfl, rfl, trivial⟩, ⟨rfl, rfl, rfl, .same rfl, rfl, .same rfl, rfl, trivial⟩, ⟨rfl, rfl, rfl, .same rfl, rfl, .same rfl, rfl, trivial⟩, trivial⟩ rfl rfl) fun s' h => ⟨m - 1, by omega, i + 1, by omega, h⟩
          · have hq : mayTo l c.played v i = false := by simpa using hq
            refine BoolCase.no hq ?_
            conv => whnf
            repeat (first | (refine Conf.mk (by kernel_rfl) ?_; conv => whnf) | (refine SeqOk.go ?_; conv => whnf))
            exact Into.mono (Into.to [0, 1, 2] [(12, dInt (i + 1 : Nat)), (10, dBool (mayTo l c.played v (i + 1))), (4, .ptr 0 0), (5, .ptr 1 0), (6, .ptr 2 0), (9, .dat (.list ((insideL l v).map Entry'.enc)))] [(0, .vars 25 2 [dInt c.colors, .dat (.list (c.played.map Id.enc))] true), (1, .vars 27 2 [dInt v.a, dInt v.b] true), (2, .vars 25 2 [dInt 0, .nil] true)] ⟨.same (congrArg dInt (wrap_up (by omega))), (by rw [hms, hq, Bool.false_and]; exact .kb false), .same rfl, .same rfl, .same rfl, .same rfl, trivial⟩ ⟨⟨rfl, rfl, rfl, .same rfl, rfl, .same rfl, rfl, trivial⟩, ⟨rfl, rfl, rfl, .same rfl, rfl, .same rfl, rfl, trivial⟩, ⟨rfl, rfl, rfl, .same rfl, rfl, .same rfl, rfl, trivial⟩, trivial⟩ rfl rfl) fun s' h => ⟨m - 1, by omega, i + 1, by omega, h⟩
        · have hk : i = c.played.length := by have := ge_of_len h; omega
          subst hk
          conv => whnf
          repeat (first | (refine Conf.mk (by kernel_rfl) ?_; conv => whnf) | (refine SeqOk.go ?_; conv => whnf))
          subst hQ1
          conv => whnf
          conv => whnf
          repeat (first | (refine Conf.mk (by kernel_rfl) ?_; conv => whnf) | (refine SeqOk.go ?_; conv => whnf))
          have hbm : mayTo l c.played v c.played.length = mayPlay l c.played v := mayTo_all l c.played v
          by_cases h3 : mayPlay l c.played v = true
          · have hE : playErr l c v = 0 := by unfold playErr; rw [if_neg (by simp [h1]), if_neg (by simp [h2]), if_neg (by simp [h3])]
            have hA : playAns l c v = ⟨c.colors, moreOf (insideL l v) c.colors c.played⟩ := by unfold playAns; rw [if_pos hE]
            obtain ⟨m1, m2, m3⟩ := mayPlay_iff.1 h3
            refine BoolCase.no (by rw [hbm, h3]; rfl) ?_
            conv => whnf
            repeat (first | (refine Conf.mk (by kernel_rfl) ?_; conv => whnf) | (refine SeqOk.go ?_; conv => whnf))
            refine .data _ _ (moreOf_ok (hr.inside m2) c.colors c.played (fun x hx => by
              obtain ⟨e, he, rfl⟩ := hin x hx
              exact ⟨e, mem_inside.2 ⟨he, m3 _ hx⟩, rfl⟩) hnd) rfl ?_
            conv => whnf
            repeat (first | (refine Conf.mk (by kernel_rfl) ?_; conv => whnf) | (refine SeqOk.go ?_; conv => whnf))
            exact Ret.to (by rw [hE, hA]; rfl)
          · have h3 : mayPlay l c.played v = false := by simpa using h3
            have hE : playErr l c v = 4 := by unfold playErr; rw [if_neg (by simp [h1]), if_neg (by simp [h2]), if_pos h3]
            have hA : playAns l c v = ⟨0, []⟩ := by unfold playAns; rw [if_neg (by rw [hE]; decide)]
            refine BoolCase.yes (by rw [hbm, h3]; rfl) ?_
            conv => whnf
            repeat (first | (refine Conf.mk (by kernel_rfl) ?_; conv => whnf) | (refine SeqOk.go ?_; conv => whnf))
            exact Ret.to (by rw [hE, hA]; rfl)
    · have hve : vecErr v = 3 := by unfold vecErr; rw [if_neg h2]
      have hE : playErr l c v = 3 := by unfold playErr; rw [if_neg (by simp [h1]), if_pos (by simpa using h2)]
      have hA : playAns l c v = ⟨0, []⟩ := by unfold playAns; rw [if_neg (by rw [hE]; decide)]
      refine BoolCase.yes (by simp [hve]) ?_
      conv => whnf
      repeat (first | (refine Conf.mk (by kernel_rfl) ?_; conv => whnf) | (refine SeqOk.go ?_; conv => whnf))
      exact Ret.to (by rw [hE, hA, hve]; rfl)
  · have hE : playErr l c v = begunErr l c.colors c.played := by unfold playErr; rw [if_pos h1]
    have hA : playAns l c v = ⟨0, []⟩ := by unfold playAns; rw [if_neg (by rw [hE]; exact h1)]
    refine BoolCase.no (by simp [h1]) ?_
    conv => whnf
    repeat (first | (refine Conf.mk (by kernel_rfl) ?_; conv => whnf) | (refine SeqOk.go ?_; conv => whnf))
    refine BoolCase.yes (by simp [h1]) ?_
    conv => whnf
    repeat (first | (refine Conf.mk (by kernel_rfl) ?_; conv => whnf) | (refine SeqOk.go ?_; conv => whnf))
    exact Ret.to (by rw [hE, hA]; rfl)
end Go.Proofs.Ytlioojekjnigiae.AM
/- Clients: what must be in any case; all calls of them answer as the document says. -/
namespace Go.Proofs.Ytlioojekjnigiae.AM
set_option linter.unusedVariables false
set_option linter.unusedSimpArgs false

def cA : Client' := ⟨1, [⟨0, 1⟩, ⟨1, 1⟩]⟩
def cB : Client' := ⟨1, [⟨0, 1⟩, ⟨1, 1⟩, ⟨0, 2⟩]⟩
def tB : List ByteArray := [⟨#[112, 117, 116, 32, 97, 32, 120]⟩, ⟨#[112, 117, 116, 32, 97, 32, 121]⟩, ⟨#[100, 114, 111, 112, 32, 97]⟩]
set_option maxHeartbeats 0 in
theorem clientBegun_ok : PCall Try.prog 11 [] (dBool true) := by
  have h1 := clientPlay_ok someLog someLog_ok ⟨1, []⟩ (by decide) ⟨1, 1⟩
  rw [show playAns someLog ⟨1, []⟩ ⟨1, 1⟩ = cA from by kernel_rfl, show playErr someLog ⟨1, []⟩ ⟨1, 1⟩ = 0 from by kernel_rfl] at h1
  have h2 := clientPlay_ok someLog someLog_ok cA (by decide) ⟨2, 2⟩
  rw [show playAns someLog cA ⟨2, 2⟩ = cB from by kernel_rfl, show playErr someLog cA ⟨2, 2⟩ = 0 from by kernel_rfl] at h2
  have h3 := clientTexts_ok someLog someLog_ok cB (by decide)
  rw [show textsAns someLog cB = tB from by kernel_rfl, show begunErr someLog cB.colors cB.played = 0 from by kernel_rfl] at h3
  have h4 := clientPlay_ok someLog someLog_ok cA (by decide) ⟨1, 2⟩
  rw [show playAns someLog cA ⟨1, 2⟩ = ⟨0, []⟩ from by kernel_rfl, show playErr someLog cA ⟨1, 2⟩ = 4 from by kernel_rfl] at h4
  have h5 := clientCheck_ok someLog someLog_ok cB (by decide)
  rw [show begunErr someLog cB.colors cB.played = 0 from by kernel_rfl] at h5
  refine pcall_intro tab_all tab_mixed Try.func11 (by kernel_rfl) Try.ntmps11 rfl ?_
  conv => whnf
  refine .data _ _ entries_ok rfl ?_
  conv => whnf
  repeat (first | (refine Conf.mk (by kernel_rfl) ?_; conv => whnf) | (refine SeqOk.go ?_; conv => whnf))
  refine .data _ _ h1 rfl ?_
  conv => whnf
  repeat (first | (refine Conf.mk (by kernel_rfl) ?_; conv => whnf) | (refine SeqOk.go ?_; conv => whnf))
  refine .data _ _ entries_ok rfl ?_
  conv => whnf
  repeat (first | (refine Conf.mk (by kernel_rfl) ?_; conv => whnf) | (refine SeqOk.go ?_; conv => whnf))
  refine .data _ _ h2 rfl ?_
  conv => whnf
  repeat (first | (refine Conf.mk (by kernel_rfl) ?_; conv => whnf) | (refine SeqOk.go ?_; conv => whnf))
  refine .data _ _ entries_ok rfl ?_
  conv => whnf
  repeat (first | (refine Conf.mk (by kernel_rfl) ?_; conv => whnf) | (refine SeqOk.go ?_; conv => whnf))
  refine .data _ _ h3 rfl ?_
  conv => whnf
  repeat (first | (refine Conf.mk (by kernel_rfl) ?_; conv => whnf) | (refine SeqOk.go ?_; conv => whnf))
  refine .data _ _ entries_ok rfl ?_
  conv => whnf
  repeat (first | (refine Conf.mk (by kernel_rfl) ?_; conv => whnf) | (refine SeqOk.go ?_; conv => whnf))
  refine .data _ _ h4 rfl ?_
  conv => whnf
  repeat (first | (refine Conf.mk (by kernel_rfl) ?_; conv => whnf) | (refine SeqOk.go ?_; conv => whnf))
  refine BoolCase.yes rfl ?_
  conv => whnf
  repeat (first | (refine Conf.mk (by kernel_rfl) ?_; conv => whnf) | (refine SeqOk.go ?_; conv => whnf))
  refine BoolCase.yes rfl ?_
  conv => whnf
  repeat (first | (refine Conf.mk (by kernel_rfl) ?_; conv => whnf) | (refine SeqOk.go ?_; conv => whnf))
  refine BoolCase.yes rfl ?_
  conv => whnf
  repeat (first | (refine Conf.mk (by kernel_rfl) ?_; conv => whnf) | (refine SeqOk.go ?_; conv => whnf))
  refine BoolCase.yes rfl ?_
  conv => whnf
  repeat (first | (refine Conf.mk (by kernel_rfl) ?_; conv => whnf) | (refine SeqOk.go ?_; conv => whnf))
  refine .data _ _ entries_ok rfl ?_
  conv => whnf
  repeat (first | (refine Conf.mk (by kernel_rfl) ?_; conv => whnf) | (refine SeqOk.go ?_; conv => whnf))
  refine .data _ _ h5 rfl ?_
  conv => whnf
  repeat (first | (refine Conf.mk (by kernel_rfl) ?_; conv => whnf) | (refine SeqOk.go ?_; conv => whnf))
  refine BoolCase.yes rfl ?_
  conv => whnf
  repeat (first | (refine Conf.mk (by kernel_rfl) ?_; conv => whnf) | (refine SeqOk.go ?_; conv => whnf))
  refine .data _ _ (id_ok _ _) rfl ?_
  conv => whnf
  repeat (first | (refine Conf.mk (by kernel_rfl) ?_; conv => whnf) | (refine SeqOk.go ?_; conv => whnf))
  refine .data _ _ (id_ok _ _) rfl ?_
  conv => whnf
  repeat (first | (refine Conf.mk (by kernel_rfl) ?_; conv => whnf) | (refine SeqOk.go ?_; conv => whnf))
  refine .look _ _ (same_ok [⟨0, 1⟩, ⟨1, 1⟩] (by decide)) rfl rfl ?_
  conv => whnf
  repeat (first | (refine Conf.mk (by kernel_rfl) ?_; conv => whnf) | (refine SeqOk.go ?_; conv => whnf))
  refine .look _ _ (sameTexts_kb tB (by decide)) rfl rfl ?_
  conv => whnf
  repeat (first | (refine Conf.mk (by kernel_rfl) ?_; conv => whnf) | (refine SeqOk.go ?_; conv => whnf))
  exact Ret.bool rfl
theorem play_len (l : List Entry') (c : Client') (v : Vec) : (playAns l c v).played.length ≤ 40 := by
  by_cases h : playErr l c v = 0
  · obtain ⟨h1, h2, h3⟩ := playErr_zero h
    obtain ⟨m1, m2, m3⟩ := mayPlay_iff.1 h3
    obtain ⟨hr, hc, hin, hnd, hp⟩ := begun_facts (begun_inside h1 m2 m3)
    unfold playAns
    rw [if_pos h]
    exact (moreOf_len hr hin hnd).1
  · unfold playAns
    rw [if_neg h]
    exact Nat.zero_le _
end Go.Proofs.Ytlioojekjnigiae.AM
/- Clients: who plays to one time, and then to a later one. -/
namespace Go.Proofs.Ytlioojekjnigiae.AM
set_option linter.unusedVariables false
set_option linter.unusedSimpArgs false

theorem play_facts {l : List Entry'} {c : Client'} {v : Vec} (h : playErr l c v = 0) : playAns l c v = ⟨c.colors, moreOf (insideL l v) c.colors c.played⟩ ∧ begunErr l c.colors (moreOf (insideL l v) c.colors c.played) = 0 ∧ (moreOf (insideL l v) c.colors c.played).take c.played.length = c.played ∧ c.played.length ≤ (moreOf (insideL l v) c.colors c.played).length := by
  obtain ⟨h1, h2, h3⟩ := playErr_zero h
  obtain ⟨m1, m2, m3⟩ := mayPlay_iff.1 h3
  have hr := (begun_facts h1).1
  have hp := moreOf_prefix (insideL l v) c.colors c.played
  refine ⟨by unfold playAns; rw [if_pos h], begun_outside hr m2 (begun_more (begun_inside h1 m2 m3)), (List.prefix_iff_eq_take.1 hp).symm, hp.length_le⟩
theorem play_has {l : List Entry'} {c : Client'} {v : Vec} (h : playErr l c v = 0) {e : Entry'} (he : e ∈ l) : (meets e.colors c.colors && inV v e.id) = hasId (moreOf (insideL l v) c.colors c.played) e.id := by
  obtain ⟨h1, h2, h3⟩ := playErr_zero h
  obtain ⟨m1, m2, m3⟩ := mayPlay_iff.1 h3
  have hr := (begun_facts h1).1
  have hbi := begun_inside h1 m2 m3
  rw [Bool.eq_iff_iff, Bool.and_eq_true, hasId_iff]
  constructor
  · rintro ⟨k1, k2⟩
    exact more_full hbi (colored_inside.2 ⟨colored_iff.2 ⟨e, he, rfl, k1⟩, k2⟩)
  · intro k
    obtain ⟨k1, k2⟩ := colored_inside.1 (begun_mem (begun_more hbi) k)
    obtain ⟨f, hf, hfe, hfm⟩ := colored_iff.1 k1
    rw [hr.ent hf he hfe] at hfm
    exact ⟨hfm, k2⟩
theorem playErr_kind {l : List Entry'} {c : Client'} {v : Vec} (h1 : begunErr l c.colors c.played = 0) (h : playErr l c v ≠ 0) : playErr l c v = 4 ∨ playErr l c v = 3 := by
  unfold playErr at h ⊢
  rw [if_neg (by simp [h1])] at h ⊢
  split
  · exact .inr rfl
  · rename_i h2
    rw [if_neg h2] at h
    split
    · exact .inl rfl
    · rename_i h3; rw [if_neg h3] at h; exact absurd rfl h
set_option maxHeartbeats 0 in
theorem clientStays_ok (l : List Entry') (hl : LogOk l) (c : Client') (hi : c.played.length ≤ 140737488355326) (v w : Vec) : PCall Try.prog 4 [.dat (.list (l.map Entry'.enc)), c.arg, v.arg, w.arg] (dBool true) := by
  have hcb := (PCall.kb (b := true) clientBegun_ok)
  have hob := (PCall.kb (b := true) orderBegun_ok)
  have hp1 := clientPlay_ok l hl c hi v
  have hpl := play_len l c v
  refine pcall_cut tab_all tab_mixed Try.func4 (by kernel_rfl) Try.ntmps4 rfl ?_
  conv => whnf
  conv => whnf
  repeat (first | (refine Conf.mk (by kernel_rfl) ?_; conv => whnf) | (refine SeqOk.go ?_; conv => whnf))
  refine .data _ _ hcb rfl ?_
  conv => whnf
  repeat (first | (refine Conf.mk (by kernel_rfl) ?_; conv => whnf) | (refine SeqOk.go ?_; conv => whnf))
  refine .data _ _ hob rfl ?_
  conv => whnf
  repeat (first | (refine Conf.mk (by kernel_rfl) ?_; conv => whnf) | (refine SeqOk.go ?_; conv => whnf))
  refine .data _ _ hp1 rfl ?_
  conv => whnf
  repeat (first | (refine Conf.mk (by kernel_rfl) ?_; conv => whnf) | (refine SeqOk.go ?_; conv => whnf))
  by_cases h : playErr l c v = 0
  · obtain ⟨ha, hb, htk, hle⟩ := play_facts h
    obtain ⟨h1, h2, h3⟩ := playErr_zero h
    obtain ⟨hr, hc, hin, hnd, hpo⟩ := begun_facts hb
    have hll := hr.len
    rw [ha] at hpl
    have hpl : (moreOf (insideL l v) c.colors c.played).length ≤ 40 := hpl
    have his := Is_ok l hl (moreOf (insideL l v) c.colors c.played) (by omega)
    rw [begun_is hb, (begunErr_ok hb).1] at his
    have hck := clientCheck_ok l hl ⟨c.colors, (moreOf (insideL l v) c.colors c.played)⟩ (by show (moreOf (insideL l v) c.colors c.played).length ≤ _; omega)
    rw [show begunErr l (⟨c.colors, (moreOf (insideL l v) c.colors c.played)⟩ : Client').colors (⟨c.colors, (moreOf (insideL l v) c.colors c.played)⟩ : Client').played = 0 from hb] at hck
    have hsp := same_ok c.played (by omega)
    rw [ha]
    refine BoolCase.no (by simp [h]) ?_
    conv => whnf
    repeat (first | (refine Conf.mk (by kernel_rfl) ?_; conv => whnf) | (refine SeqOk.go ?_; conv => whnf))
    refine .data _ _ his rfl ?_
    conv => whnf
    repeat (first | (refine Conf.mk (by kernel_rfl) ?_; conv => whnf) | (refine SeqOk.go ?_; conv => whnf))
    refine BoolCase.no rfl ?_
    conv => whnf
    repeat (first | (refine Conf.mk (by kernel_rfl) ?_; conv => whnf) | (refine SeqOk.go ?_; conv => whnf))
    refine BoolCase.no rfl ?_
    conv => whnf
    repeat (first | (refine Conf.mk (by kernel_rfl) ?_; conv => whnf) | (refine SeqOk.go ?_; conv => whnf))
    refine .data _ _ hck rfl ?_
    conv => whnf
    repeat (first | (refine Conf.mk (by kernel_rfl) ?_; conv => whnf) | (refine SeqOk.go ?_; conv => whnf))
    refine BoolCase.no rfl ?_
    conv => whnf
    repeat (first | (refine Conf.mk (by kernel_rfl) ?_; conv => whnf) | (refine SeqOk.go ?_; conv => whnf))
    refine BoolCase.no (by simp) ?_
    conv => whnf
    repeat (first | (refine Conf.mk (by kernel_rfl) ?_; conv => whnf) | (refine SeqOk.go ?_; conv => whnf))
    refine BoolCase.no (by simp; omega) ?_
    conv => whnf
    repeat (first | (refine Conf.mk (by kernel_rfl) ?_; conv => whnf) | (refine SeqOk.go ?_; conv => whnf))
    refine .mk 0 c.played.length rfl (by simp) (Nat.zero_le _) (by simp; omega) ?_
    rw [fits_takeI, htk]
    conv => whnf
    repeat (first | (refine Conf.mk (by kernel_rfl) ?_; conv => whnf) | (refine SeqOk.go ?_; conv => whnf))
    refine .data _ _ hsp rfl ?_
    conv => whnf
    repeat (first | (refine Conf.mk (by kernel_rfl) ?_; conv => whnf) | (refine SeqOk.go ?_; conv => whnf))
    refine LoopOk.hide fun Q1 hQ1 => ?_
    refine LoopOk.mk (fun m s => ∃ i, i + m = l.length ∧ s = ⟨[(13, dInt i), (0, .dat (.list (l.map Entry'.enc))), (5, .ptr 0 0), (6, .ptr 1 0), (7, .ptr 2 0), (9, .ptr 3 0)], 4, [(0, .vars 25 2 [dInt c.colors, .dat (.list (c.played.map Id.enc))] true), (1, .vars 27 2 [dInt v.a, dInt v.b] true), (2, .vars 27 2 [dInt w.a, dInt w.b] true), (3, .vars 25 2 [dInt c.colors, .dat (.list ((moreOf (insideL l v) c.colors c.played).map Id.enc))] true)]⟩) l.length (Into.mono (Into.to [0, 1, 2, 3] [(13, dInt (0 : Nat)), (0, .dat (.list (l.map Entry'.enc))), (5, .ptr 0 0), (6, .ptr 1 0), (7, .ptr 2 0), (9, .ptr 3 0)] [(0, .vars 25 2 [dInt c.colors, .dat (.list (c.played.map Id.enc))] true), (1, .vars 27 2 [dInt v.a, dInt v.b] true), (2, .vars 27 2 [dInt w.a, dInt w.b] true), (3, .vars 25 2 [dInt c.colors, .dat (.list ((moreOf (insideL l v) c.colors c.played).map Id.enc))] true)] (by repeat (first | exact trivial | refine ⟨.same (congrArg dInt (wrap_up (by omega))), ?_⟩ | refine ⟨.same rfl, ?_⟩ | refine ⟨.any _, ?_⟩)) ⟨⟨rfl, rfl, rfl, .same rfl, rfl, .same rfl, rfl, trivial⟩, ⟨rfl, rfl, rfl, .same rfl, rfl, .same rfl, rfl, trivial⟩, ⟨rfl, rfl, rfl, .same rfl, rfl, .same rfl, rfl, trivial⟩, ⟨rfl, rfl, rfl, .same rfl, rfl, .same rfl, rfl, trivial⟩, trivial⟩ rfl rfl) fun s' h => ⟨0, by omega, h⟩) ?_
    rintro m s ⟨i, him, rfl⟩
    conv => whnf
    repeat (first | (refine Conf.mk (by kernel_rfl) ?_; conv => whnf) | (refine SeqOk.go ?_; conv => whnf))
    refine ⟨fun h4 => ?_, fun h4 => ?_⟩
    · have hi' := lt_of_len h4
      have hm := List.getElem_mem hi'
      have hph := play_has h hm
      have hhi := hasId_ok l[i].id (moreOf (insideL l v) c.colors c.played) (by omega)
      rw [← hph] at hhi
      conv => whnf
      repeat (first | (refine Conf.mk (by kernel_rfl) ?_; conv => whnf) | (refine SeqOk.go ?_; conv => whnf))
      refine AtIdx.ofMap hi' rfl ?_
      conv => whnf
      repeat (first | (refine Conf.mk (by kernel_rfl) ?_; conv => whnf) | (refine SeqOk.go ?_; conv => whnf))
      refine .data _ _ (meets_ok l[i].colors c.colors) rfl ?_
      conv => whnf
      repeat (first | (refine Conf.mk (by kernel_rfl) ?_; conv => whnf) | (refine SeqOk.go ?_; conv => whnf))
      by_cases h5 : meets l[i].colors c.colors = true
      · rw [h5, Bool.true_and] at hhi
        refine BoolCase.yes h5 ?_
        conv => whnf
        repeat (first | (refine Conf.mk (by kernel_rfl) ?_; conv => whnf) | (refine SeqOk.go ?_; conv => whnf))
        rcases hr.regs _ hm with hx | hx
        · refine .mk 0 hx (by decide) ?_
          conv => whnf
          repeat (first | (refine Conf.mk (by kernel_rfl) ?_; conv => whnf) | (refine SeqOk.go ?_; conv => whnf))
          refine .data _ _ hhi rfl ?_
          conv => whnf
          repeat (first | (refine Conf.mk (by kernel_rfl) ?_; conv => whnf) | (refine SeqOk.go ?_; conv => whnf))
          refine BoolCase.no (by unfold inV Vec.at'; rw [if_pos hx]; simp) ?_
          conv => whnf
          repeat (first | (refine Conf.mk (by kernel_rfl) ?_; conv => whnf) | (refine SeqOk.go ?_; conv => whnf))
          exact Into.mono (Into.to [0, 1, 2, 3] [(13, dInt (i + 1 : Nat)), (0, .dat (.list (l.map Entry'.enc))), (5, .ptr 0 0), (6, .ptr 1 0), (7, .ptr 2 0), (9, .ptr 3 0)] [(0, .vars 25 2 [dInt c.colors, .dat (.list (c.played.map Id.enc))] true), (1, .vars 27 2 [dInt v.a, dInt v.b] true), (2, .vars 27 2 [dInt w.a, dInt w.b] true), (3, .vars 25 2 [dInt c.colors, .dat (.list ((moreOf (insideL l v) c.colors c.played).map Id.enc))] true)] (by repeat (first | exact trivial | refine ⟨.same (congrArg dInt (wrap_up (by omega))), ?_⟩ | refine ⟨.same rfl, ?_⟩ | refine ⟨.any _, ?_⟩)) ⟨⟨rfl, rfl, rfl, .same rfl, rfl, .same rfl, rfl, trivial⟩, ⟨rfl, rfl, rfl, .same rfl, rfl, .same rfl, rfl, trivial⟩, ⟨rfl, rfl, rfl, .same rfl, rfl, .same rfl, rfl, trivial⟩, ⟨rfl, rfl, rfl, .same rfl, rfl, .same rfl, rfl, trivial⟩, trivial⟩ rfl rfl) fun s' h => ⟨m - 1, by omega, i + 1, by omega, h⟩
        · refine .mk 1 hx (by decide) ?_
          conv => whnf
          repeat (first | (refine Conf.mk (by kernel_rfl) ?_; conv => whnf) | (refine SeqOk.go ?_; conv => whnf))
          refine .data _ _ hhi rfl ?_
          conv => whnf
          repeat (first | (refine Conf.mk (by kernel_rfl) ?_; conv => whnf) | (refine SeqOk.go ?_; conv => whnf))
          refine BoolCase.no (by unfold inV Vec.at'; rw [if_neg (by omega)]; simp) ?_
          conv => whnf
          repeat (first | (refine Conf.mk (by kernel_rfl) ?_; conv => whnf) | (refine SeqOk.go ?_; conv => whnf))
          exact Into.mono (Into.to [0, 1, 2, 3] [(13, dInt (i + 1 : Nat)), (0, .dat (.list (l.map Entry'.enc))), (5, .ptr 0 0), (6, .ptr 1 0), (7, .ptr 2 0), (9, .ptr 3 0)] [(0, .vars 25 2 [dInt c.colors, .dat (.list (c.played.map Id.enc))] true), (1, .vars 27 2 [dInt v.a, dInt v.b] true), (2, .vars 27 2 [dInt w.a, dInt w.b] true), (3, .vars 25 2 [dInt c.colors, .dat (.list ((moreOf (insideL l v) c.colors c.played).map Id.enc))] true)] (by repeat (first | exact trivial | refine ⟨.same (congrArg dInt (wrap_up (by omega))), ?_⟩ | refine ⟨.same rfl, ?_⟩ | refine ⟨.any _, ?_⟩)) ⟨⟨rfl, rfl, rfl, .same rfl, rfl, .same rfl, rfl, trivial⟩, ⟨rfl, rfl, rfl, .same rfl, rfl, .same rfl, rfl, trivial⟩, ⟨rfl, rfl, rfl, .same rfl, rfl, .same rfl, rfl, trivial⟩, ⟨rfl, rfl, rfl, .same rfl, rfl, .same rfl, rfl, trivial⟩, trivial⟩ rfl rfl) fun s' h => ⟨m - 1, by omega, i + 1, by omega, h⟩
      · have h5 : meets l[i].colors c.colors = false := by simpa using h5
        rw [h5, Bool.false_and] at hhi
        refine BoolCase.no h5 ?_
        conv => whnf
        repeat (first | (refine Conf.mk (by kernel_rfl) ?_; conv => whnf) | (refine SeqOk.go ?_; conv => whnf))
        refine .data _ _ hhi rfl ?_
        conv => whnf
        repeat (first | (refine Conf.mk (by kernel_rfl) ?_; conv => whnf) | (refine SeqOk.go ?_; conv => whnf))
        refine BoolCase.no rfl ?_
        conv => whnf
        repeat (first | (refine Conf.mk (by kernel_rfl) ?_; conv => whnf) | (refine SeqOk.go ?_; conv => whnf))
        exact Into.mono (Into.to [0, 1, 2, 3] [(13, dInt (i + 1 : Nat)), (0, .dat (.list (l.map Entry'.enc))), (5, .ptr 0 0), (6, .ptr 1 0), (7, .ptr 2 0), (9, .ptr 3 0)] [(0, .vars 25 2 [dInt c.colors, .dat (.list (c.played.map Id.enc))] true), (1, .vars 27 2 [dInt v.a, dInt v.b] true), (2, .vars 27 2 [dInt w.a, dInt w.b] true), (3, .vars 25 2 [dInt c.colors, .dat (.list ((moreOf (insideL l v) c.colors c.played).map Id.enc))] true)] (by repeat (first | exact trivial | refine ⟨.same (congrArg dInt (wrap_up (by omega))), ?_⟩ | refine ⟨.same rfl, ?_⟩ | refine ⟨.any _, ?_⟩)) ⟨⟨rfl, rfl, rfl, .same rfl, rfl, .same rfl, rfl, trivial⟩, ⟨rfl, rfl, rfl, .same rfl, rfl, .same rfl, rfl, trivial⟩, ⟨rfl, rfl, rfl, .same rfl, rfl, .same rfl, rfl, trivial⟩, ⟨rfl, rfl, rfl, .same rfl, rfl, .same rfl, rfl, trivial⟩, trivial⟩ rfl rfl) fun s' h => ⟨m - 1, by omega, i + 1, by omega, h⟩
    · have hp2 := clientPlay_ok l hl ⟨c.colors, (moreOf (insideL l v) c.colors c.played)⟩ (by show (moreOf (insideL l v) c.colors c.played).length ≤ _; omega) w
      conv => whnf
      repeat (first | (refine Conf.mk (by kernel_rfl) ?_; conv => whnf) | (refine SeqOk.go ?_; conv => whnf))
      subst hQ1
      conv => whnf
      conv => whnf
      repeat (first | (refine Conf.mk (by kernel_rfl) ?_; conv => whnf) | (refine SeqOk.go ?_; conv => whnf))
      refine .data _ _ hp2 rfl ?_
      conv => whnf
      repeat (first | (refine Conf.mk (by kernel_rfl) ?_; conv => whnf) | (refine SeqOk.go ?_; conv => whnf))
      by_cases h6 : playErr l ⟨c.colors, (moreOf (insideL l v) c.colors c.played)⟩ w = 0
      · obtain ⟨ha2, _, htk2, hle2⟩ := play_facts h6
        have hsp2 := same_ok (moreOf (insideL l v) c.colors c.played) (by omega)
        rw [ha2]
        refine BoolCase.no (by simp [h6]) ?_
        conv => whnf
        repeat (first | (refine Conf.mk (by kernel_rfl) ?_; conv => whnf) | (refine SeqOk.go ?_; conv => whnf))
        refine BoolCase.yes (by simp only [List.length_map]; simp; exact hle2) ?_
        conv => whnf
        repeat (first | (refine Conf.mk (by kernel_rfl) ?_; conv => whnf) | (refine SeqOk.go ?_; conv => whnf))
        refine .mk 0 (moreOf (insideL l v) c.colors c.played).length rfl (by simp) (Nat.zero_le _) (by simp only [List.length_map]; exact hle2) ?_
        rw [fits_takeI, show (moreOf (insideL l w) c.colors (moreOf (insideL l v) c.colors c.played)).take (moreOf (insideL l v) c.colors c.played).length = (moreOf (insideL l v) c.colors c.played) from htk2]
        conv => whnf
        repeat (first | (refine Conf.mk (by kernel_rfl) ?_; conv => whnf) | (refine SeqOk.go ?_; conv => whnf))
        refine .data _ _ hsp2 rfl ?_
        conv => whnf
        repeat (first | (refine Conf.mk (by kernel_rfl) ?_; conv => whnf) | (refine SeqOk.go ?_; conv => whnf))
        exact Ret.bool rfl
      · refine BoolCase.yes (by simp [h6]) ?_
        conv => whnf
        repeat (first | (refine Conf.mk (by kernel_rfl) ?_; conv => whnf) | (refine SeqOk.go ?_; conv => whnf))
        rcases playErr_kind (c := ⟨c.colors, (moreOf (insideL l v) c.colors c.played)⟩) hb h6 with h7 | h7
        · refine BoolCase.yes (by simp [h7]) ?_
          conv => whnf
          repeat (first | (refine Conf.mk (by kernel_rfl) ?_; conv => whnf) | (refine SeqOk.go ?_; conv => whnf))
          exact Ret.bool rfl
        · refine BoolCase.no (by simp [h7]) ?_
          conv => whnf
          repeat (first | (refine Conf.mk (by kernel_rfl) ?_; conv => whnf) | (refine SeqOk.go ?_; conv => whnf))
          exact Ret.bool (by simp [h7])
  · refine BoolCase.yes (by simp [h]) ?_
    conv => whnf
    repeat (first | (refine Conf.mk (by kernel_rfl) ?_; conv => whnf) | (refine SeqOk.go ?_; conv => whnf))
    exact Ret.bool (by unfold playAns; rw [if_neg h]; rfl)
end Go.Proofs.Ytlioojekjnigiae.AM
/- Clients: played again to one time nothing comes. -/
namespace Go.Proofs.Ytlioojekjnigiae.AM
set_option linter.unusedVariables false
set_option linter.unusedSimpArgs false

theorem play_again {l : List Entry'} {c : Client'} {v : Vec} (h : playErr l c v = 0) : playErr l ⟨c.colors, moreOf (insideL l v) c.colors c.played⟩ v = 0 ∧ playAns l ⟨c.colors, moreOf (insideL l v) c.colors c.played⟩ v = ⟨c.colors, moreOf (insideL l v) c.colors c.played⟩ := by
  obtain ⟨ha, hb, _, _⟩ := play_facts h
  obtain ⟨h1, h2, h3⟩ := playErr_zero h
  obtain ⟨m1, m2, m3⟩ := mayPlay_iff.1 h3
  have hbi := begun_more (begun_inside h1 m2 m3)
  have hm : mayPlay l (moreOf (insideL l v) c.colors c.played) v = true := mayPlay_iff.2 ⟨m1, m2, fun x hx => (colored_inside.1 (begun_mem hbi hx)).2⟩
  have hE : playErr l ⟨c.colors, moreOf (insideL l v) c.colors c.played⟩ v = 0 := by unfold playErr; rw [if_neg (by simp [hb]), if_neg (by simp [h2]), if_neg (by simp [hm])]
  exact ⟨hE, by unfold playAns; rw [if_pos hE, more_more]⟩
theorem counts_may {l : List Entry'} (hr : Right l) : mayPlay l [] (counts l) = true := by
  refine mayPlay_iff.2 ⟨by simp [withinP], linksIn_iff.2 fun e he _ y hy => ?_, by simp⟩
  obtain ⟨x, hx, rfl⟩ := hr.links he hy
  have := (mem_inside (v := ⟨cnt 0 l, cnt 1 l⟩)).1 (by rw [inside_all hr]; exact hx)
  exact this.2
theorem play_end {l : List Entry'} (hr : Right l) (c : Int) : playErr l ⟨c, []⟩ (counts l) = begunErr l c [] ∧ (playAns l ⟨c, []⟩ (counts l)).played = moreAns l c [] := by
  have hm := counts_may hr
  by_cases h : begunErr l c [] = 0
  · have hE : playErr l ⟨c, []⟩ (counts l) = 0 := by unfold playErr; rw [if_neg (by simp [h]), if_neg (by simp [counts_ok hr]), if_neg (by simp [hm])]
    refine ⟨by rw [hE, h], ?_⟩
    unfold playAns moreAns
    rw [if_pos hE, if_pos h]
    show moreOf (insideL l ⟨cnt 0 l, cnt 1 l⟩) c [] = _
    rw [inside_all hr]
  · have hE : playErr l ⟨c, []⟩ (counts l) = begunErr l c [] := by unfold playErr; rw [if_pos (by simp [h])]
    refine ⟨hE, ?_⟩
    unfold playAns moreAns
    rw [if_neg (by rw [hE]; exact h), if_neg h]
set_option maxHeartbeats 0 in
theorem clientAgain_ok (l : List Entry') (hl : LogOk l) (c : Int) (v : Vec) : PCall Try.prog 5 [.dat (.list (l.map Entry'.enc)), dInt c, v.arg] (dBool true) := by
  have hcb := (PCall.kb (b := true) clientBegun_ok)
  have hob := (PCall.kb (b := true) orderBegun_ok)
  have hdb := (PCall.kb (b := true) dagBegun_ok)
  have hp1 := clientPlay_ok l hl ⟨c, []⟩ (by simp) v
  have hpl := play_len l ⟨c, []⟩ v
  have hco := Count_ok l hl
  have hfi := first_ok l hl c
  refine pcall_cut tab_all tab_mixed Try.func5 (by kernel_rfl) Try.ntmps5 rfl ?_
  conv => whnf
  conv => whnf
  repeat (first | (refine Conf.mk (by kernel_rfl) ?_; conv => whnf) | (refine SeqOk.go ?_; conv => whnf))
  refine .data _ _ hcb rfl ?_
  conv => whnf
  repeat (first | (refine Conf.mk (by kernel_rfl) ?_; conv => whnf) | (refine SeqOk.go ?_; conv => whnf))
  refine .data _ _ hob rfl ?_
  conv => whnf
  repeat (first | (refine Conf.mk (by kernel_rfl) ?_; conv => whnf) | (refine SeqOk.go ?_; conv => whnf))
  refine .data _ _ hdb rfl ?_
  conv => whnf
  repeat (first | (refine Conf.mk (by kernel_rfl) ?_; conv => whnf) | (refine SeqOk.go ?_; conv => whnf))
  refine .data _ _ hp1 rfl ?_
  conv => whnf
  refine SeqOk.cut' ⟨[(0, .dat (.list (l.map Entry'.enc))), (1, dInt c)], 0, []⟩ ?_ ?_
  · conv => whnf
    repeat (first | (refine Conf.mk (by kernel_rfl) ?_; conv => whnf) | (refine SeqOk.go ?_; conv => whnf))
    by_cases h : playErr l ⟨c, []⟩ v = 0
    · obtain ⟨ha, hb, _, _⟩ := play_facts h
      obtain ⟨he2, ha2⟩ := play_again h
      rw [ha] at hpl
      have hpl : (moreOf (insideL l v) c []).length ≤ 40 := hpl
      have hp2 := clientPlay_ok l hl ⟨c, moreOf (insideL l v) c []⟩ (by show (moreOf (insideL l v) c []).length ≤ _; omega) v
      rw [he2, ha2] at hp2
      have ht := clientTexts_ok l hl ⟨c, moreOf (insideL l v) c []⟩ (by show (moreOf (insideL l v) c []).length ≤ _; omega)
      rw [show begunErr l (⟨c, moreOf (insideL l v) c []⟩ : Client').colors (⟨c, moreOf (insideL l v) c []⟩ : Client').played = 0 from hb] at ht
      have htl : (textsAns l ⟨c, moreOf (insideL l v) c []⟩).length = (moreOf (insideL l v) c []).length := by
        unfold textsAns
        rw [if_pos hb]
        simp [textsOf]
      rw [ha]
      refine BoolCase.yes (by simp [h]) ?_
      conv => whnf
      repeat (first | (refine Conf.mk (by kernel_rfl) ?_; conv => whnf) | (refine SeqOk.go ?_; conv => whnf))
      refine .data _ _ hp2 rfl ?_
      conv => whnf
      repeat (first | (refine Conf.mk (by kernel_rfl) ?_; conv => whnf) | (refine SeqOk.go ?_; conv => whnf))
      refine .data _ _ ht rfl ?_
      conv => whnf
      repeat (first | (refine Conf.mk (by kernel_rfl) ?_; conv => whnf) | (refine SeqOk.go ?_; conv => whnf))
      refine BoolCase.no rfl ?_
      conv => whnf
      repeat (first | (refine Conf.mk (by kernel_rfl) ?_; conv => whnf) | (refine SeqOk.go ?_; conv => whnf))
      refine BoolCase.no rfl ?_
      conv => whnf
      repeat (first | (refine Conf.mk (by kernel_rfl) ?_; conv => whnf) | (refine SeqOk.go ?_; conv => whnf))
      refine .data _ _ (sameClient_kb ⟨c, moreOf (insideL l v) c []⟩ (by show (moreOf (insideL l v) c []).length ≤ _; omega)) rfl ?_
      conv => whnf
      repeat (first | (refine Conf.mk (by kernel_rfl) ?_; conv => whnf) | (refine SeqOk.go ?_; conv => whnf))
      refine BoolCase.no (by simp [htl]) ?_
      conv => whnf
      repeat (first | (refine Conf.mk (by kernel_rfl) ?_; conv => whnf) | (refine SeqOk.go ?_; conv => whnf))
      exact Into.to [] [(0, .dat (.list (l.map Entry'.enc))), (1, dInt c)] [] (by repeat (first | exact trivial | refine ⟨.same (congrArg dInt (wrap_up (by omega))), ?_⟩ | refine ⟨.same rfl, ?_⟩ | refine ⟨.any _, ?_⟩)) trivial rfl rfl
    · refine BoolCase.no (by simp [h]) ?_
      conv => whnf
      repeat (first | (refine Conf.mk (by kernel_rfl) ?_; conv => whnf) | (refine SeqOk.go ?_; conv => whnf))
      exact Into.to [] [(0, .dat (.list (l.map Entry'.enc))), (1, dInt c)] [] (by repeat (first | exact trivial | refine ⟨.same (congrArg dInt (wrap_up (by omega))), ?_⟩ | refine ⟨.same rfl, ?_⟩ | refine ⟨.any _, ?_⟩)) trivial rfl rfl
  · conv => whnf
    repeat (first | (refine Conf.mk (by kernel_rfl) ?_; conv => whnf) | (refine SeqOk.go ?_; conv => whnf))
    by_cases h : logErr l = 0
    · have hr := right_iff.1 h
      rw [h, show countA l = (counts l).arg by unfold countA cntv; rw [if_pos h, if_pos h]; rfl] at hco
      obtain ⟨e1, e2⟩ := play_end hr c
      have hp3 := clientPlay_ok l hl ⟨c, []⟩ (by simp) (counts l)
      rw [e1] at hp3
      have hml := moreAns_len l c []
      have hsm := same_ok (moreAns l c []) (by omega)
      have hsm2 : PCall Try.prog 17 [.dat (.list ((playAns l ⟨c, []⟩ (counts l)).played.map Id.enc)), .dat (.list ((moreAns l c []).map Id.enc))] (.kb true) := by rw [e2]; exact hsm
      refine .data _ _ hco rfl ?_
      conv => whnf
      repeat (first | (refine Conf.mk (by kernel_rfl) ?_; conv => whnf) | (refine SeqOk.go ?_; conv => whnf))
      refine BoolCase.no rfl ?_
      conv => whnf
      repeat (first | (refine Conf.mk (by kernel_rfl) ?_; conv => whnf) | (refine SeqOk.go ?_; conv => whnf))
      refine .data _ _ hp3 rfl ?_
      conv => whnf
      repeat (first | (refine Conf.mk (by kernel_rfl) ?_; conv => whnf) | (refine SeqOk.go ?_; conv => whnf))
      refine .data _ _ hfi rfl ?_
      conv => whnf
      repeat (first | (refine Conf.mk (by kernel_rfl) ?_; conv => whnf) | (refine SeqOk.go ?_; conv => whnf))
      refine BoolCase.yes (by simp) ?_
      conv => whnf
      repeat (first | (refine Conf.mk (by kernel_rfl) ?_; conv => whnf) | (refine SeqOk.go ?_; conv => whnf))
      refine .data _ _ hsm2 rfl ?_
      conv => whnf
      repeat (first | (refine Conf.mk (by kernel_rfl) ?_; conv => whnf) | (refine SeqOk.go ?_; conv => whnf))
      exact Ret.bool rfl
    · refine .data _ _ hco rfl ?_
      conv => whnf
      repeat (first | (refine Conf.mk (by kernel_rfl) ?_; conv => whnf) | (refine SeqOk.go ?_; conv => whnf))
      refine BoolCase.yes (by simp [h]) ?_
      conv => whnf
      repeat (first | (refine Conf.mk (by kernel_rfl) ?_; conv => whnf) | (refine SeqOk.go ?_; conv => whnf))
      exact Ret.bool rfl
end Go.Proofs.Ytlioojekjnigiae.AM
/- What came in, opened: ids, entries, logs. -/
namespace Go.Proofs.Ytlioojekjnigiae
theorem ownT : ownKnob Try.prog.godebug = none := by kernel_rfl
theorem laidT : laidOutB Try.prog = true := by kernel_rfl
namespace AM
set_option linter.unusedVariables false
set_option linter.unusedSimpArgs false

theorem allWT_cons {tab : Tab} {n t : Nat} {ts : List Nat} {dss : List (List D)} (h : AllWT tab n (t :: ts) dss) : ∃ d ds, dss = d :: ds ∧ WT tab n t d ∧ AllWT tab n ts ds := by
  cases dss with
  | nil => exact h.elim
  | cons d ds => exact ⟨d, ds, rfl, h.1, h.2⟩
theorem allWT_nil {tab : Tab} {n : Nat} {dss : List (List D)} (h : AllWT tab n [] dss) : dss = [] := by
  cases dss with
  | nil => rfl
  | cons d ds => exact h.elim
theorem all_enc {α : Type} {enc : α → List D} {p : List D → Prop} {q : α → Prop} (h : ∀ e, p e → ∃ x, e = enc x ∧ q x) : ∀ (es : List (List D)), (∀ e ∈ es, p e) → ∃ l : List α, es = l.map enc ∧ ∀ x ∈ l, q x
  | [], _ => ⟨[], rfl, by simp⟩
  | e :: t, hs => by
    obtain ⟨x, rfl, hx⟩ := h e (hs e (by simp))
    obtain ⟨l, rfl, hl⟩ := all_enc h t fun e he => hs e (by simp [he])
    exact ⟨x :: l, rfl, fun y hy => by
      rcases List.mem_cons.1 hy with rfl | hy
      · exact hx
      · exact hl y hy⟩
def I64 (n : Int) : Prop := -9223372036854775808 ≤ n ∧ n ≤ 9223372036854775807
theorem wt_int {n : Nat} {ds : List D} (h : WT tab (n + 1) 3 ds) : ∃ m, ds = [.int .i64 m] ∧ I64 m := by
  have h : ∃ m, ds = [.int .i64 m] ∧ (Lit.int .i64 m).wf = true := h
  obtain ⟨m, rfl, hm⟩ := h
  refine ⟨m, rfl, ?_⟩
  simp [Lit.wf, IntKind.wrap, IntKind.bits, IntKind.signed] at hm
  exact hm
theorem wt_bool {n : Nat} {ds : List D} (h : WT tab (n + 1) 4 ds) : ∃ b, ds = [.bool b] := h
theorem wt_string {n : Nat} {ds : List D} (h : WT tab (n + 1) 9 ds) : ∃ s, ds = [.str s] ∧ s.size ≤ 140737488351232 := h
theorem wt_id {n : Nat} {ds : List D} (h : WT tab (n + 2) 36 ds) : ∃ x : Id, ds = x.enc ∧ I64 x.r ∧ I64 x.n := by
  obtain ⟨a, y, rfl, h1, b, z, rfl, h2, rfl⟩ := (h : ∃ xs ys, ds = xs ++ ys ∧ WT tab (n + 1) 3 xs ∧ ∃ xs' ys', ys = xs' ++ ys' ∧ WT tab (n + 1) 3 xs' ∧ ys' = [])
  obtain ⟨r, rfl, hr⟩ := wt_int h1
  obtain ⟨m, rfl, hm⟩ := wt_int h2
  exact ⟨⟨r, m⟩, rfl, hr, hm⟩
theorem wt_ids {n : Nat} {ds : List D} (h : WT tab (n + 3) 23 ds) : ∃ l : List Id, ds = [.list (l.map Id.enc)] ∧ l.length * 16 ≤ 140737488351232 ∧ ∀ x ∈ l, I64 x.r ∧ I64 x.n := by
  obtain ⟨es, rfl, h1, h2⟩ := (h : ∃ es, ds = [.list es] ∧ es.length * 16 ≤ 140737488351232 ∧ ∀ e' ∈ es, WT tab (n + 2) 36 e')
  obtain ⟨l, rfl, hl⟩ := all_enc (fun e he => wt_id he) es h2
  exact ⟨l, rfl, by rw [List.length_map] at h1; exact h1, hl⟩
structure EntryIn (e : Entry') : Prop where
  r : I64 e.id.r
  n : I64 e.id.n
  colors : I64 e.colors
  text : e.text.size ≤ 140737488351232
  len : e.links.length * 16 ≤ 140737488351232
  links : ∀ x ∈ e.links, I64 x.r ∧ I64 x.n
theorem wt_entry {n : Nat} {ds : List D} (h : WT tab (n + 4) 38 ds) : ∃ e : Entry', ds = e.enc ∧ EntryIn e := by
  obtain ⟨a, y, rfl, h1, b, z, rfl, h2, c, u, rfl, h3, d, v, rfl, h4, rfl⟩ := (h : ∃ a y, ds = a ++ y ∧ WT tab (n + 3) 36 a ∧ ∃ b z, y = b ++ z ∧ WT tab (n + 3) 3 b ∧ ∃ c u, z = c ++ u ∧ WT tab (n + 3) 9 c ∧ ∃ d v, u = d ++ v ∧ WT tab (n + 3) 23 d ∧ v = [])
  obtain ⟨x, rfl, hx⟩ := wt_id h1
  obtain ⟨k, rfl, hk⟩ := wt_int h2
  obtain ⟨s, rfl, hs⟩ := wt_string h3
  obtain ⟨l, rfl, hl, hl2⟩ := wt_ids h4
  exact ⟨⟨x, k, s, l⟩, rfl, hx.1, hx.2, hk, hs, hl, hl2⟩
theorem wt_log {n : Nat} {ds : List D} (h : WT tab (n + 5) 22 ds) : ∃ l : List Entry', ds = [.list (l.map Entry'.enc)] ∧ l.length * 64 ≤ 140737488351232 ∧ ∀ e ∈ l, EntryIn e := by
  obtain ⟨es, rfl, h1, h2⟩ := (h : ∃ es, ds = [.list es] ∧ es.length * 64 ≤ 140737488351232 ∧ ∀ e' ∈ es, WT tab (n + 4) 38 e')
  obtain ⟨l, rfl, hl⟩ := all_enc (fun e he => wt_entry he) es h2
  exact ⟨l, rfl, by rw [List.length_map] at h1; exact h1, hl⟩
theorem logOk_in {l : List Entry'} (h : l.length * 64 ≤ 140737488351232) (k : ∀ e ∈ l, EntryIn e) : LogOk l := ⟨by omega, fun e he => by have := (k e he).len; omega⟩
end AM
end Go.Proofs.Ytlioojekjnigiae
/- What came in, opened: vectors, clients. -/
namespace Go.Proofs.Ytlioojekjnigiae.AM
set_option linter.unusedVariables false
set_option linter.unusedSimpArgs false

theorem wt_vec {n : Nat} {ds : List D} (h : WT tab (n + 2) 27 ds) : ∃ v : Vec, ds = v.enc ∧ I64 v.a ∧ I64 v.b := by
  obtain ⟨a, y, rfl, h1, b, z, rfl, h2, rfl⟩ := (h : ∃ xs ys, ds = xs ++ ys ∧ WT tab (n + 1) 3 xs ∧ ∃ xs' ys', ys = xs' ++ ys' ∧ WT tab (n + 1) 3 xs' ∧ ys' = [])
  obtain ⟨r, rfl, hr⟩ := wt_int h1
  obtain ⟨m, rfl, hm⟩ := wt_int h2
  exact ⟨⟨r, m⟩, rfl, hr, hm⟩
def Client'.enc (c : Client') : List D := [.int .i64 c.colors, .list (c.played.map Id.enc)]
theorem wt_client {n : Nat} {ds : List D} (h : WT tab (n + 4) 25 ds) : ∃ c : Client', ds = c.enc ∧ I64 c.colors ∧ c.played.length * 16 ≤ 140737488351232 ∧ ∀ x ∈ c.played, I64 x.r ∧ I64 x.n := by
  obtain ⟨a, y, rfl, h1, b, z, rfl, h2, rfl⟩ := (h : ∃ xs ys, ds = xs ++ ys ∧ WT tab (n + 3) 3 xs ∧ ∃ xs' ys', ys = xs' ++ ys' ∧ WT tab (n + 3) 23 xs' ∧ ys' = [])
  obtain ⟨r, rfl, hr⟩ := wt_int h1
  obtain ⟨l, rfl, hl, hl2⟩ := wt_ids h2
  exact ⟨⟨r, l⟩, rfl, hr, hl, hl2⟩
end Go.Proofs.Ytlioojekjnigiae.AM
