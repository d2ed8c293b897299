/- What is leaned on: part 5. -/
import Derived.Test.YtlioojekjnigiabQ4
/- Servers: the document's IsOf, AllOf. -/
namespace Go.Proofs.Ytlioojekjnigiab.AM.Sk
set_option linter.unusedVariables false
set_option linter.unusedSimpArgs false
theorem isOf_ok (c : Int) (i : Nat) (hc : 1 ≤ c ∧ c ≤ 7) (hi : i < 3) : PCall Try.prog 30 [dInt c, dInt i] (dBool (bitOf c i)) := by
  have h1 : c = 1 ∨ c = 2 ∨ c = 3 ∨ c = 4 ∨ c = 5 ∨ c = 6 ∨ c = 7 := by omega
  refine pcall_cut tab_all tab_mixed Try.func30 (by kernel_rfl) Try.ntmps30 rfl ?_
  conv => whnf
  conv => whnf
  repeat (first | (refine Conf.mk (by kernel_rfl) ?_; conv => whnf) | (refine SeqOk.go ?_; conv => whnf))
  have h2 : i = 0 ∨ i = 1 ∨ i = 2 := by omega
  rcases h2 with rfl | rfl | rfl
  · refine .mk 0 [.int .i64 1] rfl rfl rfl ?_
    conv => whnf
    repeat (first | (refine Conf.mk (by kernel_rfl) ?_; conv => whnf) | (refine SeqOk.go ?_; conv => whnf))
    refine .mk _ rfl ?_
    conv => whnf
    repeat (first | (refine Conf.mk (by kernel_rfl) ?_; conv => whnf) | (refine SeqOk.go ?_; conv => whnf))
    refine ⟨by decide, ?_⟩
    conv => whnf
    repeat (first | (refine Conf.mk (by kernel_rfl) ?_; conv => whnf) | (refine SeqOk.go ?_; conv => whnf))
    refine ⟨by decide, ?_⟩
    conv => whnf
    repeat (first | (refine Conf.mk (by kernel_rfl) ?_; conv => whnf) | (refine SeqOk.go ?_; conv => whnf))
    exact Ret.bool (by rcases h1 with rfl | rfl | rfl | rfl | rfl | rfl | rfl <;> rfl)
  · refine .mk 1 [.int .i64 2] rfl rfl rfl ?_
    conv => whnf
    repeat (first | (refine Conf.mk (by kernel_rfl) ?_; conv => whnf) | (refine SeqOk.go ?_; conv => whnf))
    refine .mk _ rfl ?_
    conv => whnf
    repeat (first | (refine Conf.mk (by kernel_rfl) ?_; conv => whnf) | (refine SeqOk.go ?_; conv => whnf))
    refine ⟨by decide, ?_⟩
    conv => whnf
    repeat (first | (refine Conf.mk (by kernel_rfl) ?_; conv => whnf) | (refine SeqOk.go ?_; conv => whnf))
    refine ⟨by decide, ?_⟩
    conv => whnf
    repeat (first | (refine Conf.mk (by kernel_rfl) ?_; conv => whnf) | (refine SeqOk.go ?_; conv => whnf))
    exact Ret.bool (by rcases h1 with rfl | rfl | rfl | rfl | rfl | rfl | rfl <;> rfl)
  · refine .mk 2 [.int .i64 4] rfl rfl rfl ?_
    conv => whnf
    repeat (first | (refine Conf.mk (by kernel_rfl) ?_; conv => whnf) | (refine SeqOk.go ?_; conv => whnf))
    refine .mk _ rfl ?_
    conv => whnf
    repeat (first | (refine Conf.mk (by kernel_rfl) ?_; conv => whnf) | (refine SeqOk.go ?_; conv => whnf))
    refine ⟨by decide, ?_⟩
    conv => whnf
    repeat (first | (refine Conf.mk (by kernel_rfl) ?_; conv => whnf) | (refine SeqOk.go ?_; conv => whnf))
    refine ⟨by decide, ?_⟩
    conv => whnf
    repeat (first | (refine Conf.mk (by kernel_rfl) ?_; conv => whnf) | (refine SeqOk.go ?_; conv => whnf))
    exact Ret.bool (by rcases h1 with rfl | rfl | rfl | rfl | rfl | rfl | rfl <;> rfl)
theorem right_ok {s : Sv} (h : Right s) : SvOk s := ⟨by have := h.len2; omega, by have := h.len; omega⟩
theorem atS {l : List Sv} {i : Nat} {x : Sv} {k : Nat → List D → Prop} {n : Int} (hn : n = (i : Int)) (h : l[i]? = some x) (hk : k i x.enc) : AtIdx n (l.map Sv.enc) 3 k := .mk i x.enc hn (by rw [List.getElem?_map, h]; rfl) rfl hk
theorem elS {l : List Sv} {i : Nat} {x : Sv} {k : List D → Prop} (h : l[i]? = some x) (hk : k x.enc) : ElemAt (l.map Sv.enc) i k := .mk x.enc (by rw [List.getElem?_map, h]; rfl) hk
theorem setS {l : List Sv} {i : Nat} {x : Sv} : (l.set i x).map Sv.enc = (l.map Sv.enc).set i x.enc := List.map_set
set_option maxHeartbeats 0 in
theorem allOf_ok (ss : List Sv) (n c : Int) (hs : ∀ s ∈ ss, SvOk s) : PCall Try.prog 25 [.dat (.list (ss.map Sv.enc)), dInt n, dInt c] (.tup [.dat (.list ((allR ss n c).map Sv.enc)), dInt (allE ss n c)]) := by
  have hnoR : allE ss n c ≠ 0 → allR ss n c = [] := fun h => by unfold allR; rw [if_neg h]
  refine pcall_cut tab_all tab_mixed Try.func25 (by kernel_rfl) Try.ntmps25 rfl ?_
  conv => whnf
  conv => whnf
  repeat (first | (refine Conf.mk (by kernel_rfl) ?_; conv => whnf) | (refine SeqOk.go ?_; conv => whnf))
  by_cases h3 : ss.length = 3
  · refine BoolCase.no (by simp [h3]) ?_
    conv => whnf
    repeat (first | (refine Conf.mk (by kernel_rfl) ?_; conv => whnf) | (refine SeqOk.go ?_; conv => whnf))
    refine LoopOk.hide fun Q1 hQ1 => ?_
    refine LoopOk.mk (fun m s => ∃ i, i + m = 3 ∧ (∀ j, j < i → errAt ss j = 0) ∧ s = ⟨[(8, dInt i), (0, .dat (.list (ss.map Sv.enc))), (1, dInt n), (2, dInt c)], 0, []⟩) 3 (Into.mono (Into.to [] [(8, dInt (0 : Nat)), (0, .dat (.list (ss.map Sv.enc))), (1, dInt n), (2, dInt c)] [] (by repeat (first | exact trivial | refine ⟨.same (congrArg dInt (wrap_up (by omega))), ?_⟩ | refine ⟨.same rfl, ?_⟩ | refine ⟨.any _, ?_⟩)) trivial rfl rfl) fun s' h => ⟨0, by omega, fun j hj => absurd hj (Nat.not_lt_zero _), h⟩) ?_
    rintro m s ⟨i, hi, hp, rfl⟩
    conv => whnf
    repeat (first | (refine Conf.mk (by kernel_rfl) ?_; conv => whnf) | (refine SeqOk.go ?_; conv => whnf))
    by_cases hi3 : i < 3
    · have hi' : i < ss.length := by omega
      have hx : errAt ss i = ss[i].err := by unfold errAt; rw [List.getElem?_eq_getElem hi']
      obtain ⟨k1, k2⟩ := hs _ (List.getElem_mem hi')
      refine BoolCase.yes (by simp; omega) ?_
      conv => whnf
      repeat (first | (refine Conf.mk (by kernel_rfl) ?_; conv => whnf) | (refine SeqOk.go ?_; conv => whnf))
      refine AtIdx.ofMap hi' rfl ?_
      conv => whnf
      repeat (first | (refine Conf.mk (by kernel_rfl) ?_; conv => whnf) | (refine SeqOk.go ?_; conv => whnf))
      refine .data _ _ (checkServer_ok ss[i] k1 k2) rfl ?_
      conv => whnf
      repeat (first | (refine Conf.mk (by kernel_rfl) ?_; conv => whnf) | (refine SeqOk.go ?_; conv => whnf))
      by_cases h4 : ss[i].err = 0
      · refine BoolCase.no (by simp [h4]) ?_
        conv => whnf
        repeat (first | (refine Conf.mk (by kernel_rfl) ?_; conv => whnf) | (refine SeqOk.go ?_; conv => whnf))
        exact Into.mono (Into.to [] [(8, dInt (i + 1 : Nat)), (0, .dat (.list (ss.map Sv.enc))), (1, dInt n), (2, dInt c)] [] (by repeat (first | exact trivial | refine ⟨.same (congrArg dInt (wrap_up (by omega))), ?_⟩ | refine ⟨.same rfl, ?_⟩ | refine ⟨.any _, ?_⟩)) trivial rfl rfl) fun s' h => ⟨m - 1, by omega, i + 1, by omega, fun j hj => by
          by_cases e : j = i
          · rw [e, hx]; exact h4
          · exact hp j (by omega), h⟩
      · have hF : firstErr (errAt ss) 3 = ss[i].err := by rw [firstErr_at _ i hp (by rw [hx]; exact h4) _ (by omega), hx]
        have hE : allErr ss c = ss[i].err := by
          show (if ss.length ≠ 3 then 1 else if firstErr (errAt ss) 3 ≠ 0 then firstErr (errAt ss) 3 else if c < 1 ∨ 7 < c then 3 else 0) = _
          rw [if_neg (by simp [h3]), hF, if_pos h4]
        have hE : allE ss n c = ss[i].err := by unfold allE; rw [hE, if_pos h4]
        refine BoolCase.yes (by simpa using h4) ?_
        conv => whnf
        repeat (first | (refine Conf.mk (by kernel_rfl) ?_; conv => whnf) | (refine SeqOk.go ?_; conv => whnf))
        subst hQ1
        conv => whnf
        rw [hnoR (by rw [hE]; exact h4), hE]
        exact Ret.to rfl
    · have hF : firstErr (errAt ss) 3 = 0 := firstErr_zero _ _ fun j hj => hp j (by omega)
      have hE0 : allErr ss c = if c < 1 ∨ 7 < c then 3 else 0 := by
        show (if ss.length ≠ 3 then 1 else if firstErr (errAt ss) 3 ≠ 0 then firstErr (errAt ss) 3 else if c < 1 ∨ 7 < c then 3 else 0) = _
        rw [if_neg (by simp [h3]), hF, if_neg (by simp)]
      refine BoolCase.no (by simp; omega) ?_
      conv => whnf
      repeat (first | (refine Conf.mk (by kernel_rfl) ?_; conv => whnf) | (refine SeqOk.go ?_; conv => whnf))
      subst hQ1
      conv => whnf
      conv => whnf
      repeat (first | (refine Conf.mk (by kernel_rfl) ?_; conv => whnf) | (refine SeqOk.go ?_; conv => whnf))
      refine .look _ _ (kbetween_ok c 1 7) rfl rfl ?_
      conv => whnf
      repeat (first | (refine Conf.mk (by kernel_rfl) ?_; conv => whnf) | (refine SeqOk.go ?_; conv => whnf))
      by_cases h5 : c < 1 ∨ 7 < c
      · rw [if_pos h5] at hE0
        have hE : allE ss n c = 3 := by unfold allE; rw [hE0]; rfl
        refine BoolCase.yes (by rw [between_colors]; simpa using h5) ?_
        conv => whnf
        repeat (first | (refine Conf.mk (by kernel_rfl) ?_; conv => whnf) | (refine SeqOk.go ?_; conv => whnf))
        rw [hnoR (by rw [hE]; decide), hE]
        exact Ret.to rfl
      · rw [if_neg h5] at hE0
        have hc : 1 ≤ c ∧ c ≤ 7 := by omega
        obtain ⟨_, hzero, _⟩ := allErr_zero hE0
        have hright : ∀ s ∈ ss, Right s := fun s hs => right_of_err (hzero s hs)
        refine BoolCase.no (by rw [between_colors]; simpa using h5) ?_
        clear hp hF hi hi3
        conv => whnf
        repeat (first | (refine Conf.mk (by kernel_rfl) ?_; conv => whnf) | (refine SeqOk.go ?_; conv => whnf))
        refine ⟨by simp [Sv.enc], by simp; omega, ?_⟩
        conv => whnf
        repeat (first | (refine Conf.mk (by kernel_rfl) ?_; conv => whnf) | (refine SeqOk.go ?_; conv => whnf))
        refine LoopOk.hide fun Q2 hQ2 => ?_
        refine LoopOk.mk (fun m st => ∃ i cur g, i + m = 3 ∧ cur.length = 3 ∧ (∀ s ∈ cur, Right s) ∧ eachGo (fP n) c m i cur g = allP ss n c ∧ st = ⟨[(12, dInt i), (11, dInt g), (10, .row 0), (1, dInt n), (2, dInt c)], 1, [(0, .rows 43 3 (cur.map Sv.enc) true)]⟩) 3 (Into.mono (Into.to [0] [(12, dInt (0 : Nat)), (11, dInt 0), (10, .row 0), (1, dInt n), (2, dInt c)] [(0, .rows 43 3 (ss.map Sv.enc) true)] (by repeat (first | exact trivial | refine ⟨.same (congrArg dInt (wrap_up (by omega))), ?_⟩ | refine ⟨.same rfl, ?_⟩ | refine ⟨.any _, ?_⟩)) ⟨⟨rfl, rfl, rfl, rfl⟩, trivial⟩ rfl rfl) fun s' h => ⟨0, ss, 0, rfl, h3, hright, rfl, h⟩) ?_
        rintro m st ⟨i, cur, g, hi, h3c, hrc, hgo, rfl⟩
        conv => whnf
        repeat (first | (refine Conf.mk (by kernel_rfl) ?_; conv => whnf) | (refine SeqOk.go ?_; conv => whnf))
        by_cases hi3 : i < 3
        · obtain ⟨m, rfl⟩ : ∃ m', m = m' + 1 := ⟨m - 1, by omega⟩
          have hx : cur[i]? = some cur[i] := List.getElem?_eq_getElem (by omega)
          have hrx : Right cur[i] := hrc _ (List.getElem_mem (by omega))
          generalize cur[i] = x at hx hrx
          refine BoolCase.yes (by simp; omega) ?_
          conv => whnf
          repeat (first | (refine Conf.mk (by kernel_rfl) ?_; conv => whnf) | (refine SeqOk.go ?_; conv => whnf))
          refine .look _ _ (isOf_ok c i hc hi3) rfl rfl ?_
          conv => whnf
          repeat (first | (refine Conf.mk (by kernel_rfl) ?_; conv => whnf) | (refine SeqOk.go ?_; conv => whnf))
          cases hb : bitOf c i
          · refine BoolCase.no rfl ?_
            conv => whnf
            repeat (first | (refine Conf.mk (by kernel_rfl) ?_; conv => whnf) | (refine SeqOk.go ?_; conv => whnf))
            rw [eachGo_skip' hx hb] at hgo
            exact Into.mono (Into.to [0] [(12, dInt (i + 1 : Nat)), (11, dInt g), (10, .row 0), (1, dInt n), (2, dInt c)] [(0, .rows 43 3 (cur.map Sv.enc) true)] (by repeat (first | exact trivial | refine ⟨.same (congrArg dInt (wrap_up (by omega))), ?_⟩ | refine ⟨.same rfl, ?_⟩ | refine ⟨.any _, ?_⟩)) ⟨⟨rfl, rfl, rfl, rfl⟩, trivial⟩ rfl rfl) fun s' h => ⟨m, by omega, i + 1, cur, g, by omega, h3c, hrc, hgo, h⟩
          · refine BoolCase.yes rfl ?_
            conv => whnf
            repeat (first | (refine Conf.mk (by kernel_rfl) ?_; conv => whnf) | (refine SeqOk.go ?_; conv => whnf))
            refine atS rfl hx ?_
            conv => whnf
            repeat (first | (refine Conf.mk (by kernel_rfl) ?_; conv => whnf) | (refine SeqOk.go ?_; conv => whnf))
            refine elS hx ?_
            conv => whnf
            repeat (first | (refine Conf.mk (by kernel_rfl) ?_; conv => whnf) | (refine SeqOk.go ?_; conv => whnf))
            refine .data _ _ (proposeOf_ok x n hrx) rfl ?_
            conv => whnf
            repeat (first | (refine Conf.mk (by kernel_rfl) ?_; conv => whnf) | (refine SeqOk.go ?_; conv => whnf))
            by_cases h6 : propErr x n = 0
            · have h60 : (fP n x g).2.2 = 0 := by show x.propE n = 0; rw [propE_right hrx]; exact h6
              rw [eachGo_go' hx hb h60] at hgo
              have hfx : fP n x g = (x.propD n, max g (x.propD n).clock, propErr x n) := by unfold fP; rw [propR_right hrx, propE_right hrx]
              rw [hfx] at hgo
              refine BoolCase.no (by simp [h6]) ?_
              conv => whnf
              repeat (first | (refine Conf.mk (by kernel_rfl) ?_; conv => whnf) | (refine SeqOk.go ?_; conv => whnf))
              refine atS rfl hx ?_
              conv => whnf
              repeat (first | (refine Conf.mk (by kernel_rfl) ?_; conv => whnf) | (refine SeqOk.go ?_; conv => whnf))
              refine elS hx ?_
              conv => whnf
              repeat (first | (refine Conf.mk (by kernel_rfl) ?_; conv => whnf) | (refine SeqOk.go ?_; conv => whnf))
              by_cases h7 : g < (x.propD n).clock
              · have hmx : (x.propD n).clock = max g (x.propD n).clock := by omega
                refine BoolCase.yes (by simpa using h7) ?_
                conv => whnf
                repeat (first | (refine Conf.mk (by kernel_rfl) ?_; conv => whnf) | (refine SeqOk.go ?_; conv => whnf))
                exact Into.mono (Into.to [0] [(12, dInt (i + 1 : Nat)), (11, dInt (max g (x.propD n).clock)), (10, .row 0), (1, dInt n), (2, dInt c)] [(0, .rows 43 3 ((cur.set i (x.propD n)).map Sv.enc) true)] ⟨.same (congrArg dInt (wrap_up (by omega))), .same (congrArg dInt hmx.symm), .same rfl, .same rfl, .same rfl, trivial⟩ ⟨⟨rfl, rfl, rfl, setS⟩, trivial⟩ rfl rfl) fun s' h => ⟨m, by omega, i + 1, cur.set i (x.propD n), _, by omega, by simpa using h3c, set_all hrc (propD_right hrx h6).1, hgo, h⟩
              · have hmx : g = max g (x.propD n).clock := by omega
                refine BoolCase.no (by simpa using h7) ?_
                conv => whnf
                repeat (first | (refine Conf.mk (by kernel_rfl) ?_; conv => whnf) | (refine SeqOk.go ?_; conv => whnf))
                exact Into.mono (Into.to [0] [(12, dInt (i + 1 : Nat)), (11, dInt (max g (x.propD n).clock)), (10, .row 0), (1, dInt n), (2, dInt c)] [(0, .rows 43 3 ((cur.set i (x.propD n)).map Sv.enc) true)] ⟨.same (congrArg dInt (wrap_up (by omega))), .same (congrArg dInt hmx.symm), .same rfl, .same rfl, .same rfl, trivial⟩ ⟨⟨rfl, rfl, rfl, setS⟩, trivial⟩ rfl rfl) fun s' h => ⟨m, by omega, i + 1, cur.set i (x.propD n), _, by omega, by simpa using h3c, set_all hrc (propD_right hrx h6).1, hgo, h⟩
            · have h60 : (fP n x g).2.2 ≠ 0 := by show x.propE n ≠ 0; rw [propE_right hrx]; exact h6
              rw [eachGo_err' hx hb h60] at hgo
              have hPe : (allP ss n c).2.2 = propErr x n := by rw [← hgo]; exact propE_right hrx n
              have hE : allE ss n c = propErr x n := by unfold allE; rw [if_neg (by simp [hE0]), hPe, if_pos h6]
              refine BoolCase.yes (by simpa using h6) ?_
              conv => whnf
              repeat (first | (refine Conf.mk (by kernel_rfl) ?_; conv => whnf) | (refine SeqOk.go ?_; conv => whnf))
              subst hQ2
              conv => whnf
              rw [hnoR (by rw [hE]; exact h6), hE]
              exact Ret.to rfl
        · obtain rfl : m = 0 := by omega
          obtain rfl : i = 3 := by omega
          have hP0 : (allP ss n c).2.2 = 0 := by rw [← hgo]; rfl
          have hC0 : eachGo (fC n) c 3 0 cur g = allC ss n c := by unfold allC; rw [← hgo]; rfl
          have hEC : allE ss n c = (allC ss n c).2.2 := by unfold allE; rw [if_neg (by simp [hE0]), if_neg (by simp [hP0])]
          refine BoolCase.no rfl ?_
          conv => whnf
          repeat (first | (refine Conf.mk (by kernel_rfl) ?_; conv => whnf) | (refine SeqOk.go ?_; conv => whnf))
          subst hQ2
          conv => whnf
          conv => whnf
          repeat (first | (refine Conf.mk (by kernel_rfl) ?_; conv => whnf) | (refine SeqOk.go ?_; conv => whnf))
          clear hgo hi3 hi
          refine LoopOk.hide fun Q3 hQ3 => ?_
          refine LoopOk.mk (fun m st => ∃ i cur, i + m = 3 ∧ cur.length = 3 ∧ (∀ s ∈ cur, Right s) ∧ eachGo (fC n) c m i cur g = allC ss n c ∧ st = ⟨[(15, dInt i), (11, dInt g), (10, .row 0), (1, dInt n), (2, dInt c)], 1, [(0, .rows 43 3 (cur.map Sv.enc) true)]⟩) 3 (Into.mono (Into.to [0] [(15, dInt (0 : Nat)), (11, dInt g), (10, .row 0), (1, dInt n), (2, dInt c)] [(0, .rows 43 3 (cur.map Sv.enc) true)] (by repeat (first | exact trivial | refine ⟨.same (congrArg dInt (wrap_up (by omega))), ?_⟩ | refine ⟨.same rfl, ?_⟩ | refine ⟨.any _, ?_⟩)) ⟨⟨rfl, rfl, rfl, rfl⟩, trivial⟩ rfl rfl) fun s' h => ⟨0, cur, rfl, h3c, hrc, hC0, h⟩) ?_
          clear hC0 hrc h3c
          rintro m st ⟨i, cur, hi, h3c, hrc, hgo, rfl⟩
          conv => whnf
          repeat (first | (refine Conf.mk (by kernel_rfl) ?_; conv => whnf) | (refine SeqOk.go ?_; conv => whnf))
          by_cases hi3 : i < 3
          · obtain ⟨m, rfl⟩ : ∃ m', m = m' + 1 := ⟨m - 1, by omega⟩
            have hx : cur[i]? = some cur[i] := List.getElem?_eq_getElem (by omega)
            have hrx : Right cur[i] := hrc _ (List.getElem_mem (by omega))
            generalize cur[i] = x at hx hrx
            refine BoolCase.yes (by simp; omega) ?_
            conv => whnf
            repeat (first | (refine Conf.mk (by kernel_rfl) ?_; conv => whnf) | (refine SeqOk.go ?_; conv => whnf))
            refine .look _ _ (isOf_ok c i hc hi3) rfl rfl ?_
            conv => whnf
            repeat (first | (refine Conf.mk (by kernel_rfl) ?_; conv => whnf) | (refine SeqOk.go ?_; conv => whnf))
            cases hb : bitOf c i
            · refine BoolCase.no rfl ?_
              conv => whnf
              repeat (first | (refine Conf.mk (by kernel_rfl) ?_; conv => whnf) | (refine SeqOk.go ?_; conv => whnf))
              rw [eachGo_skip' hx hb] at hgo
              exact Into.mono (Into.to [0] [(15, dInt (i + 1 : Nat)), (11, dInt g), (10, .row 0), (1, dInt n), (2, dInt c)] [(0, .rows 43 3 (cur.map Sv.enc) true)] (by repeat (first | exact trivial | refine ⟨.same (congrArg dInt (wrap_up (by omega))), ?_⟩ | refine ⟨.same rfl, ?_⟩ | refine ⟨.any _, ?_⟩)) ⟨⟨rfl, rfl, rfl, rfl⟩, trivial⟩ rfl rfl) fun s' h => ⟨m, by omega, i + 1, cur, by omega, h3c, hrc, hgo, h⟩
            · refine BoolCase.yes rfl ?_
              conv => whnf
              repeat (first | (refine Conf.mk (by kernel_rfl) ?_; conv => whnf) | (refine SeqOk.go ?_; conv => whnf))
              refine atS rfl hx ?_
              conv => whnf
              repeat (first | (refine Conf.mk (by kernel_rfl) ?_; conv => whnf) | (refine SeqOk.go ?_; conv => whnf))
              refine elS hx ?_
              conv => whnf
              repeat (first | (refine Conf.mk (by kernel_rfl) ?_; conv => whnf) | (refine SeqOk.go ?_; conv => whnf))
              refine .data _ _ (commitOf_ok x n g hrx) rfl ?_
              conv => whnf
              repeat (first | (refine Conf.mk (by kernel_rfl) ?_; conv => whnf) | (refine SeqOk.go ?_; conv => whnf))
              by_cases h6 : commErr x n g = 0
              · have h60 : (fC n x g).2.2 = 0 := by show x.commE n g = 0; rw [commE_right hrx]; exact h6
                rw [eachGo_go' hx hb h60] at hgo
                have hfx : fC n x g = (x.commD n g, g, commErr x n g) := by unfold fC; rw [commR_right hrx, commE_right hrx]
                rw [hfx] at hgo
                refine BoolCase.no (by simp [h6]) ?_
                conv => whnf
                repeat (first | (refine Conf.mk (by kernel_rfl) ?_; conv => whnf) | (refine SeqOk.go ?_; conv => whnf))
                refine atS rfl hx ?_
                conv => whnf
                repeat (first | (refine Conf.mk (by kernel_rfl) ?_; conv => whnf) | (refine SeqOk.go ?_; conv => whnf))
                refine elS hx ?_
                conv => whnf
                repeat (first | (refine Conf.mk (by kernel_rfl) ?_; conv => whnf) | (refine SeqOk.go ?_; conv => whnf))
                exact Into.mono (Into.to [0] [(15, dInt (i + 1 : Nat)), (11, dInt g), (10, .row 0), (1, dInt n), (2, dInt c)] [(0, .rows 43 3 ((cur.set i (x.commD n g)).map Sv.enc) true)] (by repeat (first | exact trivial | refine ⟨.same (congrArg dInt (wrap_up (by omega))), ?_⟩ | refine ⟨.same rfl, ?_⟩ | refine ⟨.any _, ?_⟩)) ⟨⟨rfl, rfl, rfl, setS⟩, trivial⟩ rfl rfl) fun s' h => ⟨m, by omega, i + 1, cur.set i (x.commD n g), by omega, by simpa using h3c, set_all hrc (commD_right hrx h6), hgo, h⟩
              · have h60 : (fC n x g).2.2 ≠ 0 := by show x.commE n g ≠ 0; rw [commE_right hrx]; exact h6
                rw [eachGo_err' hx hb h60] at hgo
                have hE : allE ss n c = commErr x n g := by rw [hEC, ← hgo]; exact commE_right hrx n g
                refine BoolCase.yes (by simpa using h6) ?_
                conv => whnf
                repeat (first | (refine Conf.mk (by kernel_rfl) ?_; conv => whnf) | (refine SeqOk.go ?_; conv => whnf))
                subst hQ3
                conv => whnf
                rw [hnoR (by rw [hE]; exact h6), hE]
                exact Ret.to rfl
          · obtain rfl : m = 0 := by omega
            obtain rfl : i = 3 := by omega
            have hE : allE ss n c = 0 := by rw [hEC, ← hgo]; rfl
            have hR : allR ss n c = cur := by unfold allR; rw [if_pos hE, ← hgo]; rfl
            refine BoolCase.no rfl ?_
            conv => whnf
            repeat (first | (refine Conf.mk (by kernel_rfl) ?_; conv => whnf) | (refine SeqOk.go ?_; conv => whnf))
            subst hQ3
            conv => whnf
            rw [hR, hE]
            exact Ret.to rfl
  · have hE : allErr ss c = 1 := by unfold allErr; rw [if_pos h3]
    have hE : allE ss n c = 1 := by unfold allE; rw [hE]; rfl
    refine BoolCase.yes (by simp; omega) ?_
    conv => whnf
    repeat (first | (refine Conf.mk (by kernel_rfl) ?_; conv => whnf) | (refine SeqOk.go ?_; conv => whnf))
    rw [hnoR (by rw [hE]; decide), hE]
    exact Ret.to rfl
end Go.Proofs.Ytlioojekjnigiab.AM.Sk
/- Servers: the same ones; what must be in any case. -/
namespace Go.Proofs.Ytlioojekjnigiab.AM.Sk
set_option linter.unusedVariables false
set_option linter.unusedSimpArgs false
set_option maxHeartbeats 0 in
theorem sameServer_ok (s : Sv) (h : SvOk s) : PCall Try.prog 64 [s.arg, s.arg] (dBool true) := by
  obtain ⟨hd, hw⟩ := h
  refine pcall_cut tab_all tab_mixed Try.func64 (by kernel_rfl) Try.ntmps64 rfl ?_
  conv => whnf
  conv => whnf
  repeat (first | (refine Conf.mk (by kernel_rfl) ?_; conv => whnf) | (refine SeqOk.go ?_; conv => whnf))
  refine BoolCase.no (by simp) ?_
  conv => whnf
  repeat (first | (refine Conf.mk (by kernel_rfl) ?_; conv => whnf) | (refine SeqOk.go ?_; conv => whnf))
  refine BoolCase.no (by simp) ?_
  conv => whnf
  repeat (first | (refine Conf.mk (by kernel_rfl) ?_; conv => whnf) | (refine SeqOk.go ?_; conv => whnf))
  refine BoolCase.no (by simp) ?_
  conv => whnf
  repeat (first | (refine Conf.mk (by kernel_rfl) ?_; conv => whnf) | (refine SeqOk.go ?_; conv => whnf))
  refine LoopOk.hide fun Q1 hQ1 => ?_
  refine LoopOk.mk (fun m st => ∃ i, i + m = s.waits.length ∧ st = ⟨[(5, dInt i), (2, .ptr 0 0), (3, .ptr 1 0)], 2, [(0, .vars 43 3 [dInt s.clock, .dat (.list (s.waits.map Wt.enc)), .dat (.list (s.done.map encI))] true), (1, .vars 43 3 [dInt s.clock, .dat (.list (s.waits.map Wt.enc)), .dat (.list (s.done.map encI))] true)]⟩) s.waits.length (Into.mono (Into.to [0, 1] [(5, dInt (0 : Nat)), (2, .ptr 0 0), (3, .ptr 1 0)] [(0, .vars 43 3 [dInt s.clock, .dat (.list (s.waits.map Wt.enc)), .dat (.list (s.done.map encI))] true), (1, .vars 43 3 [dInt s.clock, .dat (.list (s.waits.map Wt.enc)), .dat (.list (s.done.map encI))] true)] (by repeat (first | exact trivial | refine ⟨.same (congrArg dInt (wrap_up (by omega))), ?_⟩ | refine ⟨.same rfl, ?_⟩ | refine ⟨.any _, ?_⟩)) ⟨⟨rfl, rfl, rfl, .same rfl, rfl, .same rfl, rfl, .same rfl, rfl, trivial⟩, ⟨rfl, rfl, rfl, .same rfl, rfl, .same rfl, rfl, .same rfl, rfl, trivial⟩, trivial⟩ rfl rfl) fun s' h => ⟨0, by omega, h⟩) ?_
  rintro m st ⟨i, hi, rfl⟩
  conv => whnf
  repeat (first | (refine Conf.mk (by kernel_rfl) ?_; conv => whnf) | (refine SeqOk.go ?_; conv => whnf))
  refine ⟨fun h => ?_, fun h => ?_⟩
  · have hi' := lt_of h
    conv => whnf
    repeat (first | (refine Conf.mk (by kernel_rfl) ?_; conv => whnf) | (refine SeqOk.go ?_; conv => whnf))
    refine AtIdx.ofMap hi' rfl ?_
    conv => whnf
    repeat (first | (refine Conf.mk (by kernel_rfl) ?_; conv => whnf) | (refine SeqOk.go ?_; conv => whnf))
    refine AtIdx.ofMap hi' rfl ?_
    conv => whnf
    repeat (first | (refine Conf.mk (by kernel_rfl) ?_; conv => whnf) | (refine SeqOk.go ?_; conv => whnf))
    refine BoolCase.no (by simp) ?_
    conv => whnf
    repeat (first | (refine Conf.mk (by kernel_rfl) ?_; conv => whnf) | (refine SeqOk.go ?_; conv => whnf))
    exact Into.mono (Into.to [0, 1] [(5, dInt (i + 1 : Nat)), (2, .ptr 0 0), (3, .ptr 1 0)] [(0, .vars 43 3 [dInt s.clock, .dat (.list (s.waits.map Wt.enc)), .dat (.list (s.done.map encI))] true), (1, .vars 43 3 [dInt s.clock, .dat (.list (s.waits.map Wt.enc)), .dat (.list (s.done.map encI))] true)] (by repeat (first | exact trivial | refine ⟨.same (congrArg dInt (wrap_up (by omega))), ?_⟩ | refine ⟨.same rfl, ?_⟩ | refine ⟨.any _, ?_⟩)) ⟨⟨rfl, rfl, rfl, .same rfl, rfl, .same rfl, rfl, .same rfl, rfl, trivial⟩, ⟨rfl, rfl, rfl, .same rfl, rfl, .same rfl, rfl, .same rfl, rfl, trivial⟩, trivial⟩ rfl rfl) fun s' h => ⟨m - 1, by omega, i + 1, by omega, h⟩
  · conv => whnf
    repeat (first | (refine Conf.mk (by kernel_rfl) ?_; conv => whnf) | (refine SeqOk.go ?_; conv => whnf))
    subst hQ1
    conv => whnf
    conv => whnf
    repeat (first | (refine Conf.mk (by kernel_rfl) ?_; conv => whnf) | (refine SeqOk.go ?_; conv => whnf))
    clear hi h
    refine LoopOk.hide fun Q2 hQ2 => ?_
    refine LoopOk.mk (fun m st => ∃ i, i + m = s.done.length ∧ st = ⟨[(6, dInt i), (2, .ptr 0 0), (3, .ptr 1 0)], 2, [(0, .vars 43 3 [dInt s.clock, .dat (.list (s.waits.map Wt.enc)), .dat (.list (s.done.map encI))] true), (1, .vars 43 3 [dInt s.clock, .dat (.list (s.waits.map Wt.enc)), .dat (.list (s.done.map encI))] true)]⟩) s.done.length (Into.mono (Into.to [0, 1] [(6, dInt (0 : Nat)), (2, .ptr 0 0), (3, .ptr 1 0)] [(0, .vars 43 3 [dInt s.clock, .dat (.list (s.waits.map Wt.enc)), .dat (.list (s.done.map encI))] true), (1, .vars 43 3 [dInt s.clock, .dat (.list (s.waits.map Wt.enc)), .dat (.list (s.done.map encI))] true)] (by repeat (first | exact trivial | refine ⟨.same (congrArg dInt (wrap_up (by omega))), ?_⟩ | refine ⟨.same rfl, ?_⟩ | refine ⟨.any _, ?_⟩)) ⟨⟨rfl, rfl, rfl, .same rfl, rfl, .same rfl, rfl, .same rfl, rfl, trivial⟩, ⟨rfl, rfl, rfl, .same rfl, rfl, .same rfl, rfl, .same rfl, rfl, trivial⟩, trivial⟩ rfl rfl) fun s' h => ⟨0, by omega, h⟩) ?_
    rintro m st ⟨i, hi, rfl⟩
    conv => whnf
    repeat (first | (refine Conf.mk (by kernel_rfl) ?_; conv => whnf) | (refine SeqOk.go ?_; conv => whnf))
    refine ⟨fun h => ?_, fun h => ?_⟩
    · have hi' := lt_of h
      conv => whnf
      repeat (first | (refine Conf.mk (by kernel_rfl) ?_; conv => whnf) | (refine SeqOk.go ?_; conv => whnf))
      refine AtIdx.ofMap hi' rfl ?_
      conv => whnf
      repeat (first | (refine Conf.mk (by kernel_rfl) ?_; conv => whnf) | (refine SeqOk.go ?_; conv => whnf))
      refine AtIdx.ofMap hi' rfl ?_
      conv => whnf
      repeat (first | (refine Conf.mk (by kernel_rfl) ?_; conv => whnf) | (refine SeqOk.go ?_; conv => whnf))
      refine BoolCase.no (by simp) ?_
      conv => whnf
      repeat (first | (refine Conf.mk (by kernel_rfl) ?_; conv => whnf) | (refine SeqOk.go ?_; conv => whnf))
      exact Into.mono (Into.to [0, 1] [(6, dInt (i + 1 : Nat)), (2, .ptr 0 0), (3, .ptr 1 0)] [(0, .vars 43 3 [dInt s.clock, .dat (.list (s.waits.map Wt.enc)), .dat (.list (s.done.map encI))] true), (1, .vars 43 3 [dInt s.clock, .dat (.list (s.waits.map Wt.enc)), .dat (.list (s.done.map encI))] true)] (by repeat (first | exact trivial | refine ⟨.same (congrArg dInt (wrap_up (by omega))), ?_⟩ | refine ⟨.same rfl, ?_⟩ | refine ⟨.any _, ?_⟩)) ⟨⟨rfl, rfl, rfl, .same rfl, rfl, .same rfl, rfl, .same rfl, rfl, trivial⟩, ⟨rfl, rfl, rfl, .same rfl, rfl, .same rfl, rfl, .same rfl, rfl, trivial⟩, trivial⟩ rfl rfl) fun s' h => ⟨m - 1, by omega, i + 1, by omega, h⟩
    · conv => whnf
      repeat (first | (refine Conf.mk (by kernel_rfl) ?_; conv => whnf) | (refine SeqOk.go ?_; conv => whnf))
      subst hQ2
      conv => whnf
      exact Ret.to rfl
set_option maxHeartbeats 0 in
theorem sameServers_ok (l : List Sv) (hok : ∀ s ∈ l, SvOk s) (hl : l.length ≤ 1000) : PCall Try.prog 29 [.dat (.list (l.map Sv.enc)), .dat (.list (l.map Sv.enc))] (dBool true) := by
  refine pcall_cut tab_all tab_mixed Try.func29 (by kernel_rfl) Try.ntmps29 rfl ?_
  conv => whnf
  conv => whnf
  repeat (first | (refine Conf.mk (by kernel_rfl) ?_; conv => whnf) | (refine SeqOk.go ?_; conv => whnf))
  refine BoolCase.no (by simp) ?_
  conv => whnf
  repeat (first | (refine Conf.mk (by kernel_rfl) ?_; conv => whnf) | (refine SeqOk.go ?_; conv => whnf))
  refine LoopOk.hide fun Q1 hQ1 => ?_
  refine LoopOk.mk (fun m st => ∃ i, i + m = l.length ∧ st = ⟨[(5, dInt i), (0, .dat (.list (l.map Sv.enc))), (1, .dat (.list (l.map Sv.enc)))], 0, []⟩) l.length (Into.mono (Into.to [] [(5, dInt (0 : Nat)), (0, .dat (.list (l.map Sv.enc))), (1, .dat (.list (l.map Sv.enc)))] [] (by repeat (first | exact trivial | refine ⟨.same (congrArg dInt (wrap_up (by omega))), ?_⟩ | refine ⟨.same rfl, ?_⟩ | refine ⟨.any _, ?_⟩)) trivial rfl rfl) fun s' h => ⟨0, by omega, h⟩) ?_
  rintro m st ⟨i, hi, rfl⟩
  conv => whnf
  repeat (first | (refine Conf.mk (by kernel_rfl) ?_; conv => whnf) | (refine SeqOk.go ?_; conv => whnf))
  refine ⟨fun h => ?_, fun h => ?_⟩
  · have hi' := lt_of h
    conv => whnf
    repeat (first | (refine Conf.mk (by kernel_rfl) ?_; conv => whnf) | (refine SeqOk.go ?_; conv => whnf))
    refine AtIdx.ofMap hi' rfl ?_
    conv => whnf
    repeat (first | (refine Conf.mk (by kernel_rfl) ?_; conv => whnf) | (refine SeqOk.go ?_; conv => whnf))
    refine AtIdx.ofMap hi' rfl ?_
    conv => whnf
    repeat (first | (refine Conf.mk (by kernel_rfl) ?_; conv => whnf) | (refine SeqOk.go ?_; conv => whnf))
    refine .data _ _ (PCall.kb (sameServer_ok l[i] (hok _ (List.getElem_mem hi')))) rfl ?_
    conv => whnf
    repeat (first | (refine Conf.mk (by kernel_rfl) ?_; conv => whnf) | (refine SeqOk.go ?_; conv => whnf))
    exact Into.mono (Into.to [] [(5, dInt (i + 1 : Nat)), (0, .dat (.list (l.map Sv.enc))), (1, .dat (.list (l.map Sv.enc)))] [] (by repeat (first | exact trivial | refine ⟨.same (congrArg dInt (wrap_up (by omega))), ?_⟩ | refine ⟨.same rfl, ?_⟩ | refine ⟨.any _, ?_⟩)) trivial rfl rfl) fun s' h => ⟨m - 1, by omega, i + 1, by omega, h⟩
  · conv => whnf
    repeat (first | (refine Conf.mk (by kernel_rfl) ?_; conv => whnf) | (refine SeqOk.go ?_; conv => whnf))
    subst hQ1
    conv => whnf
    exact Ret.to rfl
set_option maxHeartbeats 0 in
theorem serverIs_ok (s : Sv) (e : Int) (h : SvOk s) (hz : e ≠ 0 → s = zeroSv) : PCall Try.prog 28 [s.arg, dInt e, dInt e, s.arg] (dBool true) := by
  refine pcall_cut tab_all tab_mixed Try.func28 (by kernel_rfl) Try.ntmps28 rfl ?_
  conv => whnf
  conv => whnf
  repeat (first | (refine Conf.mk (by kernel_rfl) ?_; conv => whnf) | (refine SeqOk.go ?_; conv => whnf))
  by_cases h0 : e = 0
  · refine BoolCase.no (by simp [h0]) ?_
    conv => whnf
    repeat (first | (refine Conf.mk (by kernel_rfl) ?_; conv => whnf) | (refine SeqOk.go ?_; conv => whnf))
    refine BoolCase.yes (by simp) ?_
    conv => whnf
    repeat (first | (refine Conf.mk (by kernel_rfl) ?_; conv => whnf) | (refine SeqOk.go ?_; conv => whnf))
    refine .data _ _ (sameServer_ok s h) rfl ?_
    conv => whnf
    repeat (first | (refine Conf.mk (by kernel_rfl) ?_; conv => whnf) | (refine SeqOk.go ?_; conv => whnf))
    exact Ret.to rfl
  · obtain rfl := hz h0
    refine BoolCase.yes (by simpa using h0) ?_
    conv => whnf
    repeat (first | (refine Conf.mk (by kernel_rfl) ?_; conv => whnf) | (refine SeqOk.go ?_; conv => whnf))
    refine BoolCase.yes (by simp) ?_
    conv => whnf
    repeat (first | (refine Conf.mk (by kernel_rfl) ?_; conv => whnf) | (refine SeqOk.go ?_; conv => whnf))
    refine .data _ _ (sameServer_ok zeroSv h) rfl ?_
    conv => whnf
    repeat (first | (refine Conf.mk (by kernel_rfl) ?_; conv => whnf) | (refine SeqOk.go ?_; conv => whnf))
    exact Ret.to rfl
def sA : Sv := ⟨5, [⟨7, 5, false⟩], []⟩
def sB : Sv := ⟨9, [], [7]⟩
def lIn : List Sv := [⟨3, [], []⟩, ⟨0, [], []⟩, ⟨1, [], []⟩]
def lOut : List Sv := [⟨4, [], [2]⟩, ⟨0, [], []⟩, ⟨4, [], [2]⟩]
theorem begun1 : (⟨4, [], []⟩ : Sv).propR 7 = sA ∧ (⟨4, [], []⟩ : Sv).propE 7 = 0 := by constructor <;> kernel_rfl
theorem begun2 : sA.commR 7 9 = sB ∧ sA.commE 7 9 = 0 := by constructor <;> kernel_rfl
theorem begun3 : allR lIn 2 5 = lOut ∧ allE lIn 2 5 = 0 := by constructor <;> kernel_rfl
theorem begun4 : sA.err = 0 := by kernel_rfl
set_option maxHeartbeats 0 in
theorem skeenBegun_ok : PCall Try.prog 26 [] (dBool true) := by
  have c1 := sprop_ok ⟨4, [], []⟩ 7 (by decide) (by decide)
  rw [begun1.1, begun1.2] at c1
  have c2 := scomm_ok sA 7 9 (by decide) (by decide)
  rw [begun2.1, begun2.2] at c2
  have c3 := sall_ok lIn 2 5 (by intro s hs; simp [lIn] at hs; rcases hs with rfl | rfl | rfl <;> exact ⟨by decide, by decide⟩)
  rw [begun3.1, begun3.2] at c3
  have c4 := scheck_ok sA (by decide) (by decide)
  rw [begun4] at c4
  refine pcall_cut tab_all tab_mixed Try.func26 (by kernel_rfl) Try.ntmps26 rfl ?_
  conv => whnf
  conv => whnf
  repeat (first | (refine Conf.mk (by kernel_rfl) ?_; conv => whnf) | (refine SeqOk.go ?_; conv => whnf))
  refine .data _ _ c1 rfl ?_
  conv => whnf
  repeat (first | (refine Conf.mk (by kernel_rfl) ?_; conv => whnf) | (refine SeqOk.go ?_; conv => whnf))
  refine .data _ _ c2 rfl ?_
  conv => whnf
  repeat (first | (refine Conf.mk (by kernel_rfl) ?_; conv => whnf) | (refine SeqOk.go ?_; conv => whnf))
  refine .keep [2] _ _ c3 rfl rfl rfl rfl ?_
  conv => whnf
  repeat (first | (refine Conf.mk (by kernel_rfl) ?_; conv => whnf) | (refine SeqOk.go ?_; conv => whnf))
  refine .data _ _ c4 rfl ?_
  conv => whnf
  repeat (first | (refine Conf.mk (by kernel_rfl) ?_; conv => whnf) | (refine SeqOk.go ?_; conv => whnf))
  repeat (refine BoolCase.yes rfl ?_; conv => whnf)
  refine .mk 0 (⟨4, [], [2]⟩ : Sv).enc rfl rfl rfl ?_
  conv => whnf
  repeat (first | (refine Conf.mk (by kernel_rfl) ?_; conv => whnf) | (refine SeqOk.go ?_; conv => whnf))
  refine BoolCase.yes rfl ?_
  conv => whnf
  repeat (first | (refine Conf.mk (by kernel_rfl) ?_; conv => whnf) | (refine SeqOk.go ?_; conv => whnf))
  refine .mk 2 (⟨4, [], [2]⟩ : Sv).enc rfl rfl rfl ?_
  conv => whnf
  repeat (first | (refine Conf.mk (by kernel_rfl) ?_; conv => whnf) | (refine SeqOk.go ?_; conv => whnf))
  refine BoolCase.yes rfl ?_
  conv => whnf
  repeat (first | (refine Conf.mk (by kernel_rfl) ?_; conv => whnf) | (refine SeqOk.go ?_; conv => whnf))
  refine .mk 1 (⟨0, [], []⟩ : Sv).enc rfl rfl rfl ?_
  conv => whnf
  repeat (first | (refine Conf.mk (by kernel_rfl) ?_; conv => whnf) | (refine SeqOk.go ?_; conv => whnf))
  refine BoolCase.yes rfl ?_
  conv => whnf
  repeat (first | (refine Conf.mk (by kernel_rfl) ?_; conv => whnf) | (refine SeqOk.go ?_; conv => whnf))
  refine .mk 2 (⟨4, [], [2]⟩ : Sv).enc rfl rfl rfl ?_
  conv => whnf
  repeat (first | (refine Conf.mk (by kernel_rfl) ?_; conv => whnf) | (refine SeqOk.go ?_; conv => whnf))
  exact Ret.to rfl
end Go.Proofs.Ytlioojekjnigiab.AM.Sk
/- Servers: SkeenTells. -/
namespace Go.Proofs.Ytlioojekjnigiab.AM.Sk
set_option linter.unusedVariables false
set_option linter.unusedSimpArgs false
set_option maxHeartbeats 0 in
theorem skeenTells_ok (s : Sv) (n t : Int) (l : List Sv) (c : Int) (hs : SvOk s) (hl : ∀ s ∈ l, SvOk s) : PCall Try.prog 5 [s.arg, dInt n, dInt t, .dat (.list (l.map Sv.enc)), dInt c] (dBool true) := by
  have c1 := sprop_ok s n hs.1 hs.2
  have c2 := scomm_ok s n t hs.1 hs.2
  have c3 := sall_ok l n c hl
  have c4 := checkServer_ok s hs.1 hs.2
  have c5 := allOf_ok l n c hl
  have c6 := scheck_ok s hs.1 hs.2
  refine pcall_cut tab_all tab_mixed Try.func5 (by kernel_rfl) Try.ntmps5 rfl ?_
  conv => whnf
  conv => whnf
  repeat (first | (refine Conf.mk (by kernel_rfl) ?_; conv => whnf) | (refine SeqOk.go ?_; conv => whnf))
  refine .data _ _ c1 rfl ?_
  conv => whnf
  repeat (first | (refine Conf.mk (by kernel_rfl) ?_; conv => whnf) | (refine SeqOk.go ?_; conv => whnf))
  refine .data _ _ c2 rfl ?_
  conv => whnf
  repeat (first | (refine Conf.mk (by kernel_rfl) ?_; conv => whnf) | (refine SeqOk.go ?_; conv => whnf))
  refine .data _ _ c3 rfl ?_
  conv => whnf
  repeat (first | (refine Conf.mk (by kernel_rfl) ?_; conv => whnf) | (refine SeqOk.go ?_; conv => whnf))
  refine .data _ _ c4 rfl ?_
  conv => whnf
  repeat (first | (refine Conf.mk (by kernel_rfl) ?_; conv => whnf) | (refine SeqOk.go ?_; conv => whnf))
  have oP := propR_ok hs n
  have oC := commR_ok hs n t
  have oA : ∀ x ∈ allR l n c, SvOk x := by
    unfold allR
    split
    · exact eachGo_ok (fun s g h => commR_ok h n g) c 3 0 _ _ (eachGo_ok (fun s g h => propR_ok h n) c 3 0 _ _ hl)
    · intro x hx; cases hx
  have d3 := sameServers_ok (allR l n c) oA (by have := allR_len l n c; omega)
  by_cases h0 : s.err = 0
  · have hr := right_of_err h0
    have e1 := proposeOf_ok s n hr
    have e2 := commitOf_ok s n t hr
    rw [← propR_right hr, ← propE_right hr] at e1
    rw [← commR_right hr, ← commE_right hr] at e2
    have d1 := serverIs_ok (s.propR n) (s.propE n) oP fun h => propR_no h
    have d2 := serverIs_ok (s.commR n t) (s.commE n t) oC fun h => commR_no h
    have hR1 : (s.propR n).clock = (s.propR n).clock := rfl
    refine BoolCase.yes (by simpa using h0) ?_
    conv => whnf
    repeat (first | (refine Conf.mk (by kernel_rfl) ?_; conv => whnf) | (refine SeqOk.go ?_; conv => whnf))
    refine .data _ _ e1 rfl ?_
    conv => whnf
    repeat (first | (refine Conf.mk (by kernel_rfl) ?_; conv => whnf) | (refine SeqOk.go ?_; conv => whnf))
    refine .data _ _ e2 rfl ?_
    conv => whnf
    repeat (first | (refine Conf.mk (by kernel_rfl) ?_; conv => whnf) | (refine SeqOk.go ?_; conv => whnf))
    refine .data _ _ c5 rfl ?_
    conv => whnf
    repeat (first | (refine Conf.mk (by kernel_rfl) ?_; conv => whnf) | (refine SeqOk.go ?_; conv => whnf))
    refine .data _ _ skeenBegun_ok.kb rfl ?_
    conv => whnf
    repeat (first | (refine Conf.mk (by kernel_rfl) ?_; conv => whnf) | (refine SeqOk.go ?_; conv => whnf))
    refine .data _ _ c6 rfl ?_
    conv => whnf
    repeat (first | (refine Conf.mk (by kernel_rfl) ?_; conv => whnf) | (refine SeqOk.go ?_; conv => whnf))
    refine .data _ _ c4 rfl ?_
    conv => whnf
    repeat (first | (refine Conf.mk (by kernel_rfl) ?_; conv => whnf) | (refine SeqOk.go ?_; conv => whnf))
    refine BoolCase.yes (by simp) ?_
    conv => whnf
    repeat (first | (refine Conf.mk (by kernel_rfl) ?_; conv => whnf) | (refine SeqOk.go ?_; conv => whnf))
    refine .data _ _ d1.kb rfl ?_
    conv => whnf
    repeat (first | (refine Conf.mk (by kernel_rfl) ?_; conv => whnf) | (refine SeqOk.go ?_; conv => whnf))
    refine BoolCase.yes (by simp [hR1]) ?_
    conv => whnf
    repeat (first | (refine Conf.mk (by kernel_rfl) ?_; conv => whnf) | (refine SeqOk.go ?_; conv => whnf))
    refine .data _ _ d2.kb rfl ?_
    conv => whnf
    repeat (first | (refine Conf.mk (by kernel_rfl) ?_; conv => whnf) | (refine SeqOk.go ?_; conv => whnf))
    refine BoolCase.yes (by simp) ?_
    conv => whnf
    repeat (first | (refine Conf.mk (by kernel_rfl) ?_; conv => whnf) | (refine SeqOk.go ?_; conv => whnf))
    refine .data _ _ d3 rfl ?_
    conv => whnf
    repeat (first | (refine Conf.mk (by kernel_rfl) ?_; conv => whnf) | (refine SeqOk.go ?_; conv => whnf))
    exact Ret.to rfl
  · have hE1 : s.propE n = s.err := by unfold Sv.propE; rw [if_pos h0]
    have hE2 : s.commE n t = s.err := by unfold Sv.commE; rw [if_pos h0]
    have hR := propR_no (s := s) (n := n) (by rw [hE1]; exact h0)
    have hR2 := commR_no (s := s) (n := n) (t := t) (by rw [hE2]; exact h0)
    have hR1 : (s.propR n).clock = 0 := by rw [hR]; rfl
    have d1 : PCall Try.prog 28 [(s.propR n).arg, dInt (s.propE n), dInt s.err, zeroSv.arg] (dBool true) := by
      rw [hR, hE1]; exact serverIs_ok zeroSv s.err ⟨Nat.zero_le _, Nat.zero_le _⟩ fun _ => rfl
    have d2 : PCall Try.prog 28 [(s.commR n t).arg, dInt (s.commE n t), dInt s.err, zeroSv.arg] (dBool true) := by
      rw [hR2, hE2]; exact serverIs_ok zeroSv s.err ⟨Nat.zero_le _, Nat.zero_le _⟩ fun _ => rfl
    refine BoolCase.no (by simpa using h0) ?_
    conv => whnf
    repeat (first | (refine Conf.mk (by kernel_rfl) ?_; conv => whnf) | (refine SeqOk.go ?_; conv => whnf))
    refine .data _ _ c5 rfl ?_
    conv => whnf
    repeat (first | (refine Conf.mk (by kernel_rfl) ?_; conv => whnf) | (refine SeqOk.go ?_; conv => whnf))
    refine .data _ _ skeenBegun_ok.kb rfl ?_
    conv => whnf
    repeat (first | (refine Conf.mk (by kernel_rfl) ?_; conv => whnf) | (refine SeqOk.go ?_; conv => whnf))
    refine .data _ _ c6 rfl ?_
    conv => whnf
    repeat (first | (refine Conf.mk (by kernel_rfl) ?_; conv => whnf) | (refine SeqOk.go ?_; conv => whnf))
    refine .data _ _ c4 rfl ?_
    conv => whnf
    repeat (first | (refine Conf.mk (by kernel_rfl) ?_; conv => whnf) | (refine SeqOk.go ?_; conv => whnf))
    refine BoolCase.yes (by simp) ?_
    conv => whnf
    repeat (first | (refine Conf.mk (by kernel_rfl) ?_; conv => whnf) | (refine SeqOk.go ?_; conv => whnf))
    refine .data _ _ d1.kb rfl ?_
    conv => whnf
    repeat (first | (refine Conf.mk (by kernel_rfl) ?_; conv => whnf) | (refine SeqOk.go ?_; conv => whnf))
    refine BoolCase.yes (by simp [hR1]) ?_
    conv => whnf
    repeat (first | (refine Conf.mk (by kernel_rfl) ?_; conv => whnf) | (refine SeqOk.go ?_; conv => whnf))
    refine .data _ _ d2.kb rfl ?_
    conv => whnf
    repeat (first | (refine Conf.mk (by kernel_rfl) ?_; conv => whnf) | (refine SeqOk.go ?_; conv => whnf))
    refine BoolCase.yes (by simp) ?_
    conv => whnf
    repeat (first | (refine Conf.mk (by kernel_rfl) ?_; conv => whnf) | (refine SeqOk.go ?_; conv => whnf))
    refine .data _ _ d3 rfl ?_
    conv => whnf
    repeat (first | (refine Conf.mk (by kernel_rfl) ?_; conv => whnf) | (refine SeqOk.go ?_; conv => whnf))
    exact Ret.to rfl
end Go.Proofs.Ytlioojekjnigiab.AM.Sk
/- What came in, opened: servers. -/
namespace Go.Proofs.Ytlioojekjnigiab.AM
open Sk
set_option linter.unusedVariables false
set_option linter.unusedSimpArgs false

theorem wt_wait {n : Nat} {ds : List D} (h : WT tab (n + 2) 64 ds) : ∃ x : Wt, ds = x.enc ∧ I64 x.number ∧ I64 x.time := by
  obtain ⟨a, y, rfl, h1, b, z, rfl, h2, c, u, rfl, h3, rfl⟩ := (h : ∃ a y, ds = a ++ y ∧ WT tab (n + 1) 3 a ∧ ∃ b z, y = b ++ z ∧ WT tab (n + 1) 3 b ∧ ∃ c u, z = c ++ u ∧ WT tab (n + 1) 4 c ∧ u = [])
  obtain ⟨r, rfl, hr⟩ := wt_int h1
  obtain ⟨m, rfl, hm⟩ := wt_int h2
  obtain ⟨b, rfl⟩ := wt_bool h3
  exact ⟨⟨r, m, b⟩, rfl, hr, hm⟩
theorem wt_server {n : Nat} {ds : List D} (h : WT tab (n + 4) 43 ds) : ∃ s : Sv, ds = s.enc ∧ SvOk s := by
  obtain ⟨a, y, rfl, h1, b, z, rfl, h2, c, u, rfl, h3, rfl⟩ := (h : ∃ a y, ds = a ++ y ∧ WT tab (n + 3) 3 a ∧ ∃ b z, y = b ++ z ∧ WT tab (n + 3) 40 b ∧ ∃ c u, z = c ++ u ∧ WT tab (n + 3) 41 c ∧ u = [])
  obtain ⟨r, rfl, hr⟩ := wt_int h1
  obtain ⟨es, rfl, k1, k2⟩ := (h2 : ∃ es, b = [.list es] ∧ es.length * 24 ≤ 140737488351232 ∧ ∀ e' ∈ es, WT tab (n + 2) 64 e')
  obtain ⟨l, rfl, hl⟩ := all_enc (fun e he => wt_wait he) es k2
  obtain ⟨d, rfl, k3, _⟩ := wt_ints h3
  rw [List.length_map] at k1
  have k1 : l.length * 24 ≤ 140737488351232 := k1
  exact ⟨⟨r, l, d⟩, rfl, by show d.length ≤ _; omega, by show l.length ≤ _; omega⟩
theorem wt_servers {n : Nat} {ds : List D} (h : WT tab (n + 5) 44 ds) : ∃ l : List Sv, ds = [.list (l.map Sv.enc)] ∧ ∀ x ∈ l, SvOk x := by
  obtain ⟨es, rfl, h1, h2⟩ := (h : ∃ es, ds = [.list es] ∧ es.length * 56 ≤ 140737488351232 ∧ ∀ e' ∈ es, WT tab (n + 4) 43 e')
  obtain ⟨l, rfl, hl⟩ := all_enc (fun e he => wt_server he) es h2
  exact ⟨l, rfl, hl⟩
end Go.Proofs.Ytlioojekjnigiab.AM
/- Servers: whatever comes between, one order (plain). -/
namespace Go.Proofs.Ytlioojekjnigiab.AM.Sk
set_option linter.unusedVariables false
set_option linter.unusedSimpArgs false

/-- What is ahead: by what is known of each, then by the number. -/
def klt (g : Int → Int) (a b : Int) : Prop := g a < g b ∨ g a = g b ∧ a < b
theorem klt_irrefl {g : Int → Int} {a : Int} : ¬ klt g a a := by unfold klt; omega
theorem klt_trans {g : Int → Int} {a b c : Int} (h : klt g a b) (k : klt g b c) : klt g a c := by unfold klt at *; omega
/-- Two rows in order that have the same are the same. -/
theorem sorted_same {g : Int → Int} : ∀ {x y : List Int}, x.Pairwise (klt g) → y.Pairwise (klt g) → (∀ d, d ∈ x ↔ d ∈ y) → x = y
  | [], [], _, _, _ => rfl
  | [], b :: y, _, _, h => by have := (h b).2 (by simp); cases this
  | a :: x, [], _, _, h => by have := (h a).1 (by simp); cases this
  | a :: x, b :: y, hx, hy, h => by
    rw [List.pairwise_cons] at hx hy
    have hab : a = b := by
      rcases List.mem_cons.1 ((h a).1 (by simp)) with e | ha
      · exact e
      · rcases List.mem_cons.1 ((h b).2 (by simp)) with e | hb
        · exact e.symm
        · exact absurd (klt_trans (hx.1 b hb) (hy.1 a ha)) klt_irrefl
    subst hab
    rw [sorted_same hx.2 hy.2 fun d => ?_]
    constructor
    · intro hd
      rcases List.mem_cons.1 ((h d).1 (by simp [hd])) with e | hd'
      · subst e; exact absurd (hx.1 d hd) klt_irrefl
      · exact hd'
    · intro hd
      rcases List.mem_cons.1 ((h d).2 (by simp [hd])) with e | hd'
      · subst e; exact absurd (hy.1 d hd) klt_irrefl
      · exact hd'
/-- What is known of one server's lists while it settles. -/
structure Loc (g : Int → Int) (clk : Int) (ws : List Wt) (ds : List Int) : Prop where
  fin : ∀ x ∈ ws, x.final = true → g x.number = x.time
  sorted : ds.Pairwise (klt g)
  ahead : ∀ d ∈ ds, ∀ x ∈ ws, g d < x.time ∨ g d = x.time ∧ d < x.number
  bound : ∀ d ∈ ds, g d ≤ clk
  wb : ∀ x ∈ ws, x.time ≤ clk
  ris : Rises ws
theorem ahead_iff {x y : Wt} (h : x.ahead y = true) : x.time < y.time ∨ x.time = y.time ∧ x.number < y.number := by
  unfold Wt.ahead at h
  split at h
  · rename_i e; exact .inr ⟨e, by simpa using h⟩
  · exact .inl (by simpa using h)
theorem Loc.settle {g : Int → Int} {clk : Int} : ∀ (f : Nat) (ws : List Wt) (ds : List Int), Loc g clk ws ds → Loc g clk (settle f ws ds).1 (settle f ws ds).2
  | 0, ws, ds, h => h
  | f + 1, ws, ds, h => by
    unfold Sk.settle
    split
    · rename_i x hx
      split
      · rename_i hf
        refine Loc.settle f _ _ ?_
        have hne : ws ≠ [] := by rintro rfl; cases hx
        have hm := List.mem_of_getElem? hx
        obtain ⟨x', hx', hl⟩ := firstAt_least hne
        rw [hx] at hx'
        cases hx'
        have hsub : ∀ y ∈ ws.eraseIdx (firstAt ws), y ∈ ws := fun y hy => List.mem_of_mem_eraseIdx hy
        refine ⟨fun y hy => h.fin y (hsub y hy), ?_, fun d hd y hy => ?_, fun d hd => ?_, fun y hy => h.wb y (hsub y hy), List.Pairwise.sublist (List.eraseIdx_sublist ws _) h.ris⟩
        · rw [List.pairwise_append]
          refine ⟨h.sorted, List.pairwise_singleton _ _, fun a ha b hb => ?_⟩
          obtain rfl : b = x.number := by simpa using hb
          have := h.ahead a ha x hm
          unfold klt
          rw [h.fin x hm hf]
          exact this
        · rcases List.mem_append.1 hd with hd | hd
          · exact h.ahead d hd y (hsub y hy)
          · obtain rfl : d = x.number := by simpa using hd
            rw [h.fin x hm hf]
            exact ahead_iff (ahead_total (rises_erase h.ris hx y hy) (hl y (hsub y hy)))
        · rcases List.mem_append.1 hd with hd | hd
          · exact h.bound d hd
          · obtain rfl : d = x.number := by simpa using hd
            rw [h.fin x hm hf]
            exact h.wb x hm
      · exact h
    · exact h
theorem settle_mem : ∀ (f : Nat) (ws : List Wt) (ds : List Int) (n : Int), ((∃ x ∈ ws, x.number = n) ∨ n ∈ ds) → ((∃ x ∈ (settle f ws ds).1, x.number = n) ∨ n ∈ (settle f ws ds).2)
  | 0, ws, ds, n, h => h
  | f + 1, ws, ds, n, h => by
    unfold Sk.settle
    split
    · rename_i x hx
      split
      · refine settle_mem f _ _ n ?_
        rcases h with ⟨y, hy, rfl⟩ | h
        · by_cases e : y = x
          · subst e; exact .inr (by simp)
          · refine .inl ⟨y, ?_, rfl⟩
            rw [List.mem_eraseIdx_iff_getElem?]
            obtain ⟨j, hj⟩ := List.mem_iff_getElem?.1 hy
            refine ⟨j, ?_, hj⟩
            rintro rfl
            rw [hx] at hj
            cases hj
            exact e rfl
        · exact .inr (by simp [h])
      · exact h
    · exact h
theorem settle_from : ∀ (f : Nat) (ws : List Wt) (ds : List Int), (∀ x ∈ (settle f ws ds).1, x ∈ ws) ∧ ∀ d ∈ (settle f ws ds).2, d ∈ ds ∨ ∃ x ∈ ws, x.number = d ∧ x.final = true
  | 0, ws, ds => ⟨fun x h => h, fun d h => .inl h⟩
  | f + 1, ws, ds => by
    unfold Sk.settle
    split
    · rename_i x hx
      split
      · rename_i hf
        obtain ⟨h1, h2⟩ := settle_from f (ws.eraseIdx (firstAt ws)) (ds ++ [x.number])
        refine ⟨fun y hy => List.mem_of_mem_eraseIdx (h1 y hy), fun d hd => ?_⟩
        rcases h2 d hd with h | ⟨y, hy, h3, h4⟩
        · rcases List.mem_append.1 h with h | h
          · exact .inl h
          · obtain rfl : d = x.number := by simpa using h
            exact .inr ⟨x, List.mem_of_getElem? hx, rfl, hf⟩
        · exact .inr ⟨y, List.mem_of_mem_eraseIdx hy, h3, h4⟩
      · exact ⟨fun x h => h, fun d h => .inl h⟩
    · exact ⟨fun x h => h, fun d h => .inl h⟩
/-- Numbers that rise within bounds are few. -/
theorem rises_few : ∀ (ws : List Wt) (lo hi : Int), Rises ws → (∀ x ∈ ws, lo ≤ x.number ∧ x.number ≤ hi) → (ws.length : Int) ≤ max 0 (hi - lo + 1)
  | [], lo, hi, _, _ => by simp; omega
  | x :: ws, lo, hi, hr, hb => by
    unfold Rises at hr
    rw [List.pairwise_cons] at hr
    have h0 := hb x (by simp)
    have := rises_few ws (x.number + 1) hi hr.2 fun y hy => ⟨by have := hr.1 y hy; omega, (hb y (by simp [hy])).2⟩
    rw [List.length_cons]
    omega
theorem few1 (a : Int) : ∀ ds : List Int, ds.Nodup → ds.length ≤ (ds.filter fun d => decide (d ≠ a)).length + 1
  | [], _ => Nat.zero_le _
  | d :: ds, h => by
    rw [List.nodup_cons] at h
    by_cases e : d = a
    · subst e
      have : (ds.filter fun x => decide (x ≠ d)) = ds := List.filter_eq_self.2 fun x hx => by
        simp only [decide_eq_true_eq]
        rintro rfl
        exact h.1 hx
      rw [List.filter_cons_of_neg (by simp), this]
      exact Nat.le_refl _
    · rw [List.filter_cons_of_pos (by simpa using e)]
      have := few1 a ds h.2
      simp only [List.length_cons]
      omega
/-- Numbers of 1 to 7, each once, are no more than 7. -/
theorem nodup_few : ∀ (k : Nat) (ds : List Int), ds.Nodup → (∀ d ∈ ds, 1 ≤ d ∧ d ≤ k) → ds.length ≤ k
  | 0, ds, _, h => by
    cases ds with
    | nil => exact Nat.le_refl _
    | cons d ds => have := h d (by simp); omega
  | k + 1, ds, hn, h => by
    have h1 := nodup_few k (ds.filter fun d => decide (d ≠ ((k + 1 : Nat) : Int))) (hn.filter _) fun d hd => by
      rw [List.mem_filter] at hd
      have h2 := h d hd.1
      have h3 : d ≠ ((k + 1 : Nat) : Int) := by simpa using hd.2
      omega
    have := few1 ((k + 1 : Nat) : Int) ds hn
    omega
/-- Times by servers. -/
abbrev Tb := Nat → Nat → Int
def upd (t : Tb) (n i : Nat) (v : Int) : Tb := fun a b => if a = n then (if b = i then v else t a b) else t a b
theorem upd_same (t : Tb) (n i : Nat) (v : Int) : upd t n i v n i = v := by simp [upd]
theorem upd_row {t : Tb} {n i : Nat} {v : Int} {a : Nat} (h : a ≠ n) : upd t n i v a = t a := funext fun b => by simp [upd, h]
theorem upd_col {t : Tb} {n i : Nat} {v : Int} {a b : Nat} (h : b ≠ i) : upd t n i v a b = t a b := by simp [upd, h]
theorem upd_ne {t : Tb} {n i : Nat} {v : Int} {a b : Nat} (h : a ≠ n) : upd t n i v a b = t a b := by rw [upd_row h]
/-- How many times there are. -/
def cntTo (t : Tb) : Nat → Int
  | 0 => 0
  | k + 1 => cntTo t k + (if t (k / 3) (k % 3) = 0 then 0 else 1)
def cntT (t : Tb) : Int := cntTo t 24
theorem cntTo_le (t : Tb) : ∀ k, 0 ≤ cntTo t k ∧ cntTo t k ≤ k
  | 0 => by simp [cntTo]
  | k + 1 => by have := cntTo_le t k; unfold cntTo; split <;> omega
theorem cntTo_upd {t : Tb} {n i : Nat} {v : Int} (hi : i < 3) (h0 : t n i = 0) (hv : v ≠ 0) : ∀ k, cntTo (upd t n i v) k = cntTo t k + (if n * 3 + i < k then 1 else 0)
  | 0 => by simp [cntTo]
  | k + 1 => by
    unfold cntTo
    rw [cntTo_upd hi h0 hv k]
    by_cases e : k = n * 3 + i
    · have e1 : k / 3 = n := by omega
      have e2 : k % 3 = i := by omega
      rw [e1, e2, upd_same, h0, if_neg hv, if_pos rfl]
      split <;> split <;> omega
    · have : upd t n i v (k / 3) (k % 3) = t (k / 3) (k % 3) := by
        by_cases e1 : k / 3 = n
        · exact upd_col (by omega)
        · exact upd_ne e1
      rw [this]
      generalize (if t (k / 3) (k % 3) = 0 then (0 : Int) else 1) = q
      split <;> split <;> omega
theorem cntT_upd {t : Tb} {n i : Nat} {v : Int} (hn : n ≤ 7) (hi : i < 3) (h0 : t n i = 0) (hv : v ≠ 0) : cntT (upd t n i v) = cntT t + 1 := by
  unfold cntT
  rw [cntTo_upd hi h0 hv, if_pos (by omega)]
theorem cntT_le (t : Tb) : 0 ≤ cntT t ∧ cntT t ≤ 24 := cntTo_le t 24
/-- table.most -/
def mostGo (c : Int) (r : Nat → Int) : Nat → Nat → Int → Int × Bool
  | 0, i, g => (g, true)
  | m + 1, i, g => if bitOf c i = true then (if r i = 0 then (0, false) else mostGo c r m (i + 1) (if g < r i then r i else g)) else mostGo c r m (i + 1) g
def mostV (c : Int) (r : Nat → Int) : Int × Bool := mostGo c r 3 0 0
theorem mostGo_is {c : Int} {r : Nat → Int} : ∀ (m i : Nat) (g v : Int), mostGo c r m i g = (v, true) → g ≤ v ∧ (∀ j, i ≤ j → j < i + m → bitOf c j = true → r j ≠ 0 ∧ r j ≤ v) ∧ (v = g ∨ ∃ j, i ≤ j ∧ j < i + m ∧ v = r j)
  | 0, i, g, v, h => by
    cases h
    exact ⟨Int.le_refl _, fun j h1 h2 => by omega, .inl rfl⟩
  | m + 1, i, g, v, h => by
    unfold mostGo at h
    split at h
    · rename_i hb
      split at h
      · cases h
      · rename_i h0
        obtain ⟨k1, k2, k3⟩ := mostGo_is m (i + 1) _ v h
        refine ⟨by split at k1 <;> omega, fun j h1 h2 hbj => ?_, ?_⟩
        · by_cases e : j = i
          · subst e; exact ⟨h0, by split at k1 <;> omega⟩
          · exact k2 j (by omega) (by omega) hbj
        · rcases k3 with k3 | ⟨j, j1, j2, j3⟩
          · split at k3
            · exact .inr ⟨i, by omega, by omega, k3⟩
            · exact .inl k3
          · exact .inr ⟨j, by omega, by omega, j3⟩
    · rename_i hb
      obtain ⟨k1, k2, k3⟩ := mostGo_is m (i + 1) _ v h
      refine ⟨k1, fun j h1 h2 hbj => ?_, ?_⟩
      · by_cases e : j = i
        · subst e; exact absurd hbj hb
        · exact k2 j (by omega) (by omega) hbj
      · rcases k3 with k3 | ⟨j, j1, j2, j3⟩
        · exact .inl k3
        · exact .inr ⟨j, by omega, by omega, j3⟩
theorem mostV_is {c : Int} {r : Nat → Int} {v : Int} (h : mostV c r = (v, true)) : 0 ≤ v ∧ (∀ j, j < 3 → bitOf c j = true → r j ≠ 0 ∧ r j ≤ v) ∧ (v = 0 ∨ ∃ j, v = r j) := by
  obtain ⟨h1, h2, h3⟩ := mostGo_is 3 0 0 v h
  refine ⟨h1, fun j hj hb => h2 j (by omega) (by omega) hb, ?_⟩
  rcases h3 with h3 | ⟨j, _, _, h3⟩
  · exact .inl h3
  · exact .inr ⟨j, h3⟩
/-- What holds of three servers, whatever came. -/
structure Inv (col : Nat → Int) (cur : List Sv) (t f : Tb) : Prop where
  len : cur.length = 3
  right : ∀ (i : Nat) (s : Sv), cur[i]? = some s → Right s
  clock : ∀ (i : Nat) (s : Sv), cur[i]? = some s → s.clock ≤ cntT t
  tl : ∀ (n i : Nat), 0 ≤ t n i ∧ t n i ≤ cntT t
  fl : ∀ (n i : Nat), 0 ≤ f n i
  waits : ∀ (i : Nat) (s : Sv), cur[i]? = some s → ∀ x ∈ s.waits, ∃ n : Nat, x.number = n ∧ 1 ≤ n ∧ n ≤ 7 ∧ 0 < t n i ∧ (x.final = true → f n i = x.time) ∧ (x.final = false → f n i = 0 ∧ x.time = t n i)
  done : ∀ (i : Nat) (s : Sv), cur[i]? = some s → ∀ d ∈ s.done, ∃ n : Nat, d = n ∧ 1 ≤ n ∧ n ≤ 7 ∧ 0 < t n i ∧ 0 < f n i
  cover : ∀ (i : Nat) (s : Sv), cur[i]? = some s → ∀ n : Nat, 0 < t n i → (∃ x ∈ s.waits, x.number = n) ∨ (n : Int) ∈ s.done
  most : ∀ (n i : Nat), 0 < f n i → mostV (col n) (t n) = (f n i, true)
  loc : ∀ (i : Nat) (s : Sv), cur[i]? = some s → Loc (fun d => f d.toNat i) s.clock s.waits s.done
theorem nat_toNat (n : Nat) : (n : Int).toNat = n := Int.toNat_natCast n
theorem set_get {l : List Sv} {i j : Nat} {a x : Sv} (h : (l.set i a)[j]? = some x) : (j = i ∧ x = a) ∨ (j ≠ i ∧ l[j]? = some x) := by
  rw [List.getElem?_set] at h
  by_cases e : i = j
  · rw [if_pos e] at h
    split at h
    · cases h; exact .inl ⟨e.symm, rfl⟩
    · cases h
  · rw [if_neg e] at h
    exact .inr ⟨fun k => e k.symm, h⟩
theorem mem_insW {ws : List Wt} {x y : Wt} (h : y ∈ insertW ws x) : y = x ∨ y ∈ ws := mem_insertW.1 h
theorem Inv.prop {col : Nat → Int} {cur : List Sv} {t f : Tb} (h : Inv col cur t f) {n i : Nat} {s : Sv} (hs : cur[i]? = some s) (hi : i < 3) (h1 : 1 ≤ n) (h7 : n ≤ 7) (hb : bitOf (col n) i = true) (ht : t n i = 0) :
    s.propE n = 0 ∧ 0 < (s.propR n).clock ∧ Inv col (cur.set i (s.propR n)) (upd t n i (s.propR n).clock) f := by
  have hr := h.right i s hs
  have hlen := cntT_le t
  have hck := h.clock i s hs
  have hc0 := hr.clock
  have hnw : ∀ x ∈ s.waits, x.number ≠ n := fun x hx e => by
    obtain ⟨m, e1, _, _, e4, _⟩ := h.waits i s hs x hx
    obtain rfl : m = n := by omega
    omega
  have hnd : (n : Int) ∉ s.done := fun hd => by
    obtain ⟨m, e1, _, _, e4, _⟩ := h.done i s hs n hd
    obtain rfl : m = n := by omega
    omega
  have hw7 : s.waits.length ≤ 7 := by
    have := rises_few s.waits 1 7 hr.rises fun x hx => by
      obtain ⟨m, e1, e2, e3, _⟩ := h.waits i s hs x hx
      omega
    omega
  have hE : propErr s n = 0 := by
    rw [propErr, if_neg (by unfold isNum; simp; omega), if_neg, if_neg (by omega)]
    rintro (k | k)
    · obtain ⟨x, hx, hxn⟩ := findAt_isSome.1 k
      exact hnw x hx hxn
    · exact hnd k
  have hE0 : s.propE n = 0 := by rw [propE_right hr]; exact hE
  have hR : s.propR n = ⟨s.clock + 1, insertW s.waits ⟨n, s.clock + 1, false⟩, s.done⟩ := by rw [Sv.propR, if_pos hE0]; rfl
  have hRr : Right (s.propR n) := by rw [propR_right hr]; exact (propD_right hr hE).1
  have hf0 : f n i = 0 := by
    have := h.fl n i
    by_cases e : 0 < f n i
    · have := (mostV_is (h.most n i e)).2.1 i hi hb
      exact absurd ht this.1
    · omega
  have hfn : ∀ j, ¬ 0 < f n j := fun j e => absurd ht ((mostV_is (h.most n j e)).2.1 i hi hb).1
  refine ⟨hE0, by rw [hR]; show 0 < s.clock + 1; omega, ?_⟩
  rw [hR] at hRr ⊢
  have hcn : cntT (upd t n i (s.clock + 1)) = cntT t + 1 := cntT_upd h7 hi ht (by omega)
  have keep : ∀ m j, 0 < t m j → upd t n i (s.clock + 1) m j = t m j := fun m j hm => by
    by_cases e1 : m = n
    · by_cases e2 : j = i
      · subst e1; subst e2; omega
      · exact upd_col e2
    · exact upd_ne e1
  have keep2 : ∀ m j, 0 < t m j → 0 < upd t n i (s.clock + 1) m j := fun m j hm => by rw [keep m j hm]; exact hm
  refine ⟨by rw [List.length_set]; exact h.len, fun j x hx => ?_, fun j x hx => ?_, fun m j => ?_, h.fl, fun j x hx w hw => ?_, fun j x hx d hd => ?_, fun j x hx m hm => ?_, fun m j hm => ?_, fun j x hx => ?_⟩
  · rcases set_get hx with ⟨rfl, rfl⟩ | ⟨_, hx⟩
    · exact hRr
    · exact h.right j x hx
  · rcases set_get hx with ⟨rfl, rfl⟩ | ⟨_, hx⟩
    · rw [hcn]; show s.clock + 1 ≤ _; omega
    · have := h.clock j x hx; rw [hcn]; show x.clock ≤ _; omega
  · show 0 ≤ upd t n i (s.clock + 1) m j ∧ upd t n i (s.clock + 1) m j ≤ cntT (upd t n i (s.clock + 1))
    rw [hcn]
    have := h.tl m j
    unfold upd
    split
    · split <;> omega
    · omega
  · rcases set_get hx with ⟨rfl, rfl⟩ | ⟨hj, hx⟩
    · rcases mem_insW hw with rfl | hw
      · exact ⟨n, rfl, h1, h7, by show 0 < upd t n j (s.clock + 1) n j; rw [upd_same]; omega, fun e => (by cases e), fun _ => ⟨hf0, by show s.clock + 1 = upd t n j (s.clock + 1) n j; rw [upd_same]⟩⟩
      · obtain ⟨m, e1, e2, e3, e4, e5, e6⟩ := h.waits j s hs w hw
        exact ⟨m, e1, e2, e3, keep2 m j e4, e5, fun e => ⟨(e6 e).1, (e6 e).2.trans (keep m j e4).symm⟩⟩
    · obtain ⟨m, e1, e2, e3, e4, e5, e6⟩ := h.waits j x hx w hw
      exact ⟨m, e1, e2, e3, keep2 m j e4, e5, fun e => ⟨(e6 e).1, (e6 e).2.trans (keep m j e4).symm⟩⟩
  · have hd' : ∃ y, cur[j]? = some y ∧ d ∈ y.done := by
      rcases set_get hx with ⟨rfl, rfl⟩ | ⟨_, hx⟩
      · exact ⟨s, hs, hd⟩
      · exact ⟨x, hx, hd⟩
    obtain ⟨y, hy, hdy⟩ := hd'
    obtain ⟨m, e1, e2, e3, e4, e5⟩ := h.done j y hy d hdy
    exact ⟨m, e1, e2, e3, keep2 m j e4, e5⟩
  · have hm : 0 < upd t n i (s.clock + 1) m j := hm
    rcases set_get hx with ⟨rfl, rfl⟩ | ⟨hj, hx⟩
    · by_cases e : m = n
      · subst e; exact .inl ⟨_, mem_insertW.2 (.inl rfl), rfl⟩
      · rw [upd_ne e] at hm
        rcases h.cover j s hs m hm with ⟨y, hy, hyn⟩ | hd
        · exact .inl ⟨y, mem_insertW.2 (.inr hy), hyn⟩
        · exact .inr hd
    · rw [upd_col hj] at hm
      exact h.cover j x hx m hm
  · have e : m ≠ n := by rintro rfl; exact hfn j hm
    show mostV (col m) (upd t n i (s.clock + 1) m) = _
    rw [upd_row e]
    exact h.most m j hm
  · rcases set_get hx with ⟨rfl, rfl⟩ | ⟨_, hx⟩
    · have hl := h.loc j s hs
      refine ⟨fun w hw hf => ?_, hl.sorted, fun d hd w hw => ?_, fun d hd => by have := hl.bound d hd; show _ ≤ s.clock + 1; omega, fun w hw => ?_, hRr.rises⟩
      · rcases mem_insW hw with rfl | hw
        · cases hf
        · exact hl.fin w hw hf
      · rcases mem_insW hw with rfl | hw
        · have := hl.bound d hd; exact .inl (by show _ < s.clock + 1; omega)
        · exact hl.ahead d hd w hw
      · rcases mem_insW hw with rfl | hw
        · exact Int.le_refl _
        · have := hl.wb w hw; show _ ≤ s.clock + 1; omega
    · exact h.loc j x hx
theorem Inv.comm {col : Nat → Int} {cur : List Sv} {t f : Tb} (h : Inv col cur t f) {n i : Nat} {s : Sv} (hs : cur[i]? = some s) (hi : i < 3) (h1 : 1 ≤ n) (h7 : n ≤ 7) (hb : bitOf (col n) i = true) (ht : t n i ≠ 0) (hf : ¬ 0 < f n i) {T : Int} (hm : mostV (col n) (t n) = (T, true)) :
    s.commE n T = 0 ∧ (s.commR n T).err = 0 ∧ Inv col (cur.set i (s.commR n T)) t (upd f n i T) := by
  have hr := h.right i s hs
  have hlen := cntT_le t
  have htp : 0 < t n i := by have := (h.tl n i).1; omega
  have hf0 : f n i = 0 := by have := h.fl n i; omega
  obtain ⟨m1, m2, m3⟩ := mostV_is hm
  have hT := (m2 i hi hb).2
  have hT24 : T ≤ 24 := by
    rcases m3 with m3 | ⟨j, m3⟩
    · omega
    · have := (h.tl n j).2; omega
  have hTc : T ≤ cntT t := by
    rcases m3 with m3 | ⟨j, m3⟩
    · omega
    · have := (h.tl n j).2; omega
  have hnd : (n : Int) ∉ s.done := fun hd => by
    obtain ⟨m, e1, _, _, _, e5⟩ := h.done i s hs n hd
    obtain rfl : m = n := by omega
    omega
  have hw : ∃ x ∈ s.waits, x.number = n := by
    rcases h.cover i s hs n htp with hw | hd
    · exact hw
    · exact absurd hd hnd
  obtain ⟨k, hk⟩ := Option.isSome_iff_exists.1 (findAt_isSome.2 hw)
  obtain ⟨x, hx, hxn⟩ := findAt_is hk
  have hxm := List.mem_of_getElem? hx
  have hwx := h.waits i s hs x hxm
  obtain ⟨m, e1, _, _, _, e5, e6⟩ := hwx
  obtain rfl : m = n := by omega
  have hxt := (hr.waits x hxm).2.1
  have hxf : x.final = false := by
    cases hfx : x.final
    · rfl
    · have := e5 hfx; omega
  have hxtime := (e6 hxf).2
  have hd7 : s.done.length ≤ 7 := nodup_few 7 s.done hr.once fun d hd => by
    obtain ⟨q, q1, q2, q3, _⟩ := h.done i s hs d hd
    omega
  have hw7 : s.waits.length ≤ 8 := hr.len
  have hmore := settle_more s.waits.length (s.waits.set k ⟨m, T, true⟩) s.done
  rw [List.length_set] at hmore
  have hE : commErr s m T = 0 := by
    unfold commErr
    rw [if_neg (by unfold isNum; simp; omega), hk]
    simp only [hx]
    rw [if_neg (by rw [hxf]; simp; omega), if_neg]
    show ¬ 30 < (settle s.waits.length (s.waits.set k ⟨m, T, true⟩) s.done).2.length
    omega
  have hE0 : s.commE m T = 0 := by rw [commE_right hr]; exact hE
  have hfacts := comm_facts hE0
  have hR : s.commR m T = commSv s m T k := by rw [Sv.commR, if_pos hE0, hk]; rfl
  have hRr : Right (s.commR m T) := right_of_err hfacts.2.1
  refine ⟨hE0, hfacts.2.1, ?_⟩
  have hst := settle_from s.waits.length (s.waits.set k ⟨m, T, true⟩) s.done
  have hmem := settle_mem s.waits.length (s.waits.set k ⟨m, T, true⟩) s.done
  have hl := h.loc i s hs
  have hset : ∀ y ∈ s.waits.set k ⟨m, T, true⟩, y = ⟨m, T, true⟩ ∨ (y ∈ s.waits ∧ y.number ≠ m) := fun y hy => by
    obtain ⟨j, hj⟩ := List.mem_iff_getElem?.1 hy
    rw [List.getElem?_set] at hj
    by_cases e : k = j
    · rw [if_pos e] at hj
      split at hj
      · cases hj; exact .inl rfl
      · cases hj
    · rw [if_neg e] at hj
      refine .inr ⟨List.mem_of_getElem? hj, fun k2 => ?_⟩
      have := hr.rises.inj (List.mem_of_getElem? hj) hxm (k2.trans hxn.symm)
      subst this
      have hj1 := (List.getElem?_eq_some_iff.1 hj)
      have hk1 := (List.getElem?_eq_some_iff.1 hx)
      obtain ⟨a1, a2⟩ := hj1
      obtain ⟨b1, b2⟩ := hk1
      have hp := List.pairwise_iff_getElem.1 hr.rises
      rcases Nat.lt_or_gt_of_ne e with hlt | hlt
      · have := hp k j b1 a1 hlt; rw [a2, b2] at this; omega
      · have := hp j k a1 b1 hlt; rw [a2, b2] at this; omega
  have hg : ∀ d : Int, d ≠ m → (∃ q : Nat, d = q) → upd f m i T d.toNat i = f d.toNat i := fun d hd ⟨q, hq⟩ => by
    subst hq
    rw [nat_toNat]
    exact upd_ne (by omega)
  have hloc0 : Loc (fun d => upd f m i T d.toNat i) (max s.clock T) (s.waits.set k ⟨m, T, true⟩) s.done := by
    have hgd : ∀ d ∈ s.done, upd f m i T d.toNat i = f d.toNat i := fun d hd => by
      obtain ⟨q, q1, _⟩ := h.done i s hs d hd
      exact hg d (fun e => hnd (e ▸ hd)) ⟨q, q1⟩
    refine ⟨fun y hy hyf => ?_, ?_, fun d hd y hy => ?_, fun d hd => ?_, fun y hy => ?_, set_rises hr.rises hx hxn.symm⟩
    · rcases hset y hy with rfl | ⟨hy, hyn⟩
      · show upd f m i T (m : Int).toNat i = T
        rw [nat_toNat, upd_same]
      · obtain ⟨q, q1, _⟩ := h.waits i s hs y hy
        show upd f m i T y.number.toNat i = _
        rw [hg y.number hyn ⟨q, q1⟩]
        exact hl.fin y hy hyf
    · refine List.Pairwise.imp_of_mem (fun {a b} ha hb hab => ?_) hl.sorted
      show upd f m i T a.toNat i < upd f m i T b.toNat i ∨ upd f m i T a.toNat i = upd f m i T b.toNat i ∧ a < b
      rw [hgd a ha, hgd b hb]
      exact hab
    · show upd f m i T d.toNat i < y.time ∨ upd f m i T d.toNat i = y.time ∧ d < y.number
      rw [hgd d hd]
      rcases hset y hy with rfl | ⟨hy, hyn⟩
      · have := hl.ahead d hd x hxm
        show f d.toNat i < T ∨ f d.toNat i = T ∧ d < m
        have : f d.toNat i < x.time ∨ f d.toNat i = x.time ∧ d < x.number := this
        omega
      · exact hl.ahead d hd y hy
    · show upd f m i T d.toNat i ≤ _
      rw [hgd d hd]
      have := hl.bound d hd
      have : f d.toNat i ≤ s.clock := this
      omega
    · rcases hset y hy with rfl | ⟨hy, hyn⟩
      · show T ≤ _; omega
      · have := hl.wb y hy; omega
  have hloc := Loc.settle s.waits.length _ _ hloc0
  have hcm : (⟨m, T, true⟩ : Wt) ∈ s.waits.set k ⟨m, T, true⟩ := by
    have hkl := (List.getElem?_eq_some_iff.1 hx).1
    exact List.mem_of_getElem? (i := k) (by rw [List.getElem?_set, if_pos rfl, if_pos hkl])
  have hTp : 0 < T := by omega
  rw [hR] at hRr ⊢
  have fkeep : ∀ a b, 0 < f a b → upd f m i T a b = f a b := fun a b hab => by
    by_cases e1 : a = m
    · by_cases e2 : b = i
      · subst e1; subst e2; omega
      · exact upd_col e2
    · exact upd_ne e1
  have fkeep2 : ∀ a b, (a ≠ m ∨ b ≠ i) → upd f m i T a b = f a b := fun a b hab => by
    rcases hab with e | e
    · exact upd_ne e
    · exact upd_col e
  refine ⟨by rw [List.length_set]; exact h.len, fun j y hy => ?_, fun j y hy => ?_, h.tl, fun a b => ?_, fun j y hy w hw => ?_, fun j y hy d hd => ?_, fun j y hy a ha => ?_, fun a b hab => ?_, fun j y hy => ?_⟩
  · rcases set_get hy with ⟨rfl, rfl⟩ | ⟨_, hy⟩
    · exact hRr
    · exact h.right j y hy
  · rcases set_get hy with ⟨rfl, rfl⟩ | ⟨_, hy⟩
    · have := h.clock j s hs; show max s.clock T ≤ _; omega
    · exact h.clock j y hy
  · have := h.fl a b
    unfold upd
    split
    · split <;> omega
    · omega
  · rcases set_get hy with ⟨rfl, rfl⟩ | ⟨hj, hy⟩
    · rcases hset w (hst.1 w hw) with rfl | ⟨hw, hwn⟩
      · exact ⟨m, rfl, h1, h7, htp, fun _ => upd_same f m j T, fun e => (by cases e)⟩
      · obtain ⟨q, q1, q2, q3, q4, q5, q6⟩ := h.waits j s hs w hw
        have e : upd f m j T q j = f q j := upd_ne (by omega)
        exact ⟨q, q1, q2, q3, q4, fun k => e.trans (q5 k), fun k => ⟨e.trans (q6 k).1, (q6 k).2⟩⟩
    · obtain ⟨q, q1, q2, q3, q4, q5, q6⟩ := h.waits j y hy w hw
      have e : upd f m i T q j = f q j := upd_col hj
      exact ⟨q, q1, q2, q3, q4, fun k => e.trans (q5 k), fun k => ⟨e.trans (q6 k).1, (q6 k).2⟩⟩
  · rcases set_get hy with ⟨rfl, rfl⟩ | ⟨hj, hy⟩
    · rcases hst.2 d hd with hd | ⟨w, hw, hwd, hwf⟩
      · obtain ⟨q, q1, q2, q3, q4, q5⟩ := h.done j s hs d hd
        exact ⟨q, q1, q2, q3, q4, by rw [fkeep q j q5]; exact q5⟩
      · rcases hset w hw with rfl | ⟨hw, hwn⟩
        · exact ⟨m, hwd.symm, h1, h7, htp, by rw [upd_same]; exact hTp⟩
        · obtain ⟨q, q1, q2, q3, q4, q5, q6⟩ := h.waits j s hs w hw
          have e : upd f m j T q j = f q j := upd_ne (by omega)
          exact ⟨q, by omega, q2, q3, q4, by rw [e, q5 hwf]; have := (hr.waits w hw).2.1; omega⟩
    · obtain ⟨q, q1, q2, q3, q4, q5⟩ := h.done j y hy d hd
      exact ⟨q, q1, q2, q3, q4, by rw [fkeep q j q5]; exact q5⟩
  · rcases set_get hy with ⟨rfl, rfl⟩ | ⟨hj, hy⟩
    · refine hmem a ?_
      rcases h.cover j s hs a ha with ⟨w, hw, hwa⟩ | hd
      · by_cases e : a = m
        · subst e; exact .inl ⟨_, hcm, rfl⟩
        · refine .inl ⟨w, ?_, hwa⟩
          obtain ⟨p, hp⟩ := List.mem_iff_getElem?.1 hw
          have hpk : k ≠ p := by
            rintro rfl
            rw [hx] at hp
            cases hp
            omega
          exact List.mem_of_getElem? (i := p) (by rw [List.getElem?_set_ne hpk]; exact hp)
      · exact .inr hd
    · exact h.cover j y hy a ha
  · by_cases e : a = m ∧ b = i
    · obtain ⟨rfl, rfl⟩ := e
      rw [upd_same]
      exact hm
    · have e2 := fkeep2 a b (by omega)
      rw [e2] at hab ⊢
      exact h.most a b hab
  · rcases set_get hy with ⟨rfl, rfl⟩ | ⟨hj, hy⟩
    · exact hloc
    · have hlj := h.loc j y hy
      have e : (fun d : Int => upd f m i T d.toNat j) = fun d => f d.toNat j := funext fun d => upd_col hj
      rw [e]
      exact hlj
theorem Inv.same {col : Nat → Int} {cur : List Sv} {t f : Tb} (h : Inv col cur t f) {i j : Nat} {a b : Sv} (ha : cur[i]? = some a) (hb : cur[j]? = some b) :
    (a.done.filter fun d => decide (d ∈ b.done)) = b.done.filter fun d => decide (d ∈ a.done) := by
  refine sorted_same (g := fun d => f d.toNat i) ((h.loc i a ha).sorted.filter _) ?_ fun d => by simp [List.mem_filter, And.comm]
  have hs := (h.loc j b hb).sorted.filter fun d => decide (d ∈ a.done)
  refine List.Pairwise.imp_of_mem (fun {x y} hx hy hxy => ?_) hs
  have key : ∀ d ∈ b.done.filter (fun d => decide (d ∈ a.done)), f d.toNat j = f d.toNat i := fun d hd => by
    rw [List.mem_filter] at hd
    obtain ⟨n, rfl, _, _, _, n5⟩ := h.done j b hb d hd.1
    obtain ⟨n', e, _, _, _, n5'⟩ := h.done i a ha n (by simpa using hd.2)
    obtain rfl : n = n' := by omega
    rw [nat_toNat]
    have k1 := h.most n j n5
    have k2 := h.most n i n5'
    rw [k1] at k2
    exact congrArg Prod.fst k2
  show f x.toNat i < f y.toNat i ∨ f x.toNat i = f y.toNat i ∧ x < y
  rw [← key x hx, ← key y hy]
  exact hxy
theorem inv_start (col : Nat → Int) : Inv col [zeroSv, zeroSv, zeroSv] (fun _ _ => 0) (fun _ _ => 0) := by
  have hz : ∀ i s, [zeroSv, zeroSv, zeroSv][i]? = some s → s = zeroSv := fun i s h => by
    have := List.mem_of_getElem? h
    simpa using this
  have hr : Right zeroSv := right_of_err (by kernel_rfl)
  refine ⟨rfl, fun i s h => by rw [hz i s h]; exact hr, fun i s h => by rw [hz i s h]; exact (cntT_le _).1, fun n i => ⟨Int.le_refl _, (cntT_le _).1⟩, fun n i => Int.le_refl _, fun i s h x hx => ?_, fun i s h d hd => ?_, fun i s h n hn => absurd hn (Int.lt_irrefl _), fun n i h => absurd h (Int.lt_irrefl _), fun i s h => ?_⟩
  · rw [hz i s h] at hx; cases hx
  · rw [hz i s h] at hd; cases hd
  · rw [hz i s h]
    exact ⟨fun x hx => (by cases hx), List.Pairwise.nil, fun d hd => (by cases hd), fun d hd => (by cases hd), fun x hx => (by cases hx), List.Pairwise.nil⟩
end Go.Proofs.Ytlioojekjnigiab.AM.Sk
/- Servers: most of a table's row; one order of two. -/
namespace Go.Proofs.Ytlioojekjnigiab.AM.Sk
set_option linter.unusedVariables false
set_option linter.unusedSimpArgs false
theorem takeSnoc {l : List Int} {p : Int → Bool} {i : Nat} (h : i < l.length) : ((l.take (i + 1)).filter p) = if p l[i] = true then (l.take i).filter p ++ [l[i]] else (l.take i).filter p := by
  rw [List.take_succ_eq_append_getElem h, List.filter_append]
  split
  · rename_i k; rw [List.filter_cons_of_pos k]; rfl
  · rename_i k; rw [List.filter_cons_of_neg k]; simp
theorem encI_one (x : Int) : encI x = [.int .i64 x] := rfl
theorem snocI {l : List Int} {x : Int} : (l ++ [x]).map encI = l.map encI ++ [[.int .i64 x]] := by simp [encI]
set_option maxHeartbeats 0 in
theorem sameOrder_ok (a b : List Int) (ha : a.length ≤ 1000) (hb : b.length ≤ 1000) (heq : a.filter (hasInt b) = b.filter (hasInt a)) : PCall Try.prog 32 [.dat (.list (a.map encI)), .dat (.list (b.map encI))] (dBool true) := by
  refine pcall_cut tab_all tab_mixed Try.func32 (by kernel_rfl) Try.ntmps32 rfl ?_
  conv => whnf
  conv => whnf
  repeat (first | (refine Conf.mk (by kernel_rfl) ?_; conv => whnf) | (refine SeqOk.go ?_; conv => whnf))
  have hfa : ∀ i, ((a.take i).filter (hasInt b)).length ≤ 1000 := fun i => Nat.le_trans (List.length_filter_le _ _) (by simp; omega)
  have hfb : ∀ i, ((b.take i).filter (hasInt a)).length ≤ 1000 := fun i => Nat.le_trans (List.length_filter_le _ _) (by simp; omega)
  refine LoopOk.hide fun Q1 hQ1 => ?_
  refine LoopOk.mk (fun m s => ∃ i, i + m = a.length ∧ s = ⟨[(7, dInt i), (0, .dat (.list (a.map encI))), (1, .dat (.list (b.map encI))), (5, .row 0), (6, .nil)], 1, [(0, .rows 3 1 (((a.take i).filter (hasInt b)).map encI) true)]⟩) a.length ((Into.row 5 3 1 rfl).trans fun s' hs' => by
    subst hs'
    exact Into.mono (Into.to [0] [(7, dInt (0 : Nat)), (0, .dat (.list (a.map encI))), (1, .dat (.list (b.map encI))), (5, .row 0), (6, .nil)] [(0, .rows 3 1 (((a.take 0).filter (hasInt b)).map encI) true)] (by repeat (first | exact trivial | refine ⟨.same (congrArg dInt (wrap_up (by omega))), ?_⟩ | refine ⟨.same rfl, ?_⟩ | refine ⟨.any _, ?_⟩)) ⟨⟨rfl, rfl, rfl, rfl⟩, trivial⟩ rfl rfl) fun s' h => ⟨0, by omega, h⟩) ?_
  rintro m s ⟨i, hi, rfl⟩
  conv => whnf
  repeat (first | (refine Conf.mk (by kernel_rfl) ?_; conv => whnf) | (refine SeqOk.go ?_; conv => whnf))
  refine ⟨fun h => ?_, fun h => ?_⟩
  · have hi' := lt_of h
    have hst := takeSnoc (p := hasInt b) hi'
    conv => whnf
    repeat (first | (refine Conf.mk (by kernel_rfl) ?_; conv => whnf) | (refine SeqOk.go ?_; conv => whnf))
    refine AtIdx.ofMap hi' rfl ?_
    conv => whnf
    repeat (first | (refine Conf.mk (by kernel_rfl) ?_; conv => whnf) | (refine SeqOk.go ?_; conv => whnf))
    refine .data _ _ (hasInt_ok b a[i] (by omega)) rfl ?_
    conv => whnf
    repeat (first | (refine Conf.mk (by kernel_rfl) ?_; conv => whnf) | (refine SeqOk.go ?_; conv => whnf))
    cases hh : hasInt b a[i]
    · rw [if_neg (by simp [hh])] at hst
      refine BoolCase.no rfl ?_
      conv => whnf
      repeat (first | (refine Conf.mk (by kernel_rfl) ?_; conv => whnf) | (refine SeqOk.go ?_; conv => whnf))
      exact Into.mono (Into.to [0] [(7, dInt (i + 1 : Nat)), (0, .dat (.list (a.map encI))), (1, .dat (.list (b.map encI))), (5, .row 0), (6, .nil)] [(0, .rows 3 1 (((a.take (i + 1)).filter (hasInt b)).map encI) true)] (by repeat (first | exact trivial | refine ⟨.same (congrArg dInt (wrap_up (by omega))), ?_⟩ | refine ⟨.same rfl, ?_⟩ | refine ⟨.any _, ?_⟩)) ⟨⟨rfl, rfl, rfl, by rw [hst]⟩, trivial⟩ rfl rfl) fun s' h => ⟨m - 1, by omega, i + 1, by omega, h⟩
    · rw [if_pos hh] at hst
      refine BoolCase.yes rfl ?_
      conv => whnf
      repeat (first | (refine Conf.mk (by kernel_rfl) ?_; conv => whnf) | (refine SeqOk.go ?_; conv => whnf))
      refine AtIdx.ofMap hi' rfl ?_
      conv => whnf
      repeat (first | (refine Conf.mk (by kernel_rfl) ?_; conv => whnf) | (refine SeqOk.go ?_; conv => whnf))
      refine ⟨by simp, by have := hfa i; simp; omega, ?_⟩
      conv => whnf
      repeat (first | (refine Conf.mk (by kernel_rfl) ?_; conv => whnf) | (refine SeqOk.go ?_; conv => whnf))
      exact Into.mono (Into.to [2] [(7, dInt (i + 1 : Nat)), (0, .dat (.list (a.map encI))), (1, .dat (.list (b.map encI))), (5, .row 0), (6, .nil)] [(0, .rows 3 1 (((a.take (i + 1)).filter (hasInt b)).map encI) true)] (by repeat (first | exact trivial | refine ⟨.same (congrArg dInt (wrap_up (by omega))), ?_⟩ | refine ⟨.same rfl, ?_⟩ | refine ⟨.any _, ?_⟩)) ⟨⟨rfl, rfl, rfl, by rw [hst, snocI]; rfl⟩, trivial⟩ rfl rfl) fun s' h => ⟨m - 1, by omega, i + 1, by omega, h⟩
  · have hi' := ge_of h
    conv => whnf
    repeat (first | (refine Conf.mk (by kernel_rfl) ?_; conv => whnf) | (refine SeqOk.go ?_; conv => whnf))
    subst hQ1
    conv => whnf
    conv => whnf
    repeat (first | (refine Conf.mk (by kernel_rfl) ?_; conv => whnf) | (refine SeqOk.go ?_; conv => whnf))
    clear h
    have hA : (a.take i).filter (hasInt b) = a.filter (hasInt b) := by rw [List.take_of_length_le hi']
    rw [hA]
    refine LoopOk.hide fun Q2 hQ2 => ?_
    refine LoopOk.mk (fun m s => ∃ i, i + m = b.length ∧ s = ⟨[(8, dInt i), (0, .dat (.list (a.map encI))), (1, .dat (.list (b.map encI))), (5, .row 0), (6, .row 1)], 2, [(0, .rows 3 1 ((a.filter (hasInt b)).map encI) true), (1, .rows 3 1 (((b.take i).filter (hasInt a)).map encI) true)]⟩) b.length ((Into.row 6 3 1 rfl).trans fun s' hs' => by
      subst hs'
      exact Into.mono (Into.to [0, 1] [(8, dInt (0 : Nat)), (0, .dat (.list (a.map encI))), (1, .dat (.list (b.map encI))), (5, .row 0), (6, .row 1)] [(0, .rows 3 1 ((a.filter (hasInt b)).map encI) true), (1, .rows 3 1 (((b.take 0).filter (hasInt a)).map encI) true)] (by repeat (first | exact trivial | refine ⟨.same (congrArg dInt (wrap_up (by omega))), ?_⟩ | refine ⟨.same rfl, ?_⟩ | refine ⟨.any _, ?_⟩)) ⟨⟨rfl, rfl, rfl, rfl⟩, ⟨rfl, rfl, rfl, rfl⟩, trivial⟩ rfl rfl) fun s' h => ⟨0, by omega, h⟩) ?_
    clear hA hi' hi
    rintro m s ⟨i, hi, rfl⟩
    conv => whnf
    repeat (first | (refine Conf.mk (by kernel_rfl) ?_; conv => whnf) | (refine SeqOk.go ?_; conv => whnf))
    refine ⟨fun h => ?_, fun h => ?_⟩
    · have hi' := lt_of h
      have hst := takeSnoc (p := hasInt a) hi'
      conv => whnf
      repeat (first | (refine Conf.mk (by kernel_rfl) ?_; conv => whnf) | (refine SeqOk.go ?_; conv => whnf))
      refine AtIdx.ofMap hi' rfl ?_
      conv => whnf
      repeat (first | (refine Conf.mk (by kernel_rfl) ?_; conv => whnf) | (refine SeqOk.go ?_; conv => whnf))
      refine .data _ _ (hasInt_ok a b[i] (by omega)) rfl ?_
      conv => whnf
      repeat (first | (refine Conf.mk (by kernel_rfl) ?_; conv => whnf) | (refine SeqOk.go ?_; conv => whnf))
      cases hh : hasInt a b[i]
      · rw [if_neg (by simp [hh])] at hst
        refine BoolCase.no rfl ?_
        conv => whnf
        repeat (first | (refine Conf.mk (by kernel_rfl) ?_; conv => whnf) | (refine SeqOk.go ?_; conv => whnf))
        exact Into.mono (Into.to [0, 1] [(8, dInt (i + 1 : Nat)), (0, .dat (.list (a.map encI))), (1, .dat (.list (b.map encI))), (5, .row 0), (6, .row 1)] [(0, .rows 3 1 ((a.filter (hasInt b)).map encI) true), (1, .rows 3 1 (((b.take (i + 1)).filter (hasInt a)).map encI) true)] (by repeat (first | exact trivial | refine ⟨.same (congrArg dInt (wrap_up (by omega))), ?_⟩ | refine ⟨.same rfl, ?_⟩ | refine ⟨.any _, ?_⟩)) ⟨⟨rfl, rfl, rfl, rfl⟩, ⟨rfl, rfl, rfl, by rw [hst]⟩, trivial⟩ rfl rfl) fun s' h => ⟨m - 1, by omega, i + 1, by omega, h⟩
      · rw [if_pos hh] at hst
        refine BoolCase.yes rfl ?_
        conv => whnf
        repeat (first | (refine Conf.mk (by kernel_rfl) ?_; conv => whnf) | (refine SeqOk.go ?_; conv => whnf))
        refine AtIdx.ofMap hi' rfl ?_
        conv => whnf
        repeat (first | (refine Conf.mk (by kernel_rfl) ?_; conv => whnf) | (refine SeqOk.go ?_; conv => whnf))
        refine ⟨by simp, by have := hfb i; simp; omega, ?_⟩
        conv => whnf
        repeat (first | (refine Conf.mk (by kernel_rfl) ?_; conv => whnf) | (refine SeqOk.go ?_; conv => whnf))
        exact Into.mono (Into.to [0, 3] [(8, dInt (i + 1 : Nat)), (0, .dat (.list (a.map encI))), (1, .dat (.list (b.map encI))), (5, .row 0), (6, .row 1)] [(0, .rows 3 1 ((a.filter (hasInt b)).map encI) true), (1, .rows 3 1 (((b.take (i + 1)).filter (hasInt a)).map encI) true)] (by repeat (first | exact trivial | refine ⟨.same (congrArg dInt (wrap_up (by omega))), ?_⟩ | refine ⟨.same rfl, ?_⟩ | refine ⟨.any _, ?_⟩)) ⟨⟨rfl, rfl, rfl, rfl⟩, ⟨rfl, rfl, rfl, by rw [hst, snocI]; rfl⟩, trivial⟩ rfl rfl) fun s' h => ⟨m - 1, by omega, i + 1, by omega, h⟩
    · have hi' := ge_of h
      have hB : (b.take i).filter (hasInt a) = a.filter (hasInt b) := by rw [List.take_of_length_le hi', heq]
      conv => whnf
      repeat (first | (refine Conf.mk (by kernel_rfl) ?_; conv => whnf) | (refine SeqOk.go ?_; conv => whnf))
      subst hQ2
      conv => whnf
      conv => whnf
      repeat (first | (refine Conf.mk (by kernel_rfl) ?_; conv => whnf) | (refine SeqOk.go ?_; conv => whnf))
      clear h
      have hfl : (a.filter (hasInt b)).length ≤ 1000 := Nat.le_trans (List.length_filter_le _ _) (by omega)
      rw [hB]
      generalize a.filter (hasInt b) = l at hfl
      refine LoopOk.hide fun Q3 hQ3 => ?_
      refine LoopOk.mk (fun m s => ∃ i, i + m = l.length ∧ s = ⟨[(9, dInt i), (5, .row 0), (6, .row 1)], 2, [(0, .rows 3 1 (l.map encI) true), (1, .rows 3 1 (l.map encI) true)]⟩) l.length (Into.mono (Into.to [0, 1] [(9, dInt (0 : Nat)), (5, .row 0), (6, .row 1)] [(0, .rows 3 1 (l.map encI) true), (1, .rows 3 1 (l.map encI) true)] (by repeat (first | exact trivial | refine ⟨.same (congrArg dInt (wrap_up (by omega))), ?_⟩ | refine ⟨.same rfl, ?_⟩ | refine ⟨.any _, ?_⟩)) ⟨⟨rfl, rfl, rfl, rfl⟩, ⟨rfl, rfl, rfl, rfl⟩, trivial⟩ rfl rfl) fun s' h => ⟨0, by omega, h⟩) ?_
      clear hB hi' hi
      rintro m s ⟨i, hi, rfl⟩
      conv => whnf
      repeat (first | (refine Conf.mk (by kernel_rfl) ?_; conv => whnf) | (refine SeqOk.go ?_; conv => whnf))
      refine ⟨fun h => ?_, fun h => ?_⟩
      · have hi' := lt_of h
        conv => whnf
        repeat (first | (refine Conf.mk (by kernel_rfl) ?_; conv => whnf) | (refine SeqOk.go ?_; conv => whnf))
        refine AtIdx.ofMap hi' rfl ?_
        conv => whnf
        repeat (first | (refine Conf.mk (by kernel_rfl) ?_; conv => whnf) | (refine SeqOk.go ?_; conv => whnf))
        refine .mk (encI l[i]) (by rw [List.getElem?_map, List.getElem?_eq_getElem hi']; rfl) ?_
        conv => whnf
        repeat (first | (refine Conf.mk (by kernel_rfl) ?_; conv => whnf) | (refine SeqOk.go ?_; conv => whnf))
        refine AtIdx.ofMap hi' rfl ?_
        conv => whnf
        repeat (first | (refine Conf.mk (by kernel_rfl) ?_; conv => whnf) | (refine SeqOk.go ?_; conv => whnf))
        refine .mk (encI l[i]) (by rw [List.getElem?_map, List.getElem?_eq_getElem hi']; rfl) ?_
        conv => whnf
        repeat (first | (refine Conf.mk (by kernel_rfl) ?_; conv => whnf) | (refine SeqOk.go ?_; conv => whnf))
        refine BoolCase.no (by simp) ?_
        conv => whnf
        repeat (first | (refine Conf.mk (by kernel_rfl) ?_; conv => whnf) | (refine SeqOk.go ?_; conv => whnf))
        exact Into.mono (Into.to [0, 1] [(9, dInt (i + 1 : Nat)), (5, .row 0), (6, .row 1)] [(0, .rows 3 1 (l.map encI) true), (1, .rows 3 1 (l.map encI) true)] (by repeat (first | exact trivial | refine ⟨.same (congrArg dInt (wrap_up (by omega))), ?_⟩ | refine ⟨.same rfl, ?_⟩ | refine ⟨.any _, ?_⟩)) ⟨⟨rfl, rfl, rfl, rfl⟩, ⟨rfl, rfl, rfl, rfl⟩, trivial⟩ rfl rfl) fun s' h => ⟨m - 1, by omega, i + 1, by omega, h⟩
      · conv => whnf
        repeat (first | (refine Conf.mk (by kernel_rfl) ?_; conv => whnf) | (refine SeqOk.go ?_; conv => whnf))
        subst hQ3
        conv => whnf
        exact Ret.to rfl
end Go.Proofs.Ytlioojekjnigiab.AM.Sk
/- Servers: most of an entry's times. -/
namespace Go.Proofs.Ytlioojekjnigiab.AM.Sk
set_option linter.unusedVariables false
set_option linter.unusedSimpArgs false
theorem mostGo_end (c : Int) (r : Nat → Int) (i : Nat) (g : Int) : mostGo c r 0 i g = (g, true) := rfl
theorem mostGo_off {c : Int} {r : Nat → Int} {m i : Nat} {g : Int} (h : bitOf c i = false) : mostGo c r (m + 1) i g = mostGo c r m (i + 1) g := by rw [mostGo, if_neg (by simp [h])]
theorem mostGo_nil {c : Int} {r : Nat → Int} {m i : Nat} {g : Int} (h : bitOf c i = true) (h0 : r i = 0) : mostGo c r (m + 1) i g = (0, false) := by rw [mostGo, if_pos h, if_pos h0]
theorem mostGo_on {c : Int} {r : Nat → Int} {m i : Nat} {g : Int} (h : bitOf c i = true) (h0 : r i ≠ 0) : mostGo c r (m + 1) i g = mostGo c r m (i + 1) (if g < r i then r i else g) := by rw [mostGo, if_pos h, if_neg h0]
set_option maxHeartbeats 0 in
theorem most1_ok (t : Tb) (c : Int) (hc : 1 ≤ c ∧ c ≤ 7) : PCall Try.prog 31 [.dat (.ptr [.int .i64 (t 0 0), .int .i64 (t 0 1), .int .i64 (t 0 2), .int .i64 (t 1 0), .int .i64 (t 1 1), .int .i64 (t 1 2), .int .i64 (t 2 0), .int .i64 (t 2 1), .int .i64 (t 2 2), .int .i64 (t 3 0), .int .i64 (t 3 1), .int .i64 (t 3 2), .int .i64 (t 4 0), .int .i64 (t 4 1), .int .i64 (t 4 2), .int .i64 (t 5 0), .int .i64 (t 5 1), .int .i64 (t 5 2), .int .i64 (t 6 0), .int .i64 (t 6 1), .int .i64 (t 6 2), .int .i64 (t 7 0), .int .i64 (t 7 1), .int .i64 (t 7 2)]), dInt (1 : Nat), dInt c] (.tup [dInt (mostV c (t 1)).1, dBool (mostV c (t 1)).2]) := by
  refine pcall_cut tab_all tab_mixed Try.func31 (by kernel_rfl) Try.ntmps31 rfl ?_
  conv => whnf
  conv => whnf
  repeat (first | (refine Conf.mk (by kernel_rfl) ?_; conv => whnf) | (refine SeqOk.go ?_; conv => whnf))
  refine LoopOk.hide fun Q1 hQ1 => ?_
  refine LoopOk.mk (fun m s => ∃ (i : Nat) (g : Int), i + m = 3 ∧ mostGo c (t 1) m i g = mostV c (t 1) ∧ s = ⟨[(9, dInt (i : Nat)), (8, dInt g), (0, .dat (.ptr [.int .i64 (t 0 0), .int .i64 (t 0 1), .int .i64 (t 0 2), .int .i64 (t 1 0), .int .i64 (t 1 1), .int .i64 (t 1 2), .int .i64 (t 2 0), .int .i64 (t 2 1), .int .i64 (t 2 2), .int .i64 (t 3 0), .int .i64 (t 3 1), .int .i64 (t 3 2), .int .i64 (t 4 0), .int .i64 (t 4 1), .int .i64 (t 4 2), .int .i64 (t 5 0), .int .i64 (t 5 1), .int .i64 (t 5 2), .int .i64 (t 6 0), .int .i64 (t 6 1), .int .i64 (t 6 2), .int .i64 (t 7 0), .int .i64 (t 7 1), .int .i64 (t 7 2)])), (1, dInt (1 : Nat)), (2, dInt c)], 0, []⟩) 3 (Into.mono (Into.to [] [(9, dInt (0 : Nat)), (8, dInt 0), (0, .dat (.ptr [.int .i64 (t 0 0), .int .i64 (t 0 1), .int .i64 (t 0 2), .int .i64 (t 1 0), .int .i64 (t 1 1), .int .i64 (t 1 2), .int .i64 (t 2 0), .int .i64 (t 2 1), .int .i64 (t 2 2), .int .i64 (t 3 0), .int .i64 (t 3 1), .int .i64 (t 3 2), .int .i64 (t 4 0), .int .i64 (t 4 1), .int .i64 (t 4 2), .int .i64 (t 5 0), .int .i64 (t 5 1), .int .i64 (t 5 2), .int .i64 (t 6 0), .int .i64 (t 6 1), .int .i64 (t 6 2), .int .i64 (t 7 0), .int .i64 (t 7 1), .int .i64 (t 7 2)])), (1, dInt (1 : Nat)), (2, dInt c)] [] (by repeat (first | exact trivial | refine ⟨.same (congrArg dInt (wrap_up (by omega))), ?_⟩ | refine ⟨.same rfl, ?_⟩ | refine ⟨.any _, ?_⟩)) trivial rfl rfl) fun s' h => ⟨0, 0, by omega, rfl, h⟩) ?_
  rintro m s ⟨i, g, him, hgo, rfl⟩
  have hi : i = 0 ∨ i = 1 ∨ i = 2 ∨ i = 3 := by omega
  rcases hi with rfl | rfl | rfl | rfl
  · obtain rfl : m = 3 := by omega
    conv => whnf
    repeat (first | (refine Conf.mk (by kernel_rfl) ?_; conv => whnf) | (refine SeqOk.go ?_; conv => whnf))
    refine BoolCase.yes rfl ?_
    conv => whnf
    repeat (first | (refine Conf.mk (by kernel_rfl) ?_; conv => whnf) | (refine SeqOk.go ?_; conv => whnf))
    refine .look _ _ (isOf_ok c 0 hc (by decide)) rfl rfl ?_
    conv => whnf
    repeat (first | (refine Conf.mk (by kernel_rfl) ?_; conv => whnf) | (refine SeqOk.go ?_; conv => whnf))
    cases hb : bitOf c 0
    · rw [mostGo_off hb] at hgo
      refine BoolCase.no rfl ?_
      conv => whnf
      repeat (first | (refine Conf.mk (by kernel_rfl) ?_; conv => whnf) | (refine SeqOk.go ?_; conv => whnf))
      exact Into.mono (Into.to [] [(9, dInt (0 + 1 : Nat)), (8, dInt g), (0, .dat (.ptr [.int .i64 (t 0 0), .int .i64 (t 0 1), .int .i64 (t 0 2), .int .i64 (t 1 0), .int .i64 (t 1 1), .int .i64 (t 1 2), .int .i64 (t 2 0), .int .i64 (t 2 1), .int .i64 (t 2 2), .int .i64 (t 3 0), .int .i64 (t 3 1), .int .i64 (t 3 2), .int .i64 (t 4 0), .int .i64 (t 4 1), .int .i64 (t 4 2), .int .i64 (t 5 0), .int .i64 (t 5 1), .int .i64 (t 5 2), .int .i64 (t 6 0), .int .i64 (t 6 1), .int .i64 (t 6 2), .int .i64 (t 7 0), .int .i64 (t 7 1), .int .i64 (t 7 2)])), (1, dInt (1 : Nat)), (2, dInt c)] [] (by repeat (first | exact trivial | refine ⟨.same (congrArg dInt (wrap_up (by omega))), ?_⟩ | refine ⟨.same rfl, ?_⟩ | refine ⟨.any _, ?_⟩)) trivial rfl rfl) fun s' h => ⟨2, by omega, 1, g, by omega, hgo, h⟩
    · refine BoolCase.yes rfl ?_
      conv => whnf
      repeat (first | (refine Conf.mk (by kernel_rfl) ?_; conv => whnf) | (refine SeqOk.go ?_; conv => whnf))
      refine .mk 1 rfl (by decide) ?_
      conv => whnf
      repeat (first | (refine Conf.mk (by kernel_rfl) ?_; conv => whnf) | (refine SeqOk.go ?_; conv => whnf))
      refine .mk 0 rfl (by decide) ?_
      conv => whnf
      repeat (first | (refine Conf.mk (by kernel_rfl) ?_; conv => whnf) | (refine SeqOk.go ?_; conv => whnf))
      by_cases h0 : t 1 0 = 0
      · rw [mostGo_nil hb h0] at hgo
        refine BoolCase.yes (by simpa using h0) ?_
        conv => whnf
        repeat (first | (refine Conf.mk (by kernel_rfl) ?_; conv => whnf) | (refine SeqOk.go ?_; conv => whnf))
        subst hQ1
        conv => whnf
        rw [← hgo]
        exact Ret.to rfl
      · rw [mostGo_on hb h0] at hgo
        refine BoolCase.no (by simpa using h0) ?_
        conv => whnf
        repeat (first | (refine Conf.mk (by kernel_rfl) ?_; conv => whnf) | (refine SeqOk.go ?_; conv => whnf))
        refine .mk 1 rfl (by decide) ?_
        conv => whnf
        repeat (first | (refine Conf.mk (by kernel_rfl) ?_; conv => whnf) | (refine SeqOk.go ?_; conv => whnf))
        refine .mk 0 rfl (by decide) ?_
        conv => whnf
        repeat (first | (refine Conf.mk (by kernel_rfl) ?_; conv => whnf) | (refine SeqOk.go ?_; conv => whnf))
        by_cases h2 : g < t 1 0
        · rw [if_pos h2] at hgo
          refine BoolCase.yes (by simpa using h2) ?_
          conv => whnf
          repeat (first | (refine Conf.mk (by kernel_rfl) ?_; conv => whnf) | (refine SeqOk.go ?_; conv => whnf))
          refine .mk 1 rfl (by decide) ?_
          conv => whnf
          repeat (first | (refine Conf.mk (by kernel_rfl) ?_; conv => whnf) | (refine SeqOk.go ?_; conv => whnf))
          refine .mk 0 rfl (by decide) ?_
          conv => whnf
          repeat (first | (refine Conf.mk (by kernel_rfl) ?_; conv => whnf) | (refine SeqOk.go ?_; conv => whnf))
          exact Into.mono (Into.to [] [(9, dInt (0 + 1 : Nat)), (8, dInt (t 1 0)), (0, .dat (.ptr [.int .i64 (t 0 0), .int .i64 (t 0 1), .int .i64 (t 0 2), .int .i64 (t 1 0), .int .i64 (t 1 1), .int .i64 (t 1 2), .int .i64 (t 2 0), .int .i64 (t 2 1), .int .i64 (t 2 2), .int .i64 (t 3 0), .int .i64 (t 3 1), .int .i64 (t 3 2), .int .i64 (t 4 0), .int .i64 (t 4 1), .int .i64 (t 4 2), .int .i64 (t 5 0), .int .i64 (t 5 1), .int .i64 (t 5 2), .int .i64 (t 6 0), .int .i64 (t 6 1), .int .i64 (t 6 2), .int .i64 (t 7 0), .int .i64 (t 7 1), .int .i64 (t 7 2)])), (1, dInt (1 : Nat)), (2, dInt c)] [] (by repeat (first | exact trivial | refine ⟨.same (congrArg dInt (wrap_up (by omega))), ?_⟩ | refine ⟨.same rfl, ?_⟩ | refine ⟨.any _, ?_⟩)) trivial rfl rfl) fun s' h => ⟨2, by omega, 1, (t 1 0), by omega, hgo, h⟩
        · rw [if_neg h2] at hgo
          refine BoolCase.no (by simpa using h2) ?_
          conv => whnf
          repeat (first | (refine Conf.mk (by kernel_rfl) ?_; conv => whnf) | (refine SeqOk.go ?_; conv => whnf))
          exact Into.mono (Into.to [] [(9, dInt (0 + 1 : Nat)), (8, dInt g), (0, .dat (.ptr [.int .i64 (t 0 0), .int .i64 (t 0 1), .int .i64 (t 0 2), .int .i64 (t 1 0), .int .i64 (t 1 1), .int .i64 (t 1 2), .int .i64 (t 2 0), .int .i64 (t 2 1), .int .i64 (t 2 2), .int .i64 (t 3 0), .int .i64 (t 3 1), .int .i64 (t 3 2), .int .i64 (t 4 0), .int .i64 (t 4 1), .int .i64 (t 4 2), .int .i64 (t 5 0), .int .i64 (t 5 1), .int .i64 (t 5 2), .int .i64 (t 6 0), .int .i64 (t 6 1), .int .i64 (t 6 2), .int .i64 (t 7 0), .int .i64 (t 7 1), .int .i64 (t 7 2)])), (1, dInt (1 : Nat)), (2, dInt c)] [] (by repeat (first | exact trivial | refine ⟨.same (congrArg dInt (wrap_up (by omega))), ?_⟩ | refine ⟨.same rfl, ?_⟩ | refine ⟨.any _, ?_⟩)) trivial rfl rfl) fun s' h => ⟨2, by omega, 1, g, by omega, hgo, h⟩
  · obtain rfl : m = 2 := by omega
    conv => whnf
    repeat (first | (refine Conf.mk (by kernel_rfl) ?_; conv => whnf) | (refine SeqOk.go ?_; conv => whnf))
    refine BoolCase.yes rfl ?_
    conv => whnf
    repeat (first | (refine Conf.mk (by kernel_rfl) ?_; conv => whnf) | (refine SeqOk.go ?_; conv => whnf))
    refine .look _ _ (isOf_ok c 1 hc (by decide)) rfl rfl ?_
    conv => whnf
    repeat (first | (refine Conf.mk (by kernel_rfl) ?_; conv => whnf) | (refine SeqOk.go ?_; conv => whnf))
    cases hb : bitOf c 1
    · rw [mostGo_off hb] at hgo
      refine BoolCase.no rfl ?_
      conv => whnf
      repeat (first | (refine Conf.mk (by kernel_rfl) ?_; conv => whnf) | (refine SeqOk.go ?_; conv => whnf))
      exact Into.mono (Into.to [] [(9, dInt (1 + 1 : Nat)), (8, dInt g), (0, .dat (.ptr [.int .i64 (t 0 0), .int .i64 (t 0 1), .int .i64 (t 0 2), .int .i64 (t 1 0), .int .i64 (t 1 1), .int .i64 (t 1 2), .int .i64 (t 2 0), .int .i64 (t 2 1), .int .i64 (t 2 2), .int .i64 (t 3 0), .int .i64 (t 3 1), .int .i64 (t 3 2), .int .i64 (t 4 0), .int .i64 (t 4 1), .int .i64 (t 4 2), .int .i64 (t 5 0), .int .i64 (t 5 1), .int .i64 (t 5 2), .int .i64 (t 6 0), .int .i64 (t 6 1), .int .i64 (t 6 2), .int .i64 (t 7 0), .int .i64 (t 7 1), .int .i64 (t 7 2)])), (1, dInt (1 : Nat)), (2, dInt c)] [] (by repeat (first | exact trivial | refine ⟨.same (congrArg dInt (wrap_up (by omega))), ?_⟩ | refine ⟨.same rfl, ?_⟩ | refine ⟨.any _, ?_⟩)) trivial rfl rfl) fun s' h => ⟨1, by omega, 2, g, by omega, hgo, h⟩
    · refine BoolCase.yes rfl ?_
      conv => whnf
      repeat (first | (refine Conf.mk (by kernel_rfl) ?_; conv => whnf) | (refine SeqOk.go ?_; conv => whnf))
      refine .mk 1 rfl (by decide) ?_
      conv => whnf
      repeat (first | (refine Conf.mk (by kernel_rfl) ?_; conv => whnf) | (refine SeqOk.go ?_; conv => whnf))
      refine .mk 1 rfl (by decide) ?_
      conv => whnf
      repeat (first | (refine Conf.mk (by kernel_rfl) ?_; conv => whnf) | (refine SeqOk.go ?_; conv => whnf))
      by_cases h0 : t 1 1 = 0
      · rw [mostGo_nil hb h0] at hgo
        refine BoolCase.yes (by simpa using h0) ?_
        conv => whnf
        repeat (first | (refine Conf.mk (by kernel_rfl) ?_; conv => whnf) | (refine SeqOk.go ?_; conv => whnf))
        subst hQ1
        conv => whnf
        rw [← hgo]
        exact Ret.to rfl
      · rw [mostGo_on hb h0] at hgo
        refine BoolCase.no (by simpa using h0) ?_
        conv => whnf
        repeat (first | (refine Conf.mk (by kernel_rfl) ?_; conv => whnf) | (refine SeqOk.go ?_; conv => whnf))
        refine .mk 1 rfl (by decide) ?_
        conv => whnf
        repeat (first | (refine Conf.mk (by kernel_rfl) ?_; conv => whnf) | (refine SeqOk.go ?_; conv => whnf))
        refine .mk 1 rfl (by decide) ?_
        conv => whnf
        repeat (first | (refine Conf.mk (by kernel_rfl) ?_; conv => whnf) | (refine SeqOk.go ?_; conv => whnf))
        by_cases h2 : g < t 1 1
        · rw [if_pos h2] at hgo
          refine BoolCase.yes (by simpa using h2) ?_
          conv => whnf
          repeat (first | (refine Conf.mk (by kernel_rfl) ?_; conv => whnf) | (refine SeqOk.go ?_; conv => whnf))
          refine .mk 1 rfl (by decide) ?_
          conv => whnf
          repeat (first | (refine Conf.mk (by kernel_rfl) ?_; conv => whnf) | (refine SeqOk.go ?_; conv => whnf))
          refine .mk 1 rfl (by decide) ?_
          conv => whnf
          repeat (first | (refine Conf.mk (by kernel_rfl) ?_; conv => whnf) | (refine SeqOk.go ?_; conv => whnf))
          exact Into.mono (Into.to [] [(9, dInt (1 + 1 : Nat)), (8, dInt (t 1 1)), (0, .dat (.ptr [.int .i64 (t 0 0), .int .i64 (t 0 1), .int .i64 (t 0 2), .int .i64 (t 1 0), .int .i64 (t 1 1), .int .i64 (t 1 2), .int .i64 (t 2 0), .int .i64 (t 2 1), .int .i64 (t 2 2), .int .i64 (t 3 0), .int .i64 (t 3 1), .int .i64 (t 3 2), .int .i64 (t 4 0), .int .i64 (t 4 1), .int .i64 (t 4 2), .int .i64 (t 5 0), .int .i64 (t 5 1), .int .i64 (t 5 2), .int .i64 (t 6 0), .int .i64 (t 6 1), .int .i64 (t 6 2), .int .i64 (t 7 0), .int .i64 (t 7 1), .int .i64 (t 7 2)])), (1, dInt (1 : Nat)), (2, dInt c)] [] (by repeat (first | exact trivial | refine ⟨.same (congrArg dInt (wrap_up (by omega))), ?_⟩ | refine ⟨.same rfl, ?_⟩ | refine ⟨.any _, ?_⟩)) trivial rfl rfl) fun s' h => ⟨1, by omega, 2, (t 1 1), by omega, hgo, h⟩
        · rw [if_neg h2] at hgo
          refine BoolCase.no (by simpa using h2) ?_
          conv => whnf
          repeat (first | (refine Conf.mk (by kernel_rfl) ?_; conv => whnf) | (refine SeqOk.go ?_; conv => whnf))
          exact Into.mono (Into.to [] [(9, dInt (1 + 1 : Nat)), (8, dInt g), (0, .dat (.ptr [.int .i64 (t 0 0), .int .i64 (t 0 1), .int .i64 (t 0 2), .int .i64 (t 1 0), .int .i64 (t 1 1), .int .i64 (t 1 2), .int .i64 (t 2 0), .int .i64 (t 2 1), .int .i64 (t 2 2), .int .i64 (t 3 0), .int .i64 (t 3 1), .int .i64 (t 3 2), .int .i64 (t 4 0), .int .i64 (t 4 1), .int .i64 (t 4 2), .int .i64 (t 5 0), .int .i64 (t 5 1), .int .i64 (t 5 2), .int .i64 (t 6 0), .int .i64 (t 6 1), .int .i64 (t 6 2), .int .i64 (t 7 0), .int .i64 (t 7 1), .int .i64 (t 7 2)])), (1, dInt (1 : Nat)), (2, dInt c)] [] (by repeat (first | exact trivial | refine ⟨.same (congrArg dInt (wrap_up (by omega))), ?_⟩ | refine ⟨.same rfl, ?_⟩ | refine ⟨.any _, ?_⟩)) trivial rfl rfl) fun s' h => ⟨1, by omega, 2, g, by omega, hgo, h⟩
  · obtain rfl : m = 1 := by omega
    conv => whnf
    repeat (first | (refine Conf.mk (by kernel_rfl) ?_; conv => whnf) | (refine SeqOk.go ?_; conv => whnf))
    refine BoolCase.yes rfl ?_
    conv => whnf
    repeat (first | (refine Conf.mk (by kernel_rfl) ?_; conv => whnf) | (refine SeqOk.go ?_; conv => whnf))
    refine .look _ _ (isOf_ok c 2 hc (by decide)) rfl rfl ?_
    conv => whnf
    repeat (first | (refine Conf.mk (by kernel_rfl) ?_; conv => whnf) | (refine SeqOk.go ?_; conv => whnf))
    cases hb : bitOf c 2
    · rw [mostGo_off hb] at hgo
      refine BoolCase.no rfl ?_
      conv => whnf
      repeat (first | (refine Conf.mk (by kernel_rfl) ?_; conv => whnf) | (refine SeqOk.go ?_; conv => whnf))
      exact Into.mono (Into.to [] [(9, dInt (2 + 1 : Nat)), (8, dInt g), (0, .dat (.ptr [.int .i64 (t 0 0), .int .i64 (t 0 1), .int .i64 (t 0 2), .int .i64 (t 1 0), .int .i64 (t 1 1), .int .i64 (t 1 2), .int .i64 (t 2 0), .int .i64 (t 2 1), .int .i64 (t 2 2), .int .i64 (t 3 0), .int .i64 (t 3 1), .int .i64 (t 3 2), .int .i64 (t 4 0), .int .i64 (t 4 1), .int .i64 (t 4 2), .int .i64 (t 5 0), .int .i64 (t 5 1), .int .i64 (t 5 2), .int .i64 (t 6 0), .int .i64 (t 6 1), .int .i64 (t 6 2), .int .i64 (t 7 0), .int .i64 (t 7 1), .int .i64 (t 7 2)])), (1, dInt (1 : Nat)), (2, dInt c)] [] (by repeat (first | exact trivial | refine ⟨.same (congrArg dInt (wrap_up (by omega))), ?_⟩ | refine ⟨.same rfl, ?_⟩ | refine ⟨.any _, ?_⟩)) trivial rfl rfl) fun s' h => ⟨0, by omega, 3, g, by omega, hgo, h⟩
    · refine BoolCase.yes rfl ?_
      conv => whnf
      repeat (first | (refine Conf.mk (by kernel_rfl) ?_; conv => whnf) | (refine SeqOk.go ?_; conv => whnf))
      refine .mk 1 rfl (by decide) ?_
      conv => whnf
      repeat (first | (refine Conf.mk (by kernel_rfl) ?_; conv => whnf) | (refine SeqOk.go ?_; conv => whnf))
      refine .mk 2 rfl (by decide) ?_
      conv => whnf
      repeat (first | (refine Conf.mk (by kernel_rfl) ?_; conv => whnf) | (refine SeqOk.go ?_; conv => whnf))
      by_cases h0 : t 1 2 = 0
      · rw [mostGo_nil hb h0] at hgo
        refine BoolCase.yes (by simpa using h0) ?_
        conv => whnf
        repeat (first | (refine Conf.mk (by kernel_rfl) ?_; conv => whnf) | (refine SeqOk.go ?_; conv => whnf))
        subst hQ1
        conv => whnf
        rw [← hgo]
        exact Ret.to rfl
      · rw [mostGo_on hb h0] at hgo
        refine BoolCase.no (by simpa using h0) ?_
        conv => whnf
        repeat (first | (refine Conf.mk (by kernel_rfl) ?_; conv => whnf) | (refine SeqOk.go ?_; conv => whnf))
        refine .mk 1 rfl (by decide) ?_
        conv => whnf
        repeat (first | (refine Conf.mk (by kernel_rfl) ?_; conv => whnf) | (refine SeqOk.go ?_; conv => whnf))
        refine .mk 2 rfl (by decide) ?_
        conv => whnf
        repeat (first | (refine Conf.mk (by kernel_rfl) ?_; conv => whnf) | (refine SeqOk.go ?_; conv => whnf))
        by_cases h2 : g < t 1 2
        · rw [if_pos h2] at hgo
          refine BoolCase.yes (by simpa using h2) ?_
          conv => whnf
          repeat (first | (refine Conf.mk (by kernel_rfl) ?_; conv => whnf) | (refine SeqOk.go ?_; conv => whnf))
          refine .mk 1 rfl (by decide) ?_
          conv => whnf
          repeat (first | (refine Conf.mk (by kernel_rfl) ?_; conv => whnf) | (refine SeqOk.go ?_; conv => whnf))
          refine .mk 2 rfl (by decide) ?_
          conv => whnf
          repeat (first | (refine Conf.mk (by kernel_rfl) ?_; conv => whnf) | (refine SeqOk.go ?_; conv => whnf))
          exact Into.mono (Into.to [] [(9, dInt (2 + 1 : Nat)), (8, dInt (t 1 2)), (0, .dat (.ptr [.int .i64 (t 0 0), .int .i64 (t 0 1), .int .i64 (t 0 2), .int .i64 (t 1 0), .int .i64 (t 1 1), .int .i64 (t 1 2), .int .i64 (t 2 0), .int .i64 (t 2 1), .int .i64 (t 2 2), .int .i64 (t 3 0), .int .i64 (t 3 1), .int .i64 (t 3 2), .int .i64 (t 4 0), .int .i64 (t 4 1), .int .i64 (t 4 2), .int .i64 (t 5 0), .int .i64 (t 5 1), .int .i64 (t 5 2), .int .i64 (t 6 0), .int .i64 (t 6 1), .int .i64 (t 6 2), .int .i64 (t 7 0), .int .i64 (t 7 1), .int .i64 (t 7 2)])), (1, dInt (1 : Nat)), (2, dInt c)] [] (by repeat (first | exact trivial | refine ⟨.same (congrArg dInt (wrap_up (by omega))), ?_⟩ | refine ⟨.same rfl, ?_⟩ | refine ⟨.any _, ?_⟩)) trivial rfl rfl) fun s' h => ⟨0, by omega, 3, (t 1 2), by omega, hgo, h⟩
        · rw [if_neg h2] at hgo
          refine BoolCase.no (by simpa using h2) ?_
          conv => whnf
          repeat (first | (refine Conf.mk (by kernel_rfl) ?_; conv => whnf) | (refine SeqOk.go ?_; conv => whnf))
          exact Into.mono (Into.to [] [(9, dInt (2 + 1 : Nat)), (8, dInt g), (0, .dat (.ptr [.int .i64 (t 0 0), .int .i64 (t 0 1), .int .i64 (t 0 2), .int .i64 (t 1 0), .int .i64 (t 1 1), .int .i64 (t 1 2), .int .i64 (t 2 0), .int .i64 (t 2 1), .int .i64 (t 2 2), .int .i64 (t 3 0), .int .i64 (t 3 1), .int .i64 (t 3 2), .int .i64 (t 4 0), .int .i64 (t 4 1), .int .i64 (t 4 2), .int .i64 (t 5 0), .int .i64 (t 5 1), .int .i64 (t 5 2), .int .i64 (t 6 0), .int .i64 (t 6 1), .int .i64 (t 6 2), .int .i64 (t 7 0), .int .i64 (t 7 1), .int .i64 (t 7 2)])), (1, dInt (1 : Nat)), (2, dInt c)] [] (by repeat (first | exact trivial | refine ⟨.same (congrArg dInt (wrap_up (by omega))), ?_⟩ | refine ⟨.same rfl, ?_⟩ | refine ⟨.any _, ?_⟩)) trivial rfl rfl) fun s' h => ⟨0, by omega, 3, g, by omega, hgo, h⟩
  · obtain rfl : m = 0 := by omega
    conv => whnf
    repeat (first | (refine Conf.mk (by kernel_rfl) ?_; conv => whnf) | (refine SeqOk.go ?_; conv => whnf))
    refine BoolCase.no rfl ?_
    conv => whnf
    repeat (first | (refine Conf.mk (by kernel_rfl) ?_; conv => whnf) | (refine SeqOk.go ?_; conv => whnf))
    subst hQ1
    conv => whnf
    rw [mostGo_end] at hgo
    rw [← hgo]
    exact Ret.to rfl
set_option maxHeartbeats 0 in
theorem most2_ok (t : Tb) (c : Int) (hc : 1 ≤ c ∧ c ≤ 7) : PCall Try.prog 31 [.dat (.ptr [.int .i64 (t 0 0), .int .i64 (t 0 1), .int .i64 (t 0 2), .int .i64 (t 1 0), .int .i64 (t 1 1), .int .i64 (t 1 2), .int .i64 (t 2 0), .int .i64 (t 2 1), .int .i64 (t 2 2), .int .i64 (t 3 0), .int .i64 (t 3 1), .int .i64 (t 3 2), .int .i64 (t 4 0), .int .i64 (t 4 1), .int .i64 (t 4 2), .int .i64 (t 5 0), .int .i64 (t 5 1), .int .i64 (t 5 2), .int .i64 (t 6 0), .int .i64 (t 6 1), .int .i64 (t 6 2), .int .i64 (t 7 0), .int .i64 (t 7 1), .int .i64 (t 7 2)]), dInt (2 : Nat), dInt c] (.tup [dInt (mostV c (t 2)).1, dBool (mostV c (t 2)).2]) := by
  refine pcall_cut tab_all tab_mixed Try.func31 (by kernel_rfl) Try.ntmps31 rfl ?_
  conv => whnf
  conv => whnf
  repeat (first | (refine Conf.mk (by kernel_rfl) ?_; conv => whnf) | (refine SeqOk.go ?_; conv => whnf))
  refine LoopOk.hide fun Q1 hQ1 => ?_
  refine LoopOk.mk (fun m s => ∃ (i : Nat) (g : Int), i + m = 3 ∧ mostGo c (t 2) m i g = mostV c (t 2) ∧ s = ⟨[(9, dInt (i : Nat)), (8, dInt g), (0, .dat (.ptr [.int .i64 (t 0 0), .int .i64 (t 0 1), .int .i64 (t 0 2), .int .i64 (t 1 0), .int .i64 (t 1 1), .int .i64 (t 1 2), .int .i64 (t 2 0), .int .i64 (t 2 1), .int .i64 (t 2 2), .int .i64 (t 3 0), .int .i64 (t 3 1), .int .i64 (t 3 2), .int .i64 (t 4 0), .int .i64 (t 4 1), .int .i64 (t 4 2), .int .i64 (t 5 0), .int .i64 (t 5 1), .int .i64 (t 5 2), .int .i64 (t 6 0), .int .i64 (t 6 1), .int .i64 (t 6 2), .int .i64 (t 7 0), .int .i64 (t 7 1), .int .i64 (t 7 2)])), (1, dInt (2 : Nat)), (2, dInt c)], 0, []⟩) 3 (Into.mono (Into.to [] [(9, dInt (0 : Nat)), (8, dInt 0), (0, .dat (.ptr [.int .i64 (t 0 0), .int .i64 (t 0 1), .int .i64 (t 0 2), .int .i64 (t 1 0), .int .i64 (t 1 1), .int .i64 (t 1 2), .int .i64 (t 2 0), .int .i64 (t 2 1), .int .i64 (t 2 2), .int .i64 (t 3 0), .int .i64 (t 3 1), .int .i64 (t 3 2), .int .i64 (t 4 0), .int .i64 (t 4 1), .int .i64 (t 4 2), .int .i64 (t 5 0), .int .i64 (t 5 1), .int .i64 (t 5 2), .int .i64 (t 6 0), .int .i64 (t 6 1), .int .i64 (t 6 2), .int .i64 (t 7 0), .int .i64 (t 7 1), .int .i64 (t 7 2)])), (1, dInt (2 : Nat)), (2, dInt c)] [] (by repeat (first | exact trivial | refine ⟨.same (congrArg dInt (wrap_up (by omega))), ?_⟩ | refine ⟨.same rfl, ?_⟩ | refine ⟨.any _, ?_⟩)) trivial rfl rfl) fun s' h => ⟨0, 0, by omega, rfl, h⟩) ?_
  rintro m s ⟨i, g, him, hgo, rfl⟩
  have hi : i = 0 ∨ i = 1 ∨ i = 2 ∨ i = 3 := by omega
  rcases hi with rfl | rfl | rfl | rfl
  · obtain rfl : m = 3 := by omega
    conv => whnf
    repeat (first | (refine Conf.mk (by kernel_rfl) ?_; conv => whnf) | (refine SeqOk.go ?_; conv => whnf))
    refine BoolCase.yes rfl ?_
    conv => whnf
    repeat (first | (refine Conf.mk (by kernel_rfl) ?_; conv => whnf) | (refine SeqOk.go ?_; conv => whnf))
    refine .look _ _ (isOf_ok c 0 hc (by decide)) rfl rfl ?_
    conv => whnf
    repeat (first | (refine Conf.mk (by kernel_rfl) ?_; conv => whnf) | (refine SeqOk.go ?_; conv => whnf))
    cases hb : bitOf c 0
    · rw [mostGo_off hb] at hgo
      refine BoolCase.no rfl ?_
      conv => whnf
      repeat (first | (refine Conf.mk (by kernel_rfl) ?_; conv => whnf) | (refine SeqOk.go ?_; conv => whnf))
      exact Into.mono (Into.to [] [(9, dInt (0 + 1 : Nat)), (8, dInt g), (0, .dat (.ptr [.int .i64 (t 0 0), .int .i64 (t 0 1), .int .i64 (t 0 2), .int .i64 (t 1 0), .int .i64 (t 1 1), .int .i64 (t 1 2), .int .i64 (t 2 0), .int .i64 (t 2 1), .int .i64 (t 2 2), .int .i64 (t 3 0), .int .i64 (t 3 1), .int .i64 (t 3 2), .int .i64 (t 4 0), .int .i64 (t 4 1), .int .i64 (t 4 2), .int .i64 (t 5 0), .int .i64 (t 5 1), .int .i64 (t 5 2), .int .i64 (t 6 0), .int .i64 (t 6 1), .int .i64 (t 6 2), .int .i64 (t 7 0), .int .i64 (t 7 1), .int .i64 (t 7 2)])), (1, dInt (2 : Nat)), (2, dInt c)] [] (by repeat (first | exact trivial | refine ⟨.same (congrArg dInt (wrap_up (by omega))), ?_⟩ | refine ⟨.same rfl, ?_⟩ | refine ⟨.any _, ?_⟩)) trivial rfl rfl) fun s' h => ⟨2, by omega, 1, g, by omega, hgo, h⟩
    · refine BoolCase.yes rfl ?_
      conv => whnf
      repeat (first | (refine Conf.mk (by kernel_rfl) ?_; conv => whnf) | (refine SeqOk.go ?_; conv => whnf))
      refine .mk 2 rfl (by decide) ?_
      conv => whnf
      repeat (first | (refine Conf.mk (by kernel_rfl) ?_; conv => whnf) | (refine SeqOk.go ?_; conv => whnf))
      refine .mk 0 rfl (by decide) ?_
      conv => whnf
      repeat (first | (refine Conf.mk (by kernel_rfl) ?_; conv => whnf) | (refine SeqOk.go ?_; conv => whnf))
      by_cases h0 : t 2 0 = 0
      · rw [mostGo_nil hb h0] at hgo
        refine BoolCase.yes (by simpa using h0) ?_
        conv => whnf
        repeat (first | (refine Conf.mk (by kernel_rfl) ?_; conv => whnf) | (refine SeqOk.go ?_; conv => whnf))
        subst hQ1
        conv => whnf
        rw [← hgo]
        exact Ret.to rfl
      · rw [mostGo_on hb h0] at hgo
        refine BoolCase.no (by simpa using h0) ?_
        conv => whnf
        repeat (first | (refine Conf.mk (by kernel_rfl) ?_; conv => whnf) | (refine SeqOk.go ?_; conv => whnf))
        refine .mk 2 rfl (by decide) ?_
        conv => whnf
        repeat (first | (refine Conf.mk (by kernel_rfl) ?_; conv => whnf) | (refine SeqOk.go ?_; conv => whnf))
        refine .mk 0 rfl (by decide) ?_
        conv => whnf
        repeat (first | (refine Conf.mk (by kernel_rfl) ?_; conv => whnf) | (refine SeqOk.go ?_; conv => whnf))
        by_cases h2 : g < t 2 0
        · rw [if_pos h2] at hgo
          refine BoolCase.yes (by simpa using h2) ?_
          conv => whnf
          repeat (first | (refine Conf.mk (by kernel_rfl) ?_; conv => whnf) | (refine SeqOk.go ?_; conv => whnf))
          refine .mk 2 rfl (by decide) ?_
          conv => whnf
          repeat (first | (refine Conf.mk (by kernel_rfl) ?_; conv => whnf) | (refine SeqOk.go ?_; conv => whnf))
          refine .mk 0 rfl (by decide) ?_
          conv => whnf
          repeat (first | (refine Conf.mk (by kernel_rfl) ?_; conv => whnf) | (refine SeqOk.go ?_; conv => whnf))
          exact Into.mono (Into.to [] [(9, dInt (0 + 1 : Nat)), (8, dInt (t 2 0)), (0, .dat (.ptr [.int .i64 (t 0 0), .int .i64 (t 0 1), .int .i64 (t 0 2), .int .i64 (t 1 0), .int .i64 (t 1 1), .int .i64 (t 1 2), .int .i64 (t 2 0), .int .i64 (t 2 1), .int .i64 (t 2 2), .int .i64 (t 3 0), .int .i64 (t 3 1), .int .i64 (t 3 2), .int .i64 (t 4 0), .int .i64 (t 4 1), .int .i64 (t 4 2), .int .i64 (t 5 0), .int .i64 (t 5 1), .int .i64 (t 5 2), .int .i64 (t 6 0), .int .i64 (t 6 1), .int .i64 (t 6 2), .int .i64 (t 7 0), .int .i64 (t 7 1), .int .i64 (t 7 2)])), (1, dInt (2 : Nat)), (2, dInt c)] [] (by repeat (first | exact trivial | refine ⟨.same (congrArg dInt (wrap_up (by omega))), ?_⟩ | refine ⟨.same rfl, ?_⟩ | refine ⟨.any _, ?_⟩)) trivial rfl rfl) fun s' h => ⟨2, by omega, 1, (t 2 0), by omega, hgo, h⟩
        · rw [if_neg h2] at hgo
          refine BoolCase.no (by simpa using h2) ?_
          conv => whnf
          repeat (first | (refine Conf.mk (by kernel_rfl) ?_; conv => whnf) | (refine SeqOk.go ?_; conv => whnf))
          exact Into.mono (Into.to [] [(9, dInt (0 + 1 : Nat)), (8, dInt g), (0, .dat (.ptr [.int .i64 (t 0 0), .int .i64 (t 0 1), .int .i64 (t 0 2), .int .i64 (t 1 0), .int .i64 (t 1 1), .int .i64 (t 1 2), .int .i64 (t 2 0), .int .i64 (t 2 1), .int .i64 (t 2 2), .int .i64 (t 3 0), .int .i64 (t 3 1), .int .i64 (t 3 2), .int .i64 (t 4 0), .int .i64 (t 4 1), .int .i64 (t 4 2), .int .i64 (t 5 0), .int .i64 (t 5 1), .int .i64 (t 5 2), .int .i64 (t 6 0), .int .i64 (t 6 1), .int .i64 (t 6 2), .int .i64 (t 7 0), .int .i64 (t 7 1), .int .i64 (t 7 2)])), (1, dInt (2 : Nat)), (2, dInt c)] [] (by repeat (first | exact trivial | refine ⟨.same (congrArg dInt (wrap_up (by omega))), ?_⟩ | refine ⟨.same rfl, ?_⟩ | refine ⟨.any _, ?_⟩)) trivial rfl rfl) fun s' h => ⟨2, by omega, 1, g, by omega, hgo, h⟩
  · obtain rfl : m = 2 := by omega
    conv => whnf
    repeat (first | (refine Conf.mk (by kernel_rfl) ?_; conv => whnf) | (refine SeqOk.go ?_; conv => whnf))
    refine BoolCase.yes rfl ?_
    conv => whnf
    repeat (first | (refine Conf.mk (by kernel_rfl) ?_; conv => whnf) | (refine SeqOk.go ?_; conv => whnf))
    refine .look _ _ (isOf_ok c 1 hc (by decide)) rfl rfl ?_
    conv => whnf
    repeat (first | (refine Conf.mk (by kernel_rfl) ?_; conv => whnf) | (refine SeqOk.go ?_; conv => whnf))
    cases hb : bitOf c 1
    · rw [mostGo_off hb] at hgo
      refine BoolCase.no rfl ?_
      conv => whnf
      repeat (first | (refine Conf.mk (by kernel_rfl) ?_; conv => whnf) | (refine SeqOk.go ?_; conv => whnf))
      exact Into.mono (Into.to [] [(9, dInt (1 + 1 : Nat)), (8, dInt g), (0, .dat (.ptr [.int .i64 (t 0 0), .int .i64 (t 0 1), .int .i64 (t 0 2), .int .i64 (t 1 0), .int .i64 (t 1 1), .int .i64 (t 1 2), .int .i64 (t 2 0), .int .i64 (t 2 1), .int .i64 (t 2 2), .int .i64 (t 3 0), .int .i64 (t 3 1), .int .i64 (t 3 2), .int .i64 (t 4 0), .int .i64 (t 4 1), .int .i64 (t 4 2), .int .i64 (t 5 0), .int .i64 (t 5 1), .int .i64 (t 5 2), .int .i64 (t 6 0), .int .i64 (t 6 1), .int .i64 (t 6 2), .int .i64 (t 7 0), .int .i64 (t 7 1), .int .i64 (t 7 2)])), (1, dInt (2 : Nat)), (2, dInt c)] [] (by repeat (first | exact trivial | refine ⟨.same (congrArg dInt (wrap_up (by omega))), ?_⟩ | refine ⟨.same rfl, ?_⟩ | refine ⟨.any _, ?_⟩)) trivial rfl rfl) fun s' h => ⟨1, by omega, 2, g, by omega, hgo, h⟩
    · refine BoolCase.yes rfl ?_
      conv => whnf
      repeat (first | (refine Conf.mk (by kernel_rfl) ?_; conv => whnf) | (refine SeqOk.go ?_; conv => whnf))
      refine .mk 2 rfl (by decide) ?_
      conv => whnf
      repeat (first | (refine Conf.mk (by kernel_rfl) ?_; conv => whnf) | (refine SeqOk.go ?_; conv => whnf))
      refine .mk 1 rfl (by decide) ?_
      conv => whnf
      repeat (first | (refine Conf.mk (by kernel_rfl) ?_; conv => whnf) | (refine SeqOk.go ?_; conv => whnf))
      by_cases h0 : t 2 1 = 0
      · rw [mostGo_nil hb h0] at hgo
        refine BoolCase.yes (by simpa using h0) ?_
        conv => whnf
        repeat (first | (refine Conf.mk (by kernel_rfl) ?_; conv => whnf) | (refine SeqOk.go ?_; conv => whnf))
        subst hQ1
        conv => whnf
        rw [← hgo]
        exact Ret.to rfl
      · rw [mostGo_on hb h0] at hgo
        refine BoolCase.no (by simpa using h0) ?_
        conv => whnf
        repeat (first | (refine Conf.mk (by kernel_rfl) ?_; conv => whnf) | (refine SeqOk.go ?_; conv => whnf))
        refine .mk 2 rfl (by decide) ?_
        conv => whnf
        repeat (first | (refine Conf.mk (by kernel_rfl) ?_; conv => whnf) | (refine SeqOk.go ?_; conv => whnf))
        refine .mk 1 rfl (by decide) ?_
        conv => whnf
        repeat (first | (refine Conf.mk (by kernel_rfl) ?_; conv => whnf) | (refine SeqOk.go ?_; conv => whnf))
        by_cases h2 : g < t 2 1
        · rw [if_pos h2] at hgo
          refine BoolCase.yes (by simpa using h2) ?_
          conv => whnf
          repeat (first | (refine Conf.mk (by kernel_rfl) ?_; conv => whnf) | (refine SeqOk.go ?_; conv => whnf))
          refine .mk 2 rfl (by decide) ?_
          conv => whnf
          repeat (first | (refine Conf.mk (by kernel_rfl) ?_; conv => whnf) | (refine SeqOk.go ?_; conv => whnf))
          refine .mk 1 rfl (by decide) ?_
          conv => whnf
          repeat (first | (refine Conf.mk (by kernel_rfl) ?_; conv => whnf) | (refine SeqOk.go ?_; conv => whnf))
          exact Into.mono (Into.to [] [(9, dInt (1 + 1 : Nat)), (8, dInt (t 2 1)), (0, .dat (.ptr [.int .i64 (t 0 0), .int .i64 (t 0 1), .int .i64 (t 0 2), .int .i64 (t 1 0), .int .i64 (t 1 1), .int .i64 (t 1 2), .int .i64 (t 2 0), .int .i64 (t 2 1), .int .i64 (t 2 2), .int .i64 (t 3 0), .int .i64 (t 3 1), .int .i64 (t 3 2), .int .i64 (t 4 0), .int .i64 (t 4 1), .int .i64 (t 4 2), .int .i64 (t 5 0), .int .i64 (t 5 1), .int .i64 (t 5 2), .int .i64 (t 6 0), .int .i64 (t 6 1), .int .i64 (t 6 2), .int .i64 (t 7 0), .int .i64 (t 7 1), .int .i64 (t 7 2)])), (1, dInt (2 : Nat)), (2, dInt c)] [] (by repeat (first | exact trivial | refine ⟨.same (congrArg dInt (wrap_up (by omega))), ?_⟩ | refine ⟨.same rfl, ?_⟩ | refine ⟨.any _, ?_⟩)) trivial rfl rfl) fun s' h => ⟨1, by omega, 2, (t 2 1), by omega, hgo, h⟩
        · rw [if_neg h2] at hgo
          refine BoolCase.no (by simpa using h2) ?_
          conv => whnf
          repeat (first | (refine Conf.mk (by kernel_rfl) ?_; conv => whnf) | (refine SeqOk.go ?_; conv => whnf))
          exact Into.mono (Into.to [] [(9, dInt (1 + 1 : Nat)), (8, dInt g), (0, .dat (.ptr [.int .i64 (t 0 0), .int .i64 (t 0 1), .int .i64 (t 0 2), .int .i64 (t 1 0), .int .i64 (t 1 1), .int .i64 (t 1 2), .int .i64 (t 2 0), .int .i64 (t 2 1), .int .i64 (t 2 2), .int .i64 (t 3 0), .int .i64 (t 3 1), .int .i64 (t 3 2), .int .i64 (t 4 0), .int .i64 (t 4 1), .int .i64 (t 4 2), .int .i64 (t 5 0), .int .i64 (t 5 1), .int .i64 (t 5 2), .int .i64 (t 6 0), .int .i64 (t 6 1), .int .i64 (t 6 2), .int .i64 (t 7 0), .int .i64 (t 7 1), .int .i64 (t 7 2)])), (1, dInt (2 : Nat)), (2, dInt c)] [] (by repeat (first | exact trivial | refine ⟨.same (congrArg dInt (wrap_up (by omega))), ?_⟩ | refine ⟨.same rfl, ?_⟩ | refine ⟨.any _, ?_⟩)) trivial rfl rfl) fun s' h => ⟨1, by omega, 2, g, by omega, hgo, h⟩
  · obtain rfl : m = 1 := by omega
    conv => whnf
    repeat (first | (refine Conf.mk (by kernel_rfl) ?_; conv => whnf) | (refine SeqOk.go ?_; conv => whnf))
    refine BoolCase.yes rfl ?_
    conv => whnf
    repeat (first | (refine Conf.mk (by kernel_rfl) ?_; conv => whnf) | (refine SeqOk.go ?_; conv => whnf))
    refine .look _ _ (isOf_ok c 2 hc (by decide)) rfl rfl ?_
    conv => whnf
    repeat (first | (refine Conf.mk (by kernel_rfl) ?_; conv => whnf) | (refine SeqOk.go ?_; conv => whnf))
    cases hb : bitOf c 2
    · rw [mostGo_off hb] at hgo
      refine BoolCase.no rfl ?_
      conv => whnf
      repeat (first | (refine Conf.mk (by kernel_rfl) ?_; conv => whnf) | (refine SeqOk.go ?_; conv => whnf))
      exact Into.mono (Into.to [] [(9, dInt (2 + 1 : Nat)), (8, dInt g), (0, .dat (.ptr [.int .i64 (t 0 0), .int .i64 (t 0 1), .int .i64 (t 0 2), .int .i64 (t 1 0), .int .i64 (t 1 1), .int .i64 (t 1 2), .int .i64 (t 2 0), .int .i64 (t 2 1), .int .i64 (t 2 2), .int .i64 (t 3 0), .int .i64 (t 3 1), .int .i64 (t 3 2), .int .i64 (t 4 0), .int .i64 (t 4 1), .int .i64 (t 4 2), .int .i64 (t 5 0), .int .i64 (t 5 1), .int .i64 (t 5 2), .int .i64 (t 6 0), .int .i64 (t 6 1), .int .i64 (t 6 2), .int .i64 (t 7 0), .int .i64 (t 7 1), .int .i64 (t 7 2)])), (1, dInt (2 : Nat)), (2, dInt c)] [] (by repeat (first | exact trivial | refine ⟨.same (congrArg dInt (wrap_up (by omega))), ?_⟩ | refine ⟨.same rfl, ?_⟩ | refine ⟨.any _, ?_⟩)) trivial rfl rfl) fun s' h => ⟨0, by omega, 3, g, by omega, hgo, h⟩
    · refine BoolCase.yes rfl ?_
      conv => whnf
      repeat (first | (refine Conf.mk (by kernel_rfl) ?_; conv => whnf) | (refine SeqOk.go ?_; conv => whnf))
      refine .mk 2 rfl (by decide) ?_
      conv => whnf
      repeat (first | (refine Conf.mk (by kernel_rfl) ?_; conv => whnf) | (refine SeqOk.go ?_; conv => whnf))
      refine .mk 2 rfl (by decide) ?_
      conv => whnf
      repeat (first | (refine Conf.mk (by kernel_rfl) ?_; conv => whnf) | (refine SeqOk.go ?_; conv => whnf))
      by_cases h0 : t 2 2 = 0
      · rw [mostGo_nil hb h0] at hgo
        refine BoolCase.yes (by simpa using h0) ?_
        conv => whnf
        repeat (first | (refine Conf.mk (by kernel_rfl) ?_; conv => whnf) | (refine SeqOk.go ?_; conv => whnf))
        subst hQ1
        conv => whnf
        rw [← hgo]
        exact Ret.to rfl
      · rw [mostGo_on hb h0] at hgo
        refine BoolCase.no (by simpa using h0) ?_
        conv => whnf
        repeat (first | (refine Conf.mk (by kernel_rfl) ?_; conv => whnf) | (refine SeqOk.go ?_; conv => whnf))
        refine .mk 2 rfl (by decide) ?_
        conv => whnf
        repeat (first | (refine Conf.mk (by kernel_rfl) ?_; conv => whnf) | (refine SeqOk.go ?_; conv => whnf))
        refine .mk 2 rfl (by decide) ?_
        conv => whnf
        repeat (first | (refine Conf.mk (by kernel_rfl) ?_; conv => whnf) | (refine SeqOk.go ?_; conv => whnf))
        by_cases h2 : g < t 2 2
        · rw [if_pos h2] at hgo
          refine BoolCase.yes (by simpa using h2) ?_
          conv => whnf
          repeat (first | (refine Conf.mk (by kernel_rfl) ?_; conv => whnf) | (refine SeqOk.go ?_; conv => whnf))
          refine .mk 2 rfl (by decide) ?_
          conv => whnf
          repeat (first | (refine Conf.mk (by kernel_rfl) ?_; conv => whnf) | (refine SeqOk.go ?_; conv => whnf))
          refine .mk 2 rfl (by decide) ?_
          conv => whnf
          repeat (first | (refine Conf.mk (by kernel_rfl) ?_; conv => whnf) | (refine SeqOk.go ?_; conv => whnf))
          exact Into.mono (Into.to [] [(9, dInt (2 + 1 : Nat)), (8, dInt (t 2 2)), (0, .dat (.ptr [.int .i64 (t 0 0), .int .i64 (t 0 1), .int .i64 (t 0 2), .int .i64 (t 1 0), .int .i64 (t 1 1), .int .i64 (t 1 2), .int .i64 (t 2 0), .int .i64 (t 2 1), .int .i64 (t 2 2), .int .i64 (t 3 0), .int .i64 (t 3 1), .int .i64 (t 3 2), .int .i64 (t 4 0), .int .i64 (t 4 1), .int .i64 (t 4 2), .int .i64 (t 5 0), .int .i64 (t 5 1), .int .i64 (t 5 2), .int .i64 (t 6 0), .int .i64 (t 6 1), .int .i64 (t 6 2), .int .i64 (t 7 0), .int .i64 (t 7 1), .int .i64 (t 7 2)])), (1, dInt (2 : Nat)), (2, dInt c)] [] (by repeat (first | exact trivial | refine ⟨.same (congrArg dInt (wrap_up (by omega))), ?_⟩ | refine ⟨.same rfl, ?_⟩ | refine ⟨.any _, ?_⟩)) trivial rfl rfl) fun s' h => ⟨0, by omega, 3, (t 2 2), by omega, hgo, h⟩
        · rw [if_neg h2] at hgo
          refine BoolCase.no (by simpa using h2) ?_
          conv => whnf
          repeat (first | (refine Conf.mk (by kernel_rfl) ?_; conv => whnf) | (refine SeqOk.go ?_; conv => whnf))
          exact Into.mono (Into.to [] [(9, dInt (2 + 1 : Nat)), (8, dInt g), (0, .dat (.ptr [.int .i64 (t 0 0), .int .i64 (t 0 1), .int .i64 (t 0 2), .int .i64 (t 1 0), .int .i64 (t 1 1), .int .i64 (t 1 2), .int .i64 (t 2 0), .int .i64 (t 2 1), .int .i64 (t 2 2), .int .i64 (t 3 0), .int .i64 (t 3 1), .int .i64 (t 3 2), .int .i64 (t 4 0), .int .i64 (t 4 1), .int .i64 (t 4 2), .int .i64 (t 5 0), .int .i64 (t 5 1), .int .i64 (t 5 2), .int .i64 (t 6 0), .int .i64 (t 6 1), .int .i64 (t 6 2), .int .i64 (t 7 0), .int .i64 (t 7 1), .int .i64 (t 7 2)])), (1, dInt (2 : Nat)), (2, dInt c)] [] (by repeat (first | exact trivial | refine ⟨.same (congrArg dInt (wrap_up (by omega))), ?_⟩ | refine ⟨.same rfl, ?_⟩ | refine ⟨.any _, ?_⟩)) trivial rfl rfl) fun s' h => ⟨0, by omega, 3, g, by omega, hgo, h⟩
  · obtain rfl : m = 0 := by omega
    conv => whnf
    repeat (first | (refine Conf.mk (by kernel_rfl) ?_; conv => whnf) | (refine SeqOk.go ?_; conv => whnf))
    refine BoolCase.no rfl ?_
    conv => whnf
    repeat (first | (refine Conf.mk (by kernel_rfl) ?_; conv => whnf) | (refine SeqOk.go ?_; conv => whnf))
    subst hQ1
    conv => whnf
    rw [mostGo_end] at hgo
    rw [← hgo]
    exact Ret.to rfl
set_option maxHeartbeats 0 in
theorem most3_ok (t : Tb) (c : Int) (hc : 1 ≤ c ∧ c ≤ 7) : PCall Try.prog 31 [.dat (.ptr [.int .i64 (t 0 0), .int .i64 (t 0 1), .int .i64 (t 0 2), .int .i64 (t 1 0), .int .i64 (t 1 1), .int .i64 (t 1 2), .int .i64 (t 2 0), .int .i64 (t 2 1), .int .i64 (t 2 2), .int .i64 (t 3 0), .int .i64 (t 3 1), .int .i64 (t 3 2), .int .i64 (t 4 0), .int .i64 (t 4 1), .int .i64 (t 4 2), .int .i64 (t 5 0), .int .i64 (t 5 1), .int .i64 (t 5 2), .int .i64 (t 6 0), .int .i64 (t 6 1), .int .i64 (t 6 2), .int .i64 (t 7 0), .int .i64 (t 7 1), .int .i64 (t 7 2)]), dInt (3 : Nat), dInt c] (.tup [dInt (mostV c (t 3)).1, dBool (mostV c (t 3)).2]) := by
  refine pcall_cut tab_all tab_mixed Try.func31 (by kernel_rfl) Try.ntmps31 rfl ?_
  conv => whnf
  conv => whnf
  repeat (first | (refine Conf.mk (by kernel_rfl) ?_; conv => whnf) | (refine SeqOk.go ?_; conv => whnf))
  refine LoopOk.hide fun Q1 hQ1 => ?_
  refine LoopOk.mk (fun m s => ∃ (i : Nat) (g : Int), i + m = 3 ∧ mostGo c (t 3) m i g = mostV c (t 3) ∧ s = ⟨[(9, dInt (i : Nat)), (8, dInt g), (0, .dat (.ptr [.int .i64 (t 0 0), .int .i64 (t 0 1), .int .i64 (t 0 2), .int .i64 (t 1 0), .int .i64 (t 1 1), .int .i64 (t 1 2), .int .i64 (t 2 0), .int .i64 (t 2 1), .int .i64 (t 2 2), .int .i64 (t 3 0), .int .i64 (t 3 1), .int .i64 (t 3 2), .int .i64 (t 4 0), .int .i64 (t 4 1), .int .i64 (t 4 2), .int .i64 (t 5 0), .int .i64 (t 5 1), .int .i64 (t 5 2), .int .i64 (t 6 0), .int .i64 (t 6 1), .int .i64 (t 6 2), .int .i64 (t 7 0), .int .i64 (t 7 1), .int .i64 (t 7 2)])), (1, dInt (3 : Nat)), (2, dInt c)], 0, []⟩) 3 (Into.mono (Into.to [] [(9, dInt (0 : Nat)), (8, dInt 0), (0, .dat (.ptr [.int .i64 (t 0 0), .int .i64 (t 0 1), .int .i64 (t 0 2), .int .i64 (t 1 0), .int .i64 (t 1 1), .int .i64 (t 1 2), .int .i64 (t 2 0), .int .i64 (t 2 1), .int .i64 (t 2 2), .int .i64 (t 3 0), .int .i64 (t 3 1), .int .i64 (t 3 2), .int .i64 (t 4 0), .int .i64 (t 4 1), .int .i64 (t 4 2), .int .i64 (t 5 0), .int .i64 (t 5 1), .int .i64 (t 5 2), .int .i64 (t 6 0), .int .i64 (t 6 1), .int .i64 (t 6 2), .int .i64 (t 7 0), .int .i64 (t 7 1), .int .i64 (t 7 2)])), (1, dInt (3 : Nat)), (2, dInt c)] [] (by repeat (first | exact trivial | refine ⟨.same (congrArg dInt (wrap_up (by omega))), ?_⟩ | refine ⟨.same rfl, ?_⟩ | refine ⟨.any _, ?_⟩)) trivial rfl rfl) fun s' h => ⟨0, 0, by omega, rfl, h⟩) ?_
  rintro m s ⟨i, g, him, hgo, rfl⟩
  have hi : i = 0 ∨ i = 1 ∨ i = 2 ∨ i = 3 := by omega
  rcases hi with rfl | rfl | rfl | rfl
  · obtain rfl : m = 3 := by omega
    conv => whnf
    repeat (first | (refine Conf.mk (by kernel_rfl) ?_; conv => whnf) | (refine SeqOk.go ?_; conv => whnf))
    refine BoolCase.yes rfl ?_
    conv => whnf
    repeat (first | (refine Conf.mk (by kernel_rfl) ?_; conv => whnf) | (refine SeqOk.go ?_; conv => whnf))
    refine .look _ _ (isOf_ok c 0 hc (by decide)) rfl rfl ?_
    conv => whnf
    repeat (first | (refine Conf.mk (by kernel_rfl) ?_; conv => whnf) | (refine SeqOk.go ?_; conv => whnf))
    cases hb : bitOf c 0
    · rw [mostGo_off hb] at hgo
      refine BoolCase.no rfl ?_
      conv => whnf
      repeat (first | (refine Conf.mk (by kernel_rfl) ?_; conv => whnf) | (refine SeqOk.go ?_; conv => whnf))
      exact Into.mono (Into.to [] [(9, dInt (0 + 1 : Nat)), (8, dInt g), (0, .dat (.ptr [.int .i64 (t 0 0), .int .i64 (t 0 1), .int .i64 (t 0 2), .int .i64 (t 1 0), .int .i64 (t 1 1), .int .i64 (t 1 2), .int .i64 (t 2 0), .int .i64 (t 2 1), .int .i64 (t 2 2), .int .i64 (t 3 0), .int .i64 (t 3 1), .int .i64 (t 3 2), .int .i64 (t 4 0), .int .i64 (t 4 1), .int .i64 (t 4 2), .int .i64 (t 5 0), .int .i64 (t 5 1), .int .i64 (t 5 2), .int .i64 (t 6 0), .int .i64 (t 6 1), .int .i64 (t 6 2), .int .i64 (t 7 0), .int .i64 (t 7 1), .int .i64 (t 7 2)])), (1, dInt (3 : Nat)), (2, dInt c)] [] (by repeat (first | exact trivial | refine ⟨.same (congrArg dInt (wrap_up (by omega))), ?_⟩ | refine ⟨.same rfl, ?_⟩ | refine ⟨.any _, ?_⟩)) trivial rfl rfl) fun s' h => ⟨2, by omega, 1, g, by omega, hgo, h⟩
    · refine BoolCase.yes rfl ?_
      conv => whnf
      repeat (first | (refine Conf.mk (by kernel_rfl) ?_; conv => whnf) | (refine SeqOk.go ?_; conv => whnf))
      refine .mk 3 rfl (by decide) ?_
      conv => whnf
      repeat (first | (refine Conf.mk (by kernel_rfl) ?_; conv => whnf) | (refine SeqOk.go ?_; conv => whnf))
      refine .mk 0 rfl (by decide) ?_
      conv => whnf
      repeat (first | (refine Conf.mk (by kernel_rfl) ?_; conv => whnf) | (refine SeqOk.go ?_; conv => whnf))
      by_cases h0 : t 3 0 = 0
      · rw [mostGo_nil hb h0] at hgo
        refine BoolCase.yes (by simpa using h0) ?_
        conv => whnf
        repeat (first | (refine Conf.mk (by kernel_rfl) ?_; conv => whnf) | (refine SeqOk.go ?_; conv => whnf))
        subst hQ1
        conv => whnf
        rw [← hgo]
        exact Ret.to rfl
      · rw [mostGo_on hb h0] at hgo
        refine BoolCase.no (by simpa using h0) ?_
        conv => whnf
        repeat (first | (refine Conf.mk (by kernel_rfl) ?_; conv => whnf) | (refine SeqOk.go ?_; conv => whnf))
        refine .mk 3 rfl (by decide) ?_
        conv => whnf
        repeat (first | (refine Conf.mk (by kernel_rfl) ?_; conv => whnf) | (refine SeqOk.go ?_; conv => whnf))
        refine .mk 0 rfl (by decide) ?_
        conv => whnf
        repeat (first | (refine Conf.mk (by kernel_rfl) ?_; conv => whnf) | (refine SeqOk.go ?_; conv => whnf))
        by_cases h2 : g < t 3 0
        · rw [if_pos h2] at hgo
          refine BoolCase.yes (by simpa using h2) ?_
          conv => whnf
          repeat (first | (refine Conf.mk (by kernel_rfl) ?_; conv => whnf) | (refine SeqOk.go ?_; conv => whnf))
          refine .mk 3 rfl (by decide) ?_
          conv => whnf
          repeat (first | (refine Conf.mk (by kernel_rfl) ?_; conv => whnf) | (refine SeqOk.go ?_; conv => whnf))
          refine .mk 0 rfl (by decide) ?_
          conv => whnf
          repeat (first | (refine Conf.mk (by kernel_rfl) ?_; conv => whnf) | (refine SeqOk.go ?_; conv => whnf))
          exact Into.mono (Into.to [] [(9, dInt (0 + 1 : Nat)), (8, dInt (t 3 0)), (0, .dat (.ptr [.int .i64 (t 0 0), .int .i64 (t 0 1), .int .i64 (t 0 2), .int .i64 (t 1 0), .int .i64 (t 1 1), .int .i64 (t 1 2), .int .i64 (t 2 0), .int .i64 (t 2 1), .int .i64 (t 2 2), .int .i64 (t 3 0), .int .i64 (t 3 1), .int .i64 (t 3 2), .int .i64 (t 4 0), .int .i64 (t 4 1), .int .i64 (t 4 2), .int .i64 (t 5 0), .int .i64 (t 5 1), .int .i64 (t 5 2), .int .i64 (t 6 0), .int .i64 (t 6 1), .int .i64 (t 6 2), .int .i64 (t 7 0), .int .i64 (t 7 1), .int .i64 (t 7 2)])), (1, dInt (3 : Nat)), (2, dInt c)] [] (by repeat (first | exact trivial | refine ⟨.same (congrArg dInt (wrap_up (by omega))), ?_⟩ | refine ⟨.same rfl, ?_⟩ | refine ⟨.any _, ?_⟩)) trivial rfl rfl) fun s' h => ⟨2, by omega, 1, (t 3 0), by omega, hgo, h⟩
        · rw [if_neg h2] at hgo
          refine BoolCase.no (by simpa using h2) ?_
          conv => whnf
          repeat (first | (refine Conf.mk (by kernel_rfl) ?_; conv => whnf) | (refine SeqOk.go ?_; conv => whnf))
          exact Into.mono (Into.to [] [(9, dInt (0 + 1 : Nat)), (8, dInt g), (0, .dat (.ptr [.int .i64 (t 0 0), .int .i64 (t 0 1), .int .i64 (t 0 2), .int .i64 (t 1 0), .int .i64 (t 1 1), .int .i64 (t 1 2), .int .i64 (t 2 0), .int .i64 (t 2 1), .int .i64 (t 2 2), .int .i64 (t 3 0), .int .i64 (t 3 1), .int .i64 (t 3 2), .int .i64 (t 4 0), .int .i64 (t 4 1), .int .i64 (t 4 2), .int .i64 (t 5 0), .int .i64 (t 5 1), .int .i64 (t 5 2), .int .i64 (t 6 0), .int .i64 (t 6 1), .int .i64 (t 6 2), .int .i64 (t 7 0), .int .i64 (t 7 1), .int .i64 (t 7 2)])), (1, dInt (3 : Nat)), (2, dInt c)] [] (by repeat (first | exact trivial | refine ⟨.same (congrArg dInt (wrap_up (by omega))), ?_⟩ | refine ⟨.same rfl, ?_⟩ | refine ⟨.any _, ?_⟩)) trivial rfl rfl) fun s' h => ⟨2, by omega, 1, g, by omega, hgo, h⟩
  · obtain rfl : m = 2 := by omega
    conv => whnf
    repeat (first | (refine Conf.mk (by kernel_rfl) ?_; conv => whnf) | (refine SeqOk.go ?_; conv => whnf))
    refine BoolCase.yes rfl ?_
    conv => whnf
    repeat (first | (refine Conf.mk (by kernel_rfl) ?_; conv => whnf) | (refine SeqOk.go ?_; conv => whnf))
    refine .look _ _ (isOf_ok c 1 hc (by decide)) rfl rfl ?_
    conv => whnf
    repeat (first | (refine Conf.mk (by kernel_rfl) ?_; conv => whnf) | (refine SeqOk.go ?_; conv => whnf))
    cases hb : bitOf c 1
    · rw [mostGo_off hb] at hgo
      refine BoolCase.no rfl ?_
      conv => whnf
      repeat (first | (refine Conf.mk (by kernel_rfl) ?_; conv => whnf) | (refine SeqOk.go ?_; conv => whnf))
      exact Into.mono (Into.to [] [(9, dInt (1 + 1 : Nat)), (8, dInt g), (0, .dat (.ptr [.int .i64 (t 0 0), .int .i64 (t 0 1), .int .i64 (t 0 2), .int .i64 (t 1 0), .int .i64 (t 1 1), .int .i64 (t 1 2), .int .i64 (t 2 0), .int .i64 (t 2 1), .int .i64 (t 2 2), .int .i64 (t 3 0), .int .i64 (t 3 1), .int .i64 (t 3 2), .int .i64 (t 4 0), .int .i64 (t 4 1), .int .i64 (t 4 2), .int .i64 (t 5 0), .int .i64 (t 5 1), .int .i64 (t 5 2), .int .i64 (t 6 0), .int .i64 (t 6 1), .int .i64 (t 6 2), .int .i64 (t 7 0), .int .i64 (t 7 1), .int .i64 (t 7 2)])), (1, dInt (3 : Nat)), (2, dInt c)] [] (by repeat (first | exact trivial | refine ⟨.same (congrArg dInt (wrap_up (by omega))), ?_⟩ | refine ⟨.same rfl, ?_⟩ | refine ⟨.any _, ?_⟩)) trivial rfl rfl) fun s' h => ⟨1, by omega, 2, g, by omega, hgo, h⟩
    · refine BoolCase.yes rfl ?_
      conv => whnf
      repeat (first | (refine Conf.mk (by kernel_rfl) ?_; conv => whnf) | (refine SeqOk.go ?_; conv => whnf))
      refine .mk 3 rfl (by decide) ?_
      conv => whnf
      repeat (first | (refine Conf.mk (by kernel_rfl) ?_; conv => whnf) | (refine SeqOk.go ?_; conv => whnf))
      refine .mk 1 rfl (by decide) ?_
      conv => whnf
      repeat (first | (refine Conf.mk (by kernel_rfl) ?_; conv => whnf) | (refine SeqOk.go ?_; conv => whnf))
      by_cases h0 : t 3 1 = 0
      · rw [mostGo_nil hb h0] at hgo
        refine BoolCase.yes (by simpa using h0) ?_
        conv => whnf
        repeat (first | (refine Conf.mk (by kernel_rfl) ?_; conv => whnf) | (refine SeqOk.go ?_; conv => whnf))
        subst hQ1
        conv => whnf
        rw [← hgo]
        exact Ret.to rfl
      · rw [mostGo_on hb h0] at hgo
        refine BoolCase.no (by simpa using h0) ?_
        conv => whnf
        repeat (first | (refine Conf.mk (by kernel_rfl) ?_; conv => whnf) | (refine SeqOk.go ?_; conv => whnf))
        refine .mk 3 rfl (by decide) ?_
        conv => whnf
        repeat (first | (refine Conf.mk (by kernel_rfl) ?_; conv => whnf) | (refine SeqOk.go ?_; conv => whnf))
        refine .mk 1 rfl (by decide) ?_
        conv => whnf
        repeat (first | (refine Conf.mk (by kernel_rfl) ?_; conv => whnf) | (refine SeqOk.go ?_; conv => whnf))
        by_cases h2 : g < t 3 1
        · rw [if_pos h2] at hgo
          refine BoolCase.yes (by simpa using h2) ?_
          conv => whnf
          repeat (first | (refine Conf.mk (by kernel_rfl) ?_; conv => whnf) | (refine SeqOk.go ?_; conv => whnf))
          refine .mk 3 rfl (by decide) ?_
          conv => whnf
          repeat (first | (refine Conf.mk (by kernel_rfl) ?_; conv => whnf) | (refine SeqOk.go ?_; conv => whnf))
          refine .mk 1 rfl (by decide) ?_
          conv => whnf
          repeat (first | (refine Conf.mk (by kernel_rfl) ?_; conv => whnf) | (refine SeqOk.go ?_; conv => whnf))
          exact Into.mono (Into.to [] [(9, dInt (1 + 1 : Nat)), (8, dInt (t 3 1)), (0, .dat (.ptr [.int .i64 (t 0 0), .int .i64 (t 0 1), .int .i64 (t 0 2), .int .i64 (t 1 0), .int .i64 (t 1 1), .int .i64 (t 1 2), .int .i64 (t 2 0), .int .i64 (t 2 1), .int .i64 (t 2 2), .int .i64 (t 3 0), .int .i64 (t 3 1), .int .i64 (t 3 2), .int .i64 (t 4 0), .int .i64 (t 4 1), .int .i64 (t 4 2), .int .i64 (t 5 0), .int .i64 (t 5 1), .int .i64 (t 5 2), .int .i64 (t 6 0), .int .i64 (t 6 1), .int .i64 (t 6 2), .int .i64 (t 7 0), .int .i64 (t 7 1), .int .i64 (t 7 2)])), (1, dInt (3 : Nat)), (2, dInt c)] [] (by repeat (first | exact trivial | refine ⟨.same (congrArg dInt (wrap_up (by omega))), ?_⟩ | refine ⟨.same rfl, ?_⟩ | refine ⟨.any _, ?_⟩)) trivial rfl rfl) fun s' h => ⟨1, by omega, 2, (t 3 1), by omega, hgo, h⟩
        · rw [if_neg h2] at hgo
          refine BoolCase.no (by simpa using h2) ?_
          conv => whnf
          repeat (first | (refine Conf.mk (by kernel_rfl) ?_; conv => whnf) | (refine SeqOk.go ?_; conv => whnf))
          exact Into.mono (Into.to [] [(9, dInt (1 + 1 : Nat)), (8, dInt g), (0, .dat (.ptr [.int .i64 (t 0 0), .int .i64 (t 0 1), .int .i64 (t 0 2), .int .i64 (t 1 0), .int .i64 (t 1 1), .int .i64 (t 1 2), .int .i64 (t 2 0), .int .i64 (t 2 1), .int .i64 (t 2 2), .int .i64 (t 3 0), .int .i64 (t 3 1), .int .i64 (t 3 2), .int .i64 (t 4 0), .int .i64 (t 4 1), .int .i64 (t 4 2), .int .i64 (t 5 0), .int .i64 (t 5 1), .int .i64 (t 5 2), .int .i64 (t 6 0), .int .i64 (t 6 1), .int .i64 (t 6 2), .int .i64 (t 7 0), .int .i64 (t 7 1), .int .i64 (t 7 2)])), (1, dInt (3 : Nat)), (2, dInt c)] [] (by repeat (first | exact trivial | refine ⟨.same (congrArg dInt (wrap_up (by omega))), ?_⟩ | refine ⟨.same rfl, ?_⟩ | refine ⟨.any _, ?_⟩)) trivial rfl rfl) fun s' h => ⟨1, by omega, 2, g, by omega, hgo, h⟩
  · obtain rfl : m = 1 := by omega
    conv => whnf
    repeat (first | (refine Conf.mk (by kernel_rfl) ?_; conv => whnf) | (refine SeqOk.go ?_; conv => whnf))
    refine BoolCase.yes rfl ?_
    conv => whnf
    repeat (first | (refine Conf.mk (by kernel_rfl) ?_; conv => whnf) | (refine SeqOk.go ?_; conv => whnf))
    refine .look _ _ (isOf_ok c 2 hc (by decide)) rfl rfl ?_
    conv => whnf
    repeat (first | (refine Conf.mk (by kernel_rfl) ?_; conv => whnf) | (refine SeqOk.go ?_; conv => whnf))
    cases hb : bitOf c 2
    · rw [mostGo_off hb] at hgo
      refine BoolCase.no rfl ?_
      conv => whnf
      repeat (first | (refine Conf.mk (by kernel_rfl) ?_; conv => whnf) | (refine SeqOk.go ?_; conv => whnf))
      exact Into.mono (Into.to [] [(9, dInt (2 + 1 : Nat)), (8, dInt g), (0, .dat (.ptr [.int .i64 (t 0 0), .int .i64 (t 0 1), .int .i64 (t 0 2), .int .i64 (t 1 0), .int .i64 (t 1 1), .int .i64 (t 1 2), .int .i64 (t 2 0), .int .i64 (t 2 1), .int .i64 (t 2 2), .int .i64 (t 3 0), .int .i64 (t 3 1), .int .i64 (t 3 2), .int .i64 (t 4 0), .int .i64 (t 4 1), .int .i64 (t 4 2), .int .i64 (t 5 0), .int .i64 (t 5 1), .int .i64 (t 5 2), .int .i64 (t 6 0), .int .i64 (t 6 1), .int .i64 (t 6 2), .int .i64 (t 7 0), .int .i64 (t 7 1), .int .i64 (t 7 2)])), (1, dInt (3 : Nat)), (2, dInt c)] [] (by repeat (first | exact trivial | refine ⟨.same (congrArg dInt (wrap_up (by omega))), ?_⟩ | refine ⟨.same rfl, ?_⟩ | refine ⟨.any _, ?_⟩)) trivial rfl rfl) fun s' h => ⟨0, by omega, 3, g, by omega, hgo, h⟩
    · refine BoolCase.yes rfl ?_
      conv => whnf
      repeat (first | (refine Conf.mk (by kernel_rfl) ?_; conv => whnf) | (refine SeqOk.go ?_; conv => whnf))
      refine .mk 3 rfl (by decide) ?_
      conv => whnf
      repeat (first | (refine Conf.mk (by kernel_rfl) ?_; conv => whnf) | (refine SeqOk.go ?_; conv => whnf))
      refine .mk 2 rfl (by decide) ?_
      conv => whnf
      repeat (first | (refine Conf.mk (by kernel_rfl) ?_; conv => whnf) | (refine SeqOk.go ?_; conv => whnf))
      by_cases h0 : t 3 2 = 0
      · rw [mostGo_nil hb h0] at hgo
        refine BoolCase.yes (by simpa using h0) ?_
        conv => whnf
        repeat (first | (refine Conf.mk (by kernel_rfl) ?_; conv => whnf) | (refine SeqOk.go ?_; conv => whnf))
        subst hQ1
        conv => whnf
        rw [← hgo]
        exact Ret.to rfl
      · rw [mostGo_on hb h0] at hgo
        refine BoolCase.no (by simpa using h0) ?_
        conv => whnf
        repeat (first | (refine Conf.mk (by kernel_rfl) ?_; conv => whnf) | (refine SeqOk.go ?_; conv => whnf))
        refine .mk 3 rfl (by decide) ?_
        conv => whnf
        repeat (first | (refine Conf.mk (by kernel_rfl) ?_; conv => whnf) | (refine SeqOk.go ?_; conv => whnf))
        refine .mk 2 rfl (by decide) ?_
        conv => whnf
        repeat (first | (refine Conf.mk (by kernel_rfl) ?_; conv => whnf) | (refine SeqOk.go ?_; conv => whnf))
        by_cases h2 : g < t 3 2
        · rw [if_pos h2] at hgo
          refine BoolCase.yes (by simpa using h2) ?_
          conv => whnf
          repeat (first | (refine Conf.mk (by kernel_rfl) ?_; conv => whnf) | (refine SeqOk.go ?_; conv => whnf))
          refine .mk 3 rfl (by decide) ?_
          conv => whnf
          repeat (first | (refine Conf.mk (by kernel_rfl) ?_; conv => whnf) | (refine SeqOk.go ?_; conv => whnf))
          refine .mk 2 rfl (by decide) ?_
          conv => whnf
          repeat (first | (refine Conf.mk (by kernel_rfl) ?_; conv => whnf) | (refine SeqOk.go ?_; conv => whnf))
          exact Into.mono (Into.to [] [(9, dInt (2 + 1 : Nat)), (8, dInt (t 3 2)), (0, .dat (.ptr [.int .i64 (t 0 0), .int .i64 (t 0 1), .int .i64 (t 0 2), .int .i64 (t 1 0), .int .i64 (t 1 1), .int .i64 (t 1 2), .int .i64 (t 2 0), .int .i64 (t 2 1), .int .i64 (t 2 2), .int .i64 (t 3 0), .int .i64 (t 3 1), .int .i64 (t 3 2), .int .i64 (t 4 0), .int .i64 (t 4 1), .int .i64 (t 4 2), .int .i64 (t 5 0), .int .i64 (t 5 1), .int .i64 (t 5 2), .int .i64 (t 6 0), .int .i64 (t 6 1), .int .i64 (t 6 2), .int .i64 (t 7 0), .int .i64 (t 7 1), .int .i64 (t 7 2)])), (1, dInt (3 : Nat)), (2, dInt c)] [] (by repeat (first | exact trivial | refine ⟨.same (congrArg dInt (wrap_up (by omega))), ?_⟩ | refine ⟨.same rfl, ?_⟩ | refine ⟨.any _, ?_⟩)) trivial rfl rfl) fun s' h => ⟨0, by omega, 3, (t 3 2), by omega, hgo, h⟩
        · rw [if_neg h2] at hgo
          refine BoolCase.no (by simpa using h2) ?_
          conv => whnf
          repeat (first | (refine Conf.mk (by kernel_rfl) ?_; conv => whnf) | (refine SeqOk.go ?_; conv => whnf))
          exact Into.mono (Into.to [] [(9, dInt (2 + 1 : Nat)), (8, dInt g), (0, .dat (.ptr [.int .i64 (t 0 0), .int .i64 (t 0 1), .int .i64 (t 0 2), .int .i64 (t 1 0), .int .i64 (t 1 1), .int .i64 (t 1 2), .int .i64 (t 2 0), .int .i64 (t 2 1), .int .i64 (t 2 2), .int .i64 (t 3 0), .int .i64 (t 3 1), .int .i64 (t 3 2), .int .i64 (t 4 0), .int .i64 (t 4 1), .int .i64 (t 4 2), .int .i64 (t 5 0), .int .i64 (t 5 1), .int .i64 (t 5 2), .int .i64 (t 6 0), .int .i64 (t 6 1), .int .i64 (t 6 2), .int .i64 (t 7 0), .int .i64 (t 7 1), .int .i64 (t 7 2)])), (1, dInt (3 : Nat)), (2, dInt c)] [] (by repeat (first | exact trivial | refine ⟨.same (congrArg dInt (wrap_up (by omega))), ?_⟩ | refine ⟨.same rfl, ?_⟩ | refine ⟨.any _, ?_⟩)) trivial rfl rfl) fun s' h => ⟨0, by omega, 3, g, by omega, hgo, h⟩
  · obtain rfl : m = 0 := by omega
    conv => whnf
    repeat (first | (refine Conf.mk (by kernel_rfl) ?_; conv => whnf) | (refine SeqOk.go ?_; conv => whnf))
    refine BoolCase.no rfl ?_
    conv => whnf
    repeat (first | (refine Conf.mk (by kernel_rfl) ?_; conv => whnf) | (refine SeqOk.go ?_; conv => whnf))
    subst hQ1
    conv => whnf
    rw [mostGo_end] at hgo
    rw [← hgo]
    exact Ret.to rfl
set_option maxHeartbeats 0 in
theorem most4_ok (t : Tb) (c : Int) (hc : 1 ≤ c ∧ c ≤ 7) : PCall Try.prog 31 [.dat (.ptr [.int .i64 (t 0 0), .int .i64 (t 0 1), .int .i64 (t 0 2), .int .i64 (t 1 0), .int .i64 (t 1 1), .int .i64 (t 1 2), .int .i64 (t 2 0), .int .i64 (t 2 1), .int .i64 (t 2 2), .int .i64 (t 3 0), .int .i64 (t 3 1), .int .i64 (t 3 2), .int .i64 (t 4 0), .int .i64 (t 4 1), .int .i64 (t 4 2), .int .i64 (t 5 0), .int .i64 (t 5 1), .int .i64 (t 5 2), .int .i64 (t 6 0), .int .i64 (t 6 1), .int .i64 (t 6 2), .int .i64 (t 7 0), .int .i64 (t 7 1), .int .i64 (t 7 2)]), dInt (4 : Nat), dInt c] (.tup [dInt (mostV c (t 4)).1, dBool (mostV c (t 4)).2]) := by
  refine pcall_cut tab_all tab_mixed Try.func31 (by kernel_rfl) Try.ntmps31 rfl ?_
  conv => whnf
  conv => whnf
  repeat (first | (refine Conf.mk (by kernel_rfl) ?_; conv => whnf) | (refine SeqOk.go ?_; conv => whnf))
  refine LoopOk.hide fun Q1 hQ1 => ?_
  refine LoopOk.mk (fun m s => ∃ (i : Nat) (g : Int), i + m = 3 ∧ mostGo c (t 4) m i g = mostV c (t 4) ∧ s = ⟨[(9, dInt (i : Nat)), (8, dInt g), (0, .dat (.ptr [.int .i64 (t 0 0), .int .i64 (t 0 1), .int .i64 (t 0 2), .int .i64 (t 1 0), .int .i64 (t 1 1), .int .i64 (t 1 2), .int .i64 (t 2 0), .int .i64 (t 2 1), .int .i64 (t 2 2), .int .i64 (t 3 0), .int .i64 (t 3 1), .int .i64 (t 3 2), .int .i64 (t 4 0), .int .i64 (t 4 1), .int .i64 (t 4 2), .int .i64 (t 5 0), .int .i64 (t 5 1), .int .i64 (t 5 2), .int .i64 (t 6 0), .int .i64 (t 6 1), .int .i64 (t 6 2), .int .i64 (t 7 0), .int .i64 (t 7 1), .int .i64 (t 7 2)])), (1, dInt (4 : Nat)), (2, dInt c)], 0, []⟩) 3 (Into.mono (Into.to [] [(9, dInt (0 : Nat)), (8, dInt 0), (0, .dat (.ptr [.int .i64 (t 0 0), .int .i64 (t 0 1), .int .i64 (t 0 2), .int .i64 (t 1 0), .int .i64 (t 1 1), .int .i64 (t 1 2), .int .i64 (t 2 0), .int .i64 (t 2 1), .int .i64 (t 2 2), .int .i64 (t 3 0), .int .i64 (t 3 1), .int .i64 (t 3 2), .int .i64 (t 4 0), .int .i64 (t 4 1), .int .i64 (t 4 2), .int .i64 (t 5 0), .int .i64 (t 5 1), .int .i64 (t 5 2), .int .i64 (t 6 0), .int .i64 (t 6 1), .int .i64 (t 6 2), .int .i64 (t 7 0), .int .i64 (t 7 1), .int .i64 (t 7 2)])), (1, dInt (4 : Nat)), (2, dInt c)] [] (by repeat (first | exact trivial | refine ⟨.same (congrArg dInt (wrap_up (by omega))), ?_⟩ | refine ⟨.same rfl, ?_⟩ | refine ⟨.any _, ?_⟩)) trivial rfl rfl) fun s' h => ⟨0, 0, by omega, rfl, h⟩) ?_
  rintro m s ⟨i, g, him, hgo, rfl⟩
  have hi : i = 0 ∨ i = 1 ∨ i = 2 ∨ i = 3 := by omega
  rcases hi with rfl | rfl | rfl | rfl
  · obtain rfl : m = 3 := by omega
    conv => whnf
    repeat (first | (refine Conf.mk (by kernel_rfl) ?_; conv => whnf) | (refine SeqOk.go ?_; conv => whnf))
    refine BoolCase.yes rfl ?_
    conv => whnf
    repeat (first | (refine Conf.mk (by kernel_rfl) ?_; conv => whnf) | (refine SeqOk.go ?_; conv => whnf))
    refine .look _ _ (isOf_ok c 0 hc (by decide)) rfl rfl ?_
    conv => whnf
    repeat (first | (refine Conf.mk (by kernel_rfl) ?_; conv => whnf) | (refine SeqOk.go ?_; conv => whnf))
    cases hb : bitOf c 0
    · rw [mostGo_off hb] at hgo
      refine BoolCase.no rfl ?_
      conv => whnf
      repeat (first | (refine Conf.mk (by kernel_rfl) ?_; conv => whnf) | (refine SeqOk.go ?_; conv => whnf))
      exact Into.mono (Into.to [] [(9, dInt (0 + 1 : Nat)), (8, dInt g), (0, .dat (.ptr [.int .i64 (t 0 0), .int .i64 (t 0 1), .int .i64 (t 0 2), .int .i64 (t 1 0), .int .i64 (t 1 1), .int .i64 (t 1 2), .int .i64 (t 2 0), .int .i64 (t 2 1), .int .i64 (t 2 2), .int .i64 (t 3 0), .int .i64 (t 3 1), .int .i64 (t 3 2), .int .i64 (t 4 0), .int .i64 (t 4 1), .int .i64 (t 4 2), .int .i64 (t 5 0), .int .i64 (t 5 1), .int .i64 (t 5 2), .int .i64 (t 6 0), .int .i64 (t 6 1), .int .i64 (t 6 2), .int .i64 (t 7 0), .int .i64 (t 7 1), .int .i64 (t 7 2)])), (1, dInt (4 : Nat)), (2, dInt c)] [] (by repeat (first | exact trivial | refine ⟨.same (congrArg dInt (wrap_up (by omega))), ?_⟩ | refine ⟨.same rfl, ?_⟩ | refine ⟨.any _, ?_⟩)) trivial rfl rfl) fun s' h => ⟨2, by omega, 1, g, by omega, hgo, h⟩
    · refine BoolCase.yes rfl ?_
      conv => whnf
      repeat (first | (refine Conf.mk (by kernel_rfl) ?_; conv => whnf) | (refine SeqOk.go ?_; conv => whnf))
      refine .mk 4 rfl (by decide) ?_
      conv => whnf
      repeat (first | (refine Conf.mk (by kernel_rfl) ?_; conv => whnf) | (refine SeqOk.go ?_; conv => whnf))
      refine .mk 0 rfl (by decide) ?_
      conv => whnf
      repeat (first | (refine Conf.mk (by kernel_rfl) ?_; conv => whnf) | (refine SeqOk.go ?_; conv => whnf))
      by_cases h0 : t 4 0 = 0
      · rw [mostGo_nil hb h0] at hgo
        refine BoolCase.yes (by simpa using h0) ?_
        conv => whnf
        repeat (first | (refine Conf.mk (by kernel_rfl) ?_; conv => whnf) | (refine SeqOk.go ?_; conv => whnf))
        subst hQ1
        conv => whnf
        rw [← hgo]
        exact Ret.to rfl
      · rw [mostGo_on hb h0] at hgo
        refine BoolCase.no (by simpa using h0) ?_
        conv => whnf
        repeat (first | (refine Conf.mk (by kernel_rfl) ?_; conv => whnf) | (refine SeqOk.go ?_; conv => whnf))
        refine .mk 4 rfl (by decide) ?_
        conv => whnf
        repeat (first | (refine Conf.mk (by kernel_rfl) ?_; conv => whnf) | (refine SeqOk.go ?_; conv => whnf))
        refine .mk 0 rfl (by decide) ?_
        conv => whnf
        repeat (first | (refine Conf.mk (by kernel_rfl) ?_; conv => whnf) | (refine SeqOk.go ?_; conv => whnf))
        by_cases h2 : g < t 4 0
        · rw [if_pos h2] at hgo
          refine BoolCase.yes (by simpa using h2) ?_
          conv => whnf
          repeat (first | (refine Conf.mk (by kernel_rfl) ?_; conv => whnf) | (refine SeqOk.go ?_; conv => whnf))
          refine .mk 4 rfl (by decide) ?_
          conv => whnf
          repeat (first | (refine Conf.mk (by kernel_rfl) ?_; conv => whnf) | (refine SeqOk.go ?_; conv => whnf))
          refine .mk 0 rfl (by decide) ?_
          conv => whnf
          repeat (first | (refine Conf.mk (by kernel_rfl) ?_; conv => whnf) | (refine SeqOk.go ?_; conv => whnf))
          exact Into.mono (Into.to [] [(9, dInt (0 + 1 : Nat)), (8, dInt (t 4 0)), (0, .dat (.ptr [.int .i64 (t 0 0), .int .i64 (t 0 1), .int .i64 (t 0 2), .int .i64 (t 1 0), .int .i64 (t 1 1), .int .i64 (t 1 2), .int .i64 (t 2 0), .int .i64 (t 2 1), .int .i64 (t 2 2), .int .i64 (t 3 0), .int .i64 (t 3 1), .int .i64 (t 3 2), .int .i64 (t 4 0), .int .i64 (t 4 1), .int .i64 (t 4 2), .int .i64 (t 5 0), .int .i64 (t 5 1), .int .i64 (t 5 2), .int .i64 (t 6 0), .int .i64 (t 6 1), .int .i64 (t 6 2), .int .i64 (t 7 0), .int .i64 (t 7 1), .int .i64 (t 7 2)])), (1, dInt (4 : Nat)), (2, dInt c)] [] (by repeat (first | exact trivial | refine ⟨.same (congrArg dInt (wrap_up (by omega))), ?_⟩ | refine ⟨.same rfl, ?_⟩ | refine ⟨.any _, ?_⟩)) trivial rfl rfl) fun s' h => ⟨2, by omega, 1, (t 4 0), by omega, hgo, h⟩
        · rw [if_neg h2] at hgo
          refine BoolCase.no (by simpa using h2) ?_
          conv => whnf
          repeat (first | (refine Conf.mk (by kernel_rfl) ?_; conv => whnf) | (refine SeqOk.go ?_; conv => whnf))
          exact Into.mono (Into.to [] [(9, dInt (0 + 1 : Nat)), (8, dInt g), (0, .dat (.ptr [.int .i64 (t 0 0), .int .i64 (t 0 1), .int .i64 (t 0 2), .int .i64 (t 1 0), .int .i64 (t 1 1), .int .i64 (t 1 2), .int .i64 (t 2 0), .int .i64 (t 2 1), .int .i64 (t 2 2), .int .i64 (t 3 0), .int .i64 (t 3 1), .int .i64 (t 3 2), .int .i64 (t 4 0), .int .i64 (t 4 1), .int .i64 (t 4 2), .int .i64 (t 5 0), .int .i64 (t 5 1), .int .i64 (t 5 2), .int .i64 (t 6 0), .int .i64 (t 6 1), .int .i64 (t 6 2), .int .i64 (t 7 0), .int .i64 (t 7 1), .int .i64 (t 7 2)])), (1, dInt (4 : Nat)), (2, dInt c)] [] (by repeat (first | exact trivial | refine ⟨.same (congrArg dInt (wrap_up (by omega))), ?_⟩ | refine ⟨.same rfl, ?_⟩ | refine ⟨.any _, ?_⟩)) trivial rfl rfl) fun s' h => ⟨2, by omega, 1, g, by omega, hgo, h⟩
  · obtain rfl : m = 2 := by omega
    conv => whnf
    repeat (first | (refine Conf.mk (by kernel_rfl) ?_; conv => whnf) | (refine SeqOk.go ?_; conv => whnf))
    refine BoolCase.yes rfl ?_
    conv => whnf
    repeat (first | (refine Conf.mk (by kernel_rfl) ?_; conv => whnf) | (refine SeqOk.go ?_; conv => whnf))
    refine .look _ _ (isOf_ok c 1 hc (by decide)) rfl rfl ?_
    conv => whnf
    repeat (first | (refine Conf.mk (by kernel_rfl) ?_; conv => whnf) | (refine SeqOk.go ?_; conv => whnf))
    cases hb : bitOf c 1
    · rw [mostGo_off hb] at hgo
      refine BoolCase.no rfl ?_
      conv => whnf
      repeat (first | (refine Conf.mk (by kernel_rfl) ?_; conv => whnf) | (refine SeqOk.go ?_; conv => whnf))
      exact Into.mono (Into.to [] [(9, dInt (1 + 1 : Nat)), (8, dInt g), (0, .dat (.ptr [.int .i64 (t 0 0), .int .i64 (t 0 1), .int .i64 (t 0 2), .int .i64 (t 1 0), .int .i64 (t 1 1), .int .i64 (t 1 2), .int .i64 (t 2 0), .int .i64 (t 2 1), .int .i64 (t 2 2), .int .i64 (t 3 0), .int .i64 (t 3 1), .int .i64 (t 3 2), .int .i64 (t 4 0), .int .i64 (t 4 1), .int .i64 (t 4 2), .int .i64 (t 5 0), .int .i64 (t 5 1), .int .i64 (t 5 2), .int .i64 (t 6 0), .int .i64 (t 6 1), .int .i64 (t 6 2), .int .i64 (t 7 0), .int .i64 (t 7 1), .int .i64 (t 7 2)])), (1, dInt (4 : Nat)), (2, dInt c)] [] (by repeat (first | exact trivial | refine ⟨.same (congrArg dInt (wrap_up (by omega))), ?_⟩ | refine ⟨.same rfl, ?_⟩ | refine ⟨.any _, ?_⟩)) trivial rfl rfl) fun s' h => ⟨1, by omega, 2, g, by omega, hgo, h⟩
    · refine BoolCase.yes rfl ?_
      conv => whnf
      repeat (first | (refine Conf.mk (by kernel_rfl) ?_; conv => whnf) | (refine SeqOk.go ?_; conv => whnf))
      refine .mk 4 rfl (by decide) ?_
      conv => whnf
      repeat (first | (refine Conf.mk (by kernel_rfl) ?_; conv => whnf) | (refine SeqOk.go ?_; conv => whnf))
      refine .mk 1 rfl (by decide) ?_
      conv => whnf
      repeat (first | (refine Conf.mk (by kernel_rfl) ?_; conv => whnf) | (refine SeqOk.go ?_; conv => whnf))
      by_cases h0 : t 4 1 = 0
      · rw [mostGo_nil hb h0] at hgo
        refine BoolCase.yes (by simpa using h0) ?_
        conv => whnf
        repeat (first | (refine Conf.mk (by kernel_rfl) ?_; conv => whnf) | (refine SeqOk.go ?_; conv => whnf))
        subst hQ1
        conv => whnf
        rw [← hgo]
        exact Ret.to rfl
      · rw [mostGo_on hb h0] at hgo
        refine BoolCase.no (by simpa using h0) ?_
        conv => whnf
        repeat (first | (refine Conf.mk (by kernel_rfl) ?_; conv => whnf) | (refine SeqOk.go ?_; conv => whnf))
        refine .mk 4 rfl (by decide) ?_
        conv => whnf
        repeat (first | (refine Conf.mk (by kernel_rfl) ?_; conv => whnf) | (refine SeqOk.go ?_; conv => whnf))
        refine .mk 1 rfl (by decide) ?_
        conv => whnf
        repeat (first | (refine Conf.mk (by kernel_rfl) ?_; conv => whnf) | (refine SeqOk.go ?_; conv => whnf))
        by_cases h2 : g < t 4 1
        · rw [if_pos h2] at hgo
          refine BoolCase.yes (by simpa using h2) ?_
          conv => whnf
          repeat (first | (refine Conf.mk (by kernel_rfl) ?_; conv => whnf) | (refine SeqOk.go ?_; conv => whnf))
          refine .mk 4 rfl (by decide) ?_
          conv => whnf
          repeat (first | (refine Conf.mk (by kernel_rfl) ?_; conv => whnf) | (refine SeqOk.go ?_; conv => whnf))
          refine .mk 1 rfl (by decide) ?_
          conv => whnf
          repeat (first | (refine Conf.mk (by kernel_rfl) ?_; conv => whnf) | (refine SeqOk.go ?_; conv => whnf))
          exact Into.mono (Into.to [] [(9, dInt (1 + 1 : Nat)), (8, dInt (t 4 1)), (0, .dat (.ptr [.int .i64 (t 0 0), .int .i64 (t 0 1), .int .i64 (t 0 2), .int .i64 (t 1 0), .int .i64 (t 1 1), .int .i64 (t 1 2), .int .i64 (t 2 0), .int .i64 (t 2 1), .int .i64 (t 2 2), .int .i64 (t 3 0), .int .i64 (t 3 1), .int .i64 (t 3 2), .int .i64 (t 4 0), .int .i64 (t 4 1), .int .i64 (t 4 2), .int .i64 (t 5 0), .int .i64 (t 5 1), .int .i64 (t 5 2), .int .i64 (t 6 0), .int .i64 (t 6 1), .int .i64 (t 6 2), .int .i64 (t 7 0), .int .i64 (t 7 1), .int .i64 (t 7 2)])), (1, dInt (4 : Nat)), (2, dInt c)] [] (by repeat (first | exact trivial | refine ⟨.same (congrArg dInt (wrap_up (by omega))), ?_⟩ | refine ⟨.same rfl, ?_⟩ | refine ⟨.any _, ?_⟩)) trivial rfl rfl) fun s' h => ⟨1, by omega, 2, (t 4 1), by omega, hgo, h⟩
        · rw [if_neg h2] at hgo
          refine BoolCase.no (by simpa using h2) ?_
          conv => whnf
          repeat (first | (refine Conf.mk (by kernel_rfl) ?_; conv => whnf) | (refine SeqOk.go ?_; conv => whnf))
          exact Into.mono (Into.to [] [(9, dInt (1 + 1 : Nat)), (8, dInt g), (0, .dat (.ptr [.int .i64 (t 0 0), .int .i64 (t 0 1), .int .i64 (t 0 2), .int .i64 (t 1 0), .int .i64 (t 1 1), .int .i64 (t 1 2), .int .i64 (t 2 0), .int .i64 (t 2 1), .int .i64 (t 2 2), .int .i64 (t 3 0), .int .i64 (t 3 1), .int .i64 (t 3 2), .int .i64 (t 4 0), .int .i64 (t 4 1), .int .i64 (t 4 2), .int .i64 (t 5 0), .int .i64 (t 5 1), .int .i64 (t 5 2), .int .i64 (t 6 0), .int .i64 (t 6 1), .int .i64 (t 6 2), .int .i64 (t 7 0), .int .i64 (t 7 1), .int .i64 (t 7 2)])), (1, dInt (4 : Nat)), (2, dInt c)] [] (by repeat (first | exact trivial | refine ⟨.same (congrArg dInt (wrap_up (by omega))), ?_⟩ | refine ⟨.same rfl, ?_⟩ | refine ⟨.any _, ?_⟩)) trivial rfl rfl) fun s' h => ⟨1, by omega, 2, g, by omega, hgo, h⟩
  · obtain rfl : m = 1 := by omega
    conv => whnf
    repeat (first | (refine Conf.mk (by kernel_rfl) ?_; conv => whnf) | (refine SeqOk.go ?_; conv => whnf))
    refine BoolCase.yes rfl ?_
    conv => whnf
    repeat (first | (refine Conf.mk (by kernel_rfl) ?_; conv => whnf) | (refine SeqOk.go ?_; conv => whnf))
    refine .look _ _ (isOf_ok c 2 hc (by decide)) rfl rfl ?_
    conv => whnf
    repeat (first | (refine Conf.mk (by kernel_rfl) ?_; conv => whnf) | (refine SeqOk.go ?_; conv => whnf))
    cases hb : bitOf c 2
    · rw [mostGo_off hb] at hgo
      refine BoolCase.no rfl ?_
      conv => whnf
      repeat (first | (refine Conf.mk (by kernel_rfl) ?_; conv => whnf) | (refine SeqOk.go ?_; conv => whnf))
      exact Into.mono (Into.to [] [(9, dInt (2 + 1 : Nat)), (8, dInt g), (0, .dat (.ptr [.int .i64 (t 0 0), .int .i64 (t 0 1), .int .i64 (t 0 2), .int .i64 (t 1 0), .int .i64 (t 1 1), .int .i64 (t 1 2), .int .i64 (t 2 0), .int .i64 (t 2 1), .int .i64 (t 2 2), .int .i64 (t 3 0), .int .i64 (t 3 1), .int .i64 (t 3 2), .int .i64 (t 4 0), .int .i64 (t 4 1), .int .i64 (t 4 2), .int .i64 (t 5 0), .int .i64 (t 5 1), .int .i64 (t 5 2), .int .i64 (t 6 0), .int .i64 (t 6 1), .int .i64 (t 6 2), .int .i64 (t 7 0), .int .i64 (t 7 1), .int .i64 (t 7 2)])), (1, dInt (4 : Nat)), (2, dInt c)] [] (by repeat (first | exact trivial | refine ⟨.same (congrArg dInt (wrap_up (by omega))), ?_⟩ | refine ⟨.same rfl, ?_⟩ | refine ⟨.any _, ?_⟩)) trivial rfl rfl) fun s' h => ⟨0, by omega, 3, g, by omega, hgo, h⟩
    · refine BoolCase.yes rfl ?_
      conv => whnf
      repeat (first | (refine Conf.mk (by kernel_rfl) ?_; conv => whnf) | (refine SeqOk.go ?_; conv => whnf))
      refine .mk 4 rfl (by decide) ?_
      conv => whnf
      repeat (first | (refine Conf.mk (by kernel_rfl) ?_; conv => whnf) | (refine SeqOk.go ?_; conv => whnf))
      refine .mk 2 rfl (by decide) ?_
      conv => whnf
      repeat (first | (refine Conf.mk (by kernel_rfl) ?_; conv => whnf) | (refine SeqOk.go ?_; conv => whnf))
      by_cases h0 : t 4 2 = 0
      · rw [mostGo_nil hb h0] at hgo
        refine BoolCase.yes (by simpa using h0) ?_
        conv => whnf
        repeat (first | (refine Conf.mk (by kernel_rfl) ?_; conv => whnf) | (refine SeqOk.go ?_; conv => whnf))
        subst hQ1
        conv => whnf
        rw [← hgo]
        exact Ret.to rfl
      · rw [mostGo_on hb h0] at hgo
        refine BoolCase.no (by simpa using h0) ?_
        conv => whnf
        repeat (first | (refine Conf.mk (by kernel_rfl) ?_; conv => whnf) | (refine SeqOk.go ?_; conv => whnf))
        refine .mk 4 rfl (by decide) ?_
        conv => whnf
        repeat (first | (refine Conf.mk (by kernel_rfl) ?_; conv => whnf) | (refine SeqOk.go ?_; conv => whnf))
        refine .mk 2 rfl (by decide) ?_
        conv => whnf
        repeat (first | (refine Conf.mk (by kernel_rfl) ?_; conv => whnf) | (refine SeqOk.go ?_; conv => whnf))
        by_cases h2 : g < t 4 2
        · rw [if_pos h2] at hgo
          refine BoolCase.yes (by simpa using h2) ?_
          conv => whnf
          repeat (first | (refine Conf.mk (by kernel_rfl) ?_; conv => whnf) | (refine SeqOk.go ?_; conv => whnf))
          refine .mk 4 rfl (by decide) ?_
          conv => whnf
          repeat (first | (refine Conf.mk (by kernel_rfl) ?_; conv => whnf) | (refine SeqOk.go ?_; conv => whnf))
          refine .mk 2 rfl (by decide) ?_
          conv => whnf
          repeat (first | (refine Conf.mk (by kernel_rfl) ?_; conv => whnf) | (refine SeqOk.go ?_; conv => whnf))
          exact Into.mono (Into.to [] [(9, dInt (2 + 1 : Nat)), (8, dInt (t 4 2)), (0, .dat (.ptr [.int .i64 (t 0 0), .int .i64 (t 0 1), .int .i64 (t 0 2), .int .i64 (t 1 0), .int .i64 (t 1 1), .int .i64 (t 1 2), .int .i64 (t 2 0), .int .i64 (t 2 1), .int .i64 (t 2 2), .int .i64 (t 3 0), .int .i64 (t 3 1), .int .i64 (t 3 2), .int .i64 (t 4 0), .int .i64 (t 4 1), .int .i64 (t 4 2), .int .i64 (t 5 0), .int .i64 (t 5 1), .int .i64 (t 5 2), .int .i64 (t 6 0), .int .i64 (t 6 1), .int .i64 (t 6 2), .int .i64 (t 7 0), .int .i64 (t 7 1), .int .i64 (t 7 2)])), (1, dInt (4 : Nat)), (2, dInt c)] [] (by repeat (first | exact trivial | refine ⟨.same (congrArg dInt (wrap_up (by omega))), ?_⟩ | refine ⟨.same rfl, ?_⟩ | refine ⟨.any _, ?_⟩)) trivial rfl rfl) fun s' h => ⟨0, by omega, 3, (t 4 2), by omega, hgo, h⟩
        · rw [if_neg h2] at hgo
          refine BoolCase.no (by simpa using h2) ?_
          conv => whnf
          repeat (first | (refine Conf.mk (by kernel_rfl) ?_; conv => whnf) | (refine SeqOk.go ?_; conv => whnf))
          exact Into.mono (Into.to [] [(9, dInt (2 + 1 : Nat)), (8, dInt g), (0, .dat (.ptr [.int .i64 (t 0 0), .int .i64 (t 0 1), .int .i64 (t 0 2), .int .i64 (t 1 0), .int .i64 (t 1 1), .int .i64 (t 1 2), .int .i64 (t 2 0), .int .i64 (t 2 1), .int .i64 (t 2 2), .int .i64 (t 3 0), .int .i64 (t 3 1), .int .i64 (t 3 2), .int .i64 (t 4 0), .int .i64 (t 4 1), .int .i64 (t 4 2), .int .i64 (t 5 0), .int .i64 (t 5 1), .int .i64 (t 5 2), .int .i64 (t 6 0), .int .i64 (t 6 1), .int .i64 (t 6 2), .int .i64 (t 7 0), .int .i64 (t 7 1), .int .i64 (t 7 2)])), (1, dInt (4 : Nat)), (2, dInt c)] [] (by repeat (first | exact trivial | refine ⟨.same (congrArg dInt (wrap_up (by omega))), ?_⟩ | refine ⟨.same rfl, ?_⟩ | refine ⟨.any _, ?_⟩)) trivial rfl rfl) fun s' h => ⟨0, by omega, 3, g, by omega, hgo, h⟩
  · obtain rfl : m = 0 := by omega
    conv => whnf
    repeat (first | (refine Conf.mk (by kernel_rfl) ?_; conv => whnf) | (refine SeqOk.go ?_; conv => whnf))
    refine BoolCase.no rfl ?_
    conv => whnf
    repeat (first | (refine Conf.mk (by kernel_rfl) ?_; conv => whnf) | (refine SeqOk.go ?_; conv => whnf))
    subst hQ1
    conv => whnf
    rw [mostGo_end] at hgo
    rw [← hgo]
    exact Ret.to rfl
set_option maxHeartbeats 0 in
theorem most5_ok (t : Tb) (c : Int) (hc : 1 ≤ c ∧ c ≤ 7) : PCall Try.prog 31 [.dat (.ptr [.int .i64 (t 0 0), .int .i64 (t 0 1), .int .i64 (t 0 2), .int .i64 (t 1 0), .int .i64 (t 1 1), .int .i64 (t 1 2), .int .i64 (t 2 0), .int .i64 (t 2 1), .int .i64 (t 2 2), .int .i64 (t 3 0), .int .i64 (t 3 1), .int .i64 (t 3 2), .int .i64 (t 4 0), .int .i64 (t 4 1), .int .i64 (t 4 2), .int .i64 (t 5 0), .int .i64 (t 5 1), .int .i64 (t 5 2), .int .i64 (t 6 0), .int .i64 (t 6 1), .int .i64 (t 6 2), .int .i64 (t 7 0), .int .i64 (t 7 1), .int .i64 (t 7 2)]), dInt (5 : Nat), dInt c] (.tup [dInt (mostV c (t 5)).1, dBool (mostV c (t 5)).2]) := by
  refine pcall_cut tab_all tab_mixed Try.func31 (by kernel_rfl) Try.ntmps31 rfl ?_
  conv => whnf
  conv => whnf
  repeat (first | (refine Conf.mk (by kernel_rfl) ?_; conv => whnf) | (refine SeqOk.go ?_; conv => whnf))
  refine LoopOk.hide fun Q1 hQ1 => ?_
  refine LoopOk.mk (fun m s => ∃ (i : Nat) (g : Int), i + m = 3 ∧ mostGo c (t 5) m i g = mostV c (t 5) ∧ s = ⟨[(9, dInt (i : Nat)), (8, dInt g), (0, .dat (.ptr [.int .i64 (t 0 0), .int .i64 (t 0 1), .int .i64 (t 0 2), .int .i64 (t 1 0), .int .i64 (t 1 1), .int .i64 (t 1 2), .int .i64 (t 2 0), .int .i64 (t 2 1), .int .i64 (t 2 2), .int .i64 (t 3 0), .int .i64 (t 3 1), .int .i64 (t 3 2), .int .i64 (t 4 0), .int .i64 (t 4 1), .int .i64 (t 4 2), .int .i64 (t 5 0), .int .i64 (t 5 1), .int .i64 (t 5 2), .int .i64 (t 6 0), .int .i64 (t 6 1), .int .i64 (t 6 2), .int .i64 (t 7 0), .int .i64 (t 7 1), .int .i64 (t 7 2)])), (1, dInt (5 : Nat)), (2, dInt c)], 0, []⟩) 3 (Into.mono (Into.to [] [(9, dInt (0 : Nat)), (8, dInt 0), (0, .dat (.ptr [.int .i64 (t 0 0), .int .i64 (t 0 1), .int .i64 (t 0 2), .int .i64 (t 1 0), .int .i64 (t 1 1), .int .i64 (t 1 2), .int .i64 (t 2 0), .int .i64 (t 2 1), .int .i64 (t 2 2), .int .i64 (t 3 0), .int .i64 (t 3 1), .int .i64 (t 3 2), .int .i64 (t 4 0), .int .i64 (t 4 1), .int .i64 (t 4 2), .int .i64 (t 5 0), .int .i64 (t 5 1), .int .i64 (t 5 2), .int .i64 (t 6 0), .int .i64 (t 6 1), .int .i64 (t 6 2), .int .i64 (t 7 0), .int .i64 (t 7 1), .int .i64 (t 7 2)])), (1, dInt (5 : Nat)), (2, dInt c)] [] (by repeat (first | exact trivial | refine ⟨.same (congrArg dInt (wrap_up (by omega))), ?_⟩ | refine ⟨.same rfl, ?_⟩ | refine ⟨.any _, ?_⟩)) trivial rfl rfl) fun s' h => ⟨0, 0, by omega, rfl, h⟩) ?_
  rintro m s ⟨i, g, him, hgo, rfl⟩
  have hi : i = 0 ∨ i = 1 ∨ i = 2 ∨ i = 3 := by omega
  rcases hi with rfl | rfl | rfl | rfl
  · obtain rfl : m = 3 := by omega
    conv => whnf
    repeat (first | (refine Conf.mk (by kernel_rfl) ?_; conv => whnf) | (refine SeqOk.go ?_; conv => whnf))
    refine BoolCase.yes rfl ?_
    conv => whnf
    repeat (first | (refine Conf.mk (by kernel_rfl) ?_; conv => whnf) | (refine SeqOk.go ?_; conv => whnf))
    refine .look _ _ (isOf_ok c 0 hc (by decide)) rfl rfl ?_
    conv => whnf
    repeat (first | (refine Conf.mk (by kernel_rfl) ?_; conv => whnf) | (refine SeqOk.go ?_; conv => whnf))
    cases hb : bitOf c 0
    · rw [mostGo_off hb] at hgo
      refine BoolCase.no rfl ?_
      conv => whnf
      repeat (first | (refine Conf.mk (by kernel_rfl) ?_; conv => whnf) | (refine SeqOk.go ?_; conv => whnf))
      exact Into.mono (Into.to [] [(9, dInt (0 + 1 : Nat)), (8, dInt g), (0, .dat (.ptr [.int .i64 (t 0 0), .int .i64 (t 0 1), .int .i64 (t 0 2), .int .i64 (t 1 0), .int .i64 (t 1 1), .int .i64 (t 1 2), .int .i64 (t 2 0), .int .i64 (t 2 1), .int .i64 (t 2 2), .int .i64 (t 3 0), .int .i64 (t 3 1), .int .i64 (t 3 2), .int .i64 (t 4 0), .int .i64 (t 4 1), .int .i64 (t 4 2), .int .i64 (t 5 0), .int .i64 (t 5 1), .int .i64 (t 5 2), .int .i64 (t 6 0), .int .i64 (t 6 1), .int .i64 (t 6 2), .int .i64 (t 7 0), .int .i64 (t 7 1), .int .i64 (t 7 2)])), (1, dInt (5 : Nat)), (2, dInt c)] [] (by repeat (first | exact trivial | refine ⟨.same (congrArg dInt (wrap_up (by omega))), ?_⟩ | refine ⟨.same rfl, ?_⟩ | refine ⟨.any _, ?_⟩)) trivial rfl rfl) fun s' h => ⟨2, by omega, 1, g, by omega, hgo, h⟩
    · refine BoolCase.yes rfl ?_
      conv => whnf
      repeat (first | (refine Conf.mk (by kernel_rfl) ?_; conv => whnf) | (refine SeqOk.go ?_; conv => whnf))
      refine .mk 5 rfl (by decide) ?_
      conv => whnf
      repeat (first | (refine Conf.mk (by kernel_rfl) ?_; conv => whnf) | (refine SeqOk.go ?_; conv => whnf))
      refine .mk 0 rfl (by decide) ?_
      conv => whnf
      repeat (first | (refine Conf.mk (by kernel_rfl) ?_; conv => whnf) | (refine SeqOk.go ?_; conv => whnf))
      by_cases h0 : t 5 0 = 0
      · rw [mostGo_nil hb h0] at hgo
        refine BoolCase.yes (by simpa using h0) ?_
        conv => whnf
        repeat (first | (refine Conf.mk (by kernel_rfl) ?_; conv => whnf) | (refine SeqOk.go ?_; conv => whnf))
        subst hQ1
        conv => whnf
        rw [← hgo]
        exact Ret.to rfl
      · rw [mostGo_on hb h0] at hgo
        refine BoolCase.no (by simpa using h0) ?_
        conv => whnf
        repeat (first | (refine Conf.mk (by kernel_rfl) ?_; conv => whnf) | (refine SeqOk.go ?_; conv => whnf))
        refine .mk 5 rfl (by decide) ?_
        conv => whnf
        repeat (first | (refine Conf.mk (by kernel_rfl) ?_; conv => whnf) | (refine SeqOk.go ?_; conv => whnf))
        refine .mk 0 rfl (by decide) ?_
        conv => whnf
        repeat (first | (refine Conf.mk (by kernel_rfl) ?_; conv => whnf) | (refine SeqOk.go ?_; conv => whnf))
        by_cases h2 : g < t 5 0
        · rw [if_pos h2] at hgo
          refine BoolCase.yes (by simpa using h2) ?_
          conv => whnf
          repeat (first | (refine Conf.mk (by kernel_rfl) ?_; conv => whnf) | (refine SeqOk.go ?_; conv => whnf))
          refine .mk 5 rfl (by decide) ?_
          conv => whnf
          repeat (first | (refine Conf.mk (by kernel_rfl) ?_; conv => whnf) | (refine SeqOk.go ?_; conv => whnf))
          refine .mk 0 rfl (by decide) ?_
          conv => whnf
          repeat (first | (refine Conf.mk (by kernel_rfl) ?_; conv => whnf) | (refine SeqOk.go ?_; conv => whnf))
          exact Into.mono (Into.to [] [(9, dInt (0 + 1 : Nat)), (8, dInt (t 5 0)), (0, .dat (.ptr [.int .i64 (t 0 0), .int .i64 (t 0 1), .int .i64 (t 0 2), .int .i64 (t 1 0), .int .i64 (t 1 1), .int .i64 (t 1 2), .int .i64 (t 2 0), .int .i64 (t 2 1), .int .i64 (t 2 2), .int .i64 (t 3 0), .int .i64 (t 3 1), .int .i64 (t 3 2), .int .i64 (t 4 0), .int .i64 (t 4 1), .int .i64 (t 4 2), .int .i64 (t 5 0), .int .i64 (t 5 1), .int .i64 (t 5 2), .int .i64 (t 6 0), .int .i64 (t 6 1), .int .i64 (t 6 2), .int .i64 (t 7 0), .int .i64 (t 7 1), .int .i64 (t 7 2)])), (1, dInt (5 : Nat)), (2, dInt c)] [] (by repeat (first | exact trivial | refine ⟨.same (congrArg dInt (wrap_up (by omega))), ?_⟩ | refine ⟨.same rfl, ?_⟩ | refine ⟨.any _, ?_⟩)) trivial rfl rfl) fun s' h => ⟨2, by omega, 1, (t 5 0), by omega, hgo, h⟩
        · rw [if_neg h2] at hgo
          refine BoolCase.no (by simpa using h2) ?_
          conv => whnf
          repeat (first | (refine Conf.mk (by kernel_rfl) ?_; conv => whnf) | (refine SeqOk.go ?_; conv => whnf))
          exact Into.mono (Into.to [] [(9, dInt (0 + 1 : Nat)), (8, dInt g), (0, .dat (.ptr [.int .i64 (t 0 0), .int .i64 (t 0 1), .int .i64 (t 0 2), .int .i64 (t 1 0), .int .i64 (t 1 1), .int .i64 (t 1 2), .int .i64 (t 2 0), .int .i64 (t 2 1), .int .i64 (t 2 2), .int .i64 (t 3 0), .int .i64 (t 3 1), .int .i64 (t 3 2), .int .i64 (t 4 0), .int .i64 (t 4 1), .int .i64 (t 4 2), .int .i64 (t 5 0), .int .i64 (t 5 1), .int .i64 (t 5 2), .int .i64 (t 6 0), .int .i64 (t 6 1), .int .i64 (t 6 2), .int .i64 (t 7 0), .int .i64 (t 7 1), .int .i64 (t 7 2)])), (1, dInt (5 : Nat)), (2, dInt c)] [] (by repeat (first | exact trivial | refine ⟨.same (congrArg dInt (wrap_up (by omega))), ?_⟩ | refine ⟨.same rfl, ?_⟩ | refine ⟨.any _, ?_⟩)) trivial rfl rfl) fun s' h => ⟨2, by omega, 1, g, by omega, hgo, h⟩
  · obtain rfl : m = 2 := by omega
    conv => whnf
    repeat (first | (refine Conf.mk (by kernel_rfl) ?_; conv => whnf) | (refine SeqOk.go ?_; conv => whnf))
    refine BoolCase.yes rfl ?_
    conv => whnf
    repeat (first | (refine Conf.mk (by kernel_rfl) ?_; conv => whnf) | (refine SeqOk.go ?_; conv => whnf))
    refine .look _ _ (isOf_ok c 1 hc (by decide)) rfl rfl ?_
    conv => whnf
    repeat (first | (refine Conf.mk (by kernel_rfl) ?_; conv => whnf) | (refine SeqOk.go ?_; conv => whnf))
    cases hb : bitOf c 1
    · rw [mostGo_off hb] at hgo
      refine BoolCase.no rfl ?_
      conv => whnf
      repeat (first | (refine Conf.mk (by kernel_rfl) ?_; conv => whnf) | (refine SeqOk.go ?_; conv => whnf))
      exact Into.mono (Into.to [] [(9, dInt (1 + 1 : Nat)), (8, dInt g), (0, .dat (.ptr [.int .i64 (t 0 0), .int .i64 (t 0 1), .int .i64 (t 0 2), .int .i64 (t 1 0), .int .i64 (t 1 1), .int .i64 (t 1 2), .int .i64 (t 2 0), .int .i64 (t 2 1), .int .i64 (t 2 2), .int .i64 (t 3 0), .int .i64 (t 3 1), .int .i64 (t 3 2), .int .i64 (t 4 0), .int .i64 (t 4 1), .int .i64 (t 4 2), .int .i64 (t 5 0), .int .i64 (t 5 1), .int .i64 (t 5 2), .int .i64 (t 6 0), .int .i64 (t 6 1), .int .i64 (t 6 2), .int .i64 (t 7 0), .int .i64 (t 7 1), .int .i64 (t 7 2)])), (1, dInt (5 : Nat)), (2, dInt c)] [] (by repeat (first | exact trivial | refine ⟨.same (congrArg dInt (wrap_up (by omega))), ?_⟩ | refine ⟨.same rfl, ?_⟩ | refine ⟨.any _, ?_⟩)) trivial rfl rfl) fun s' h => ⟨1, by omega, 2, g, by omega, hgo, h⟩
    · refine BoolCase.yes rfl ?_
      conv => whnf
      repeat (first | (refine Conf.mk (by kernel_rfl) ?_; conv => whnf) | (refine SeqOk.go ?_; conv => whnf))
      refine .mk 5 rfl (by decide) ?_
      conv => whnf
      repeat (first | (refine Conf.mk (by kernel_rfl) ?_; conv => whnf) | (refine SeqOk.go ?_; conv => whnf))
      refine .mk 1 rfl (by decide) ?_
      conv => whnf
      repeat (first | (refine Conf.mk (by kernel_rfl) ?_; conv => whnf) | (refine SeqOk.go ?_; conv => whnf))
      by_cases h0 : t 5 1 = 0
      · rw [mostGo_nil hb h0] at hgo
        refine BoolCase.yes (by simpa using h0) ?_
        conv => whnf
        repeat (first | (refine Conf.mk (by kernel_rfl) ?_; conv => whnf) | (refine SeqOk.go ?_; conv => whnf))
        subst hQ1
        conv => whnf
        rw [← hgo]
        exact Ret.to rfl
      · rw [mostGo_on hb h0] at hgo
        refine BoolCase.no (by simpa using h0) ?_
        conv => whnf
        repeat (first | (refine Conf.mk (by kernel_rfl) ?_; conv => whnf) | (refine SeqOk.go ?_; conv => whnf))
        refine .mk 5 rfl (by decide) ?_
        conv => whnf
        repeat (first | (refine Conf.mk (by kernel_rfl) ?_; conv => whnf) | (refine SeqOk.go ?_; conv => whnf))
        refine .mk 1 rfl (by decide) ?_
        conv => whnf
        repeat (first | (refine Conf.mk (by kernel_rfl) ?_; conv => whnf) | (refine SeqOk.go ?_; conv => whnf))
        by_cases h2 : g < t 5 1
        · rw [if_pos h2] at hgo
          refine BoolCase.yes (by simpa using h2) ?_
          conv => whnf
          repeat (first | (refine Conf.mk (by kernel_rfl) ?_; conv => whnf) | (refine SeqOk.go ?_; conv => whnf))
          refine .mk 5 rfl (by decide) ?_
          conv => whnf
          repeat (first | (refine Conf.mk (by kernel_rfl) ?_; conv => whnf) | (refine SeqOk.go ?_; conv => whnf))
          refine .mk 1 rfl (by decide) ?_
          conv => whnf
          repeat (first | (refine Conf.mk (by kernel_rfl) ?_; conv => whnf) | (refine SeqOk.go ?_; conv => whnf))
          exact Into.mono (Into.to [] [(9, dInt (1 + 1 : Nat)), (8, dInt (t 5 1)), (0, .dat (.ptr [.int .i64 (t 0 0), .int .i64 (t 0 1), .int .i64 (t 0 2), .int .i64 (t 1 0), .int .i64 (t 1 1), .int .i64 (t 1 2), .int .i64 (t 2 0), .int .i64 (t 2 1), .int .i64 (t 2 2), .int .i64 (t 3 0), .int .i64 (t 3 1), .int .i64 (t 3 2), .int .i64 (t 4 0), .int .i64 (t 4 1), .int .i64 (t 4 2), .int .i64 (t 5 0), .int .i64 (t 5 1), .int .i64 (t 5 2), .int .i64 (t 6 0), .int .i64 (t 6 1), .int .i64 (t 6 2), .int .i64 (t 7 0), .int .i64 (t 7 1), .int .i64 (t 7 2)])), (1, dInt (5 : Nat)), (2, dInt c)] [] (by repeat (first | exact trivial | refine ⟨.same (congrArg dInt (wrap_up (by omega))), ?_⟩ | refine ⟨.same rfl, ?_⟩ | refine ⟨.any _, ?_⟩)) trivial rfl rfl) fun s' h => ⟨1, by omega, 2, (t 5 1), by omega, hgo, h⟩
        · rw [if_neg h2] at hgo
          refine BoolCase.no (by simpa using h2) ?_
          conv => whnf
          repeat (first | (refine Conf.mk (by kernel_rfl) ?_; conv => whnf) | (refine SeqOk.go ?_; conv => whnf))
          exact Into.mono (Into.to [] [(9, dInt (1 + 1 : Nat)), (8, dInt g), (0, .dat (.ptr [.int .i64 (t 0 0), .int .i64 (t 0 1), .int .i64 (t 0 2), .int .i64 (t 1 0), .int .i64 (t 1 1), .int .i64 (t 1 2), .int .i64 (t 2 0), .int .i64 (t 2 1), .int .i64 (t 2 2), .int .i64 (t 3 0), .int .i64 (t 3 1), .int .i64 (t 3 2), .int .i64 (t 4 0), .int .i64 (t 4 1), .int .i64 (t 4 2), .int .i64 (t 5 0), .int .i64 (t 5 1), .int .i64 (t 5 2), .int .i64 (t 6 0), .int .i64 (t 6 1), .int .i64 (t 6 2), .int .i64 (t 7 0), .int .i64 (t 7 1), .int .i64 (t 7 2)])), (1, dInt (5 : Nat)), (2, dInt c)] [] (by repeat (first | exact trivial | refine ⟨.same (congrArg dInt (wrap_up (by omega))), ?_⟩ | refine ⟨.same rfl, ?_⟩ | refine ⟨.any _, ?_⟩)) trivial rfl rfl) fun s' h => ⟨1, by omega, 2, g, by omega, hgo, h⟩
  · obtain rfl : m = 1 := by omega
    conv => whnf
    repeat (first | (refine Conf.mk (by kernel_rfl) ?_; conv => whnf) | (refine SeqOk.go ?_; conv => whnf))
    refine BoolCase.yes rfl ?_
    conv => whnf
    repeat (first | (refine Conf.mk (by kernel_rfl) ?_; conv => whnf) | (refine SeqOk.go ?_; conv => whnf))
    refine .look _ _ (isOf_ok c 2 hc (by decide)) rfl rfl ?_
    conv => whnf
    repeat (first | (refine Conf.mk (by kernel_rfl) ?_; conv => whnf) | (refine SeqOk.go ?_; conv => whnf))
    cases hb : bitOf c 2
    · rw [mostGo_off hb] at hgo
      refine BoolCase.no rfl ?_
      conv => whnf
      repeat (first | (refine Conf.mk (by kernel_rfl) ?_; conv => whnf) | (refine SeqOk.go ?_; conv => whnf))
      exact Into.mono (Into.to [] [(9, dInt (2 + 1 : Nat)), (8, dInt g), (0, .dat (.ptr [.int .i64 (t 0 0), .int .i64 (t 0 1), .int .i64 (t 0 2), .int .i64 (t 1 0), .int .i64 (t 1 1), .int .i64 (t 1 2), .int .i64 (t 2 0), .int .i64 (t 2 1), .int .i64 (t 2 2), .int .i64 (t 3 0), .int .i64 (t 3 1), .int .i64 (t 3 2), .int .i64 (t 4 0), .int .i64 (t 4 1), .int .i64 (t 4 2), .int .i64 (t 5 0), .int .i64 (t 5 1), .int .i64 (t 5 2), .int .i64 (t 6 0), .int .i64 (t 6 1), .int .i64 (t 6 2), .int .i64 (t 7 0), .int .i64 (t 7 1), .int .i64 (t 7 2)])), (1, dInt (5 : Nat)), (2, dInt c)] [] (by repeat (first | exact trivial | refine ⟨.same (congrArg dInt (wrap_up (by omega))), ?_⟩ | refine ⟨.same rfl, ?_⟩ | refine ⟨.any _, ?_⟩)) trivial rfl rfl) fun s' h => ⟨0, by omega, 3, g, by omega, hgo, h⟩
    · refine BoolCase.yes rfl ?_
      conv => whnf
      repeat (first | (refine Conf.mk (by kernel_rfl) ?_; conv => whnf) | (refine SeqOk.go ?_; conv => whnf))
      refine .mk 5 rfl (by decide) ?_
      conv => whnf
      repeat (first | (refine Conf.mk (by kernel_rfl) ?_; conv => whnf) | (refine SeqOk.go ?_; conv => whnf))
      refine .mk 2 rfl (by decide) ?_
      conv => whnf
      repeat (first | (refine Conf.mk (by kernel_rfl) ?_; conv => whnf) | (refine SeqOk.go ?_; conv => whnf))
      by_cases h0 : t 5 2 = 0
      · rw [mostGo_nil hb h0] at hgo
        refine BoolCase.yes (by simpa using h0) ?_
        conv => whnf
        repeat (first | (refine Conf.mk (by kernel_rfl) ?_; conv => whnf) | (refine SeqOk.go ?_; conv => whnf))
        subst hQ1
        conv => whnf
        rw [← hgo]
        exact Ret.to rfl
      · rw [mostGo_on hb h0] at hgo
        refine BoolCase.no (by simpa using h0) ?_
        conv => whnf
        repeat (first | (refine Conf.mk (by kernel_rfl) ?_; conv => whnf) | (refine SeqOk.go ?_; conv => whnf))
        refine .mk 5 rfl (by decide) ?_
        conv => whnf
        repeat (first | (refine Conf.mk (by kernel_rfl) ?_; conv => whnf) | (refine SeqOk.go ?_; conv => whnf))
        refine .mk 2 rfl (by decide) ?_
        conv => whnf
        repeat (first | (refine Conf.mk (by kernel_rfl) ?_; conv => whnf) | (refine SeqOk.go ?_; conv => whnf))
        by_cases h2 : g < t 5 2
        · rw [if_pos h2] at hgo
          refine BoolCase.yes (by simpa using h2) ?_
          conv => whnf
          repeat (first | (refine Conf.mk (by kernel_rfl) ?_; conv => whnf) | (refine SeqOk.go ?_; conv => whnf))
          refine .mk 5 rfl (by decide) ?_
          conv => whnf
          repeat (first | (refine Conf.mk (by kernel_rfl) ?_; conv => whnf) | (refine SeqOk.go ?_; conv => whnf))
          refine .mk 2 rfl (by decide) ?_
          conv => whnf
          repeat (first | (refine Conf.mk (by kernel_rfl) ?_; conv => whnf) | (refine SeqOk.go ?_; conv => whnf))
          exact Into.mono (Into.to [] [(9, dInt (2 + 1 : Nat)), (8, dInt (t 5 2)), (0, .dat (.ptr [.int .i64 (t 0 0), .int .i64 (t 0 1), .int .i64 (t 0 2), .int .i64 (t 1 0), .int .i64 (t 1 1), .int .i64 (t 1 2), .int .i64 (t 2 0), .int .i64 (t 2 1), .int .i64 (t 2 2), .int .i64 (t 3 0), .int .i64 (t 3 1), .int .i64 (t 3 2), .int .i64 (t 4 0), .int .i64 (t 4 1), .int .i64 (t 4 2), .int .i64 (t 5 0), .int .i64 (t 5 1), .int .i64 (t 5 2), .int .i64 (t 6 0), .int .i64 (t 6 1), .int .i64 (t 6 2), .int .i64 (t 7 0), .int .i64 (t 7 1), .int .i64 (t 7 2)])), (1, dInt (5 : Nat)), (2, dInt c)] [] (by repeat (first | exact trivial | refine ⟨.same (congrArg dInt (wrap_up (by omega))), ?_⟩ | refine ⟨.same rfl, ?_⟩ | refine ⟨.any _, ?_⟩)) trivial rfl rfl) fun s' h => ⟨0, by omega, 3, (t 5 2), by omega, hgo, h⟩
        · rw [if_neg h2] at hgo
          refine BoolCase.no (by simpa using h2) ?_
          conv => whnf
          repeat (first | (refine Conf.mk (by kernel_rfl) ?_; conv => whnf) | (refine SeqOk.go ?_; conv => whnf))
          exact Into.mono (Into.to [] [(9, dInt (2 + 1 : Nat)), (8, dInt g), (0, .dat (.ptr [.int .i64 (t 0 0), .int .i64 (t 0 1), .int .i64 (t 0 2), .int .i64 (t 1 0), .int .i64 (t 1 1), .int .i64 (t 1 2), .int .i64 (t 2 0), .int .i64 (t 2 1), .int .i64 (t 2 2), .int .i64 (t 3 0), .int .i64 (t 3 1), .int .i64 (t 3 2), .int .i64 (t 4 0), .int .i64 (t 4 1), .int .i64 (t 4 2), .int .i64 (t 5 0), .int .i64 (t 5 1), .int .i64 (t 5 2), .int .i64 (t 6 0), .int .i64 (t 6 1), .int .i64 (t 6 2), .int .i64 (t 7 0), .int .i64 (t 7 1), .int .i64 (t 7 2)])), (1, dInt (5 : Nat)), (2, dInt c)] [] (by repeat (first | exact trivial | refine ⟨.same (congrArg dInt (wrap_up (by omega))), ?_⟩ | refine ⟨.same rfl, ?_⟩ | refine ⟨.any _, ?_⟩)) trivial rfl rfl) fun s' h => ⟨0, by omega, 3, g, by omega, hgo, h⟩
  · obtain rfl : m = 0 := by omega
    conv => whnf
    repeat (first | (refine Conf.mk (by kernel_rfl) ?_; conv => whnf) | (refine SeqOk.go ?_; conv => whnf))
    refine BoolCase.no rfl ?_
    conv => whnf
    repeat (first | (refine Conf.mk (by kernel_rfl) ?_; conv => whnf) | (refine SeqOk.go ?_; conv => whnf))
    subst hQ1
    conv => whnf
    rw [mostGo_end] at hgo
    rw [← hgo]
    exact Ret.to rfl
set_option maxHeartbeats 0 in
theorem most6_ok (t : Tb) (c : Int) (hc : 1 ≤ c ∧ c ≤ 7) : PCall Try.prog 31 [.dat (.ptr [.int .i64 (t 0 0), .int .i64 (t 0 1), .int .i64 (t 0 2), .int .i64 (t 1 0), .int .i64 (t 1 1), .int .i64 (t 1 2), .int .i64 (t 2 0), .int .i64 (t 2 1), .int .i64 (t 2 2), .int .i64 (t 3 0), .int .i64 (t 3 1), .int .i64 (t 3 2), .int .i64 (t 4 0), .int .i64 (t 4 1), .int .i64 (t 4 2), .int .i64 (t 5 0), .int .i64 (t 5 1), .int .i64 (t 5 2), .int .i64 (t 6 0), .int .i64 (t 6 1), .int .i64 (t 6 2), .int .i64 (t 7 0), .int .i64 (t 7 1), .int .i64 (t 7 2)]), dInt (6 : Nat), dInt c] (.tup [dInt (mostV c (t 6)).1, dBool (mostV c (t 6)).2]) := by
  refine pcall_cut tab_all tab_mixed Try.func31 (by kernel_rfl) Try.ntmps31 rfl ?_
  conv => whnf
  conv => whnf
  repeat (first | (refine Conf.mk (by kernel_rfl) ?_; conv => whnf) | (refine SeqOk.go ?_; conv => whnf))
  refine LoopOk.hide fun Q1 hQ1 => ?_
  refine LoopOk.mk (fun m s => ∃ (i : Nat) (g : Int), i + m = 3 ∧ mostGo c (t 6) m i g = mostV c (t 6) ∧ s = ⟨[(9, dInt (i : Nat)), (8, dInt g), (0, .dat (.ptr [.int .i64 (t 0 0), .int .i64 (t 0 1), .int .i64 (t 0 2), .int .i64 (t 1 0), .int .i64 (t 1 1), .int .i64 (t 1 2), .int .i64 (t 2 0), .int .i64 (t 2 1), .int .i64 (t 2 2), .int .i64 (t 3 0), .int .i64 (t 3 1), .int .i64 (t 3 2), .int .i64 (t 4 0), .int .i64 (t 4 1), .int .i64 (t 4 2), .int .i64 (t 5 0), .int .i64 (t 5 1), .int .i64 (t 5 2), .int .i64 (t 6 0), .int .i64 (t 6 1), .int .i64 (t 6 2), .int .i64 (t 7 0), .int .i64 (t 7 1), .int .i64 (t 7 2)])), (1, dInt (6 : Nat)), (2, dInt c)], 0, []⟩) 3 (Into.mono (Into.to [] [(9, dInt (0 : Nat)), (8, dInt 0), (0, .dat (.ptr [.int .i64 (t 0 0), .int .i64 (t 0 1), .int .i64 (t 0 2), .int .i64 (t 1 0), .int .i64 (t 1 1), .int .i64 (t 1 2), .int .i64 (t 2 0), .int .i64 (t 2 1), .int .i64 (t 2 2), .int .i64 (t 3 0), .int .i64 (t 3 1), .int .i64 (t 3 2), .int .i64 (t 4 0), .int .i64 (t 4 1), .int .i64 (t 4 2), .int .i64 (t 5 0), .int .i64 (t 5 1), .int .i64 (t 5 2), .int .i64 (t 6 0), .int .i64 (t 6 1), .int .i64 (t 6 2), .int .i64 (t 7 0), .int .i64 (t 7 1), .int .i64 (t 7 2)])), (1, dInt (6 : Nat)), (2, dInt c)] [] (by repeat (first | exact trivial | refine ⟨.same (congrArg dInt (wrap_up (by omega))), ?_⟩ | refine ⟨.same rfl, ?_⟩ | refine ⟨.any _, ?_⟩)) trivial rfl rfl) fun s' h => ⟨0, 0, by omega, rfl, h⟩) ?_
  rintro m s ⟨i, g, him, hgo, rfl⟩
  have hi : i = 0 ∨ i = 1 ∨ i = 2 ∨ i = 3 := by omega
  rcases hi with rfl | rfl | rfl | rfl
  · obtain rfl : m = 3 := by omega
    conv => whnf
    repeat (first | (refine Conf.mk (by kernel_rfl) ?_; conv => whnf) | (refine SeqOk.go ?_; conv => whnf))
    refine BoolCase.yes rfl ?_
    conv => whnf
    repeat (first | (refine Conf.mk (by kernel_rfl) ?_; conv => whnf) | (refine SeqOk.go ?_; conv => whnf))
    refine .look _ _ (isOf_ok c 0 hc (by decide)) rfl rfl ?_
    conv => whnf
    repeat (first | (refine Conf.mk (by kernel_rfl) ?_; conv => whnf) | (refine SeqOk.go ?_; conv => whnf))
    cases hb : bitOf c 0
    · rw [mostGo_off hb] at hgo
      refine BoolCase.no rfl ?_
      conv => whnf
      repeat (first | (refine Conf.mk (by kernel_rfl) ?_; conv => whnf) | (refine SeqOk.go ?_; conv => whnf))
      exact Into.mono (Into.to [] [(9, dInt (0 + 1 : Nat)), (8, dInt g), (0, .dat (.ptr [.int .i64 (t 0 0), .int .i64 (t 0 1), .int .i64 (t 0 2), .int .i64 (t 1 0), .int .i64 (t 1 1), .int .i64 (t 1 2), .int .i64 (t 2 0), .int .i64 (t 2 1), .int .i64 (t 2 2), .int .i64 (t 3 0), .int .i64 (t 3 1), .int .i64 (t 3 2), .int .i64 (t 4 0), .int .i64 (t 4 1), .int .i64 (t 4 2), .int .i64 (t 5 0), .int .i64 (t 5 1), .int .i64 (t 5 2), .int .i64 (t 6 0), .int .i64 (t 6 1), .int .i64 (t 6 2), .int .i64 (t 7 0), .int .i64 (t 7 1), .int .i64 (t 7 2)])), (1, dInt (6 : Nat)), (2, dInt c)] [] (by repeat (first | exact trivial | refine ⟨.same (congrArg dInt (wrap_up (by omega))), ?_⟩ | refine ⟨.same rfl, ?_⟩ | refine ⟨.any _, ?_⟩)) trivial rfl rfl) fun s' h => ⟨2, by omega, 1, g, by omega, hgo, h⟩
    · refine BoolCase.yes rfl ?_
      conv => whnf
      repeat (first | (refine Conf.mk (by kernel_rfl) ?_; conv => whnf) | (refine SeqOk.go ?_; conv => whnf))
      refine .mk 6 rfl (by decide) ?_
      conv => whnf
      repeat (first | (refine Conf.mk (by kernel_rfl) ?_; conv => whnf) | (refine SeqOk.go ?_; conv => whnf))
      refine .mk 0 rfl (by decide) ?_
      conv => whnf
      repeat (first | (refine Conf.mk (by kernel_rfl) ?_; conv => whnf) | (refine SeqOk.go ?_; conv => whnf))
      by_cases h0 : t 6 0 = 0
      · rw [mostGo_nil hb h0] at hgo
        refine BoolCase.yes (by simpa using h0) ?_
        conv => whnf
        repeat (first | (refine Conf.mk (by kernel_rfl) ?_; conv => whnf) | (refine SeqOk.go ?_; conv => whnf))
        subst hQ1
        conv => whnf
        rw [← hgo]
        exact Ret.to rfl
      · rw [mostGo_on hb h0] at hgo
        refine BoolCase.no (by simpa using h0) ?_
        conv => whnf
        repeat (first | (refine Conf.mk (by kernel_rfl) ?_; conv => whnf) | (refine SeqOk.go ?_; conv => whnf))
        refine .mk 6 rfl (by decide) ?_
        conv => whnf
        repeat (first | (refine Conf.mk (by kernel_rfl) ?_; conv => whnf) | (refine SeqOk.go ?_; conv => whnf))
        refine .mk 0 rfl (by decide) ?_
        conv => whnf
        repeat (first | (refine Conf.mk (by kernel_rfl) ?_; conv => whnf) | (refine SeqOk.go ?_; conv => whnf))
        by_cases h2 : g < t 6 0
        · rw [if_pos h2] at hgo
          refine BoolCase.yes (by simpa using h2) ?_
          conv => whnf
          repeat (first | (refine Conf.mk (by kernel_rfl) ?_; conv => whnf) | (refine SeqOk.go ?_; conv => whnf))
          refine .mk 6 rfl (by decide) ?_
          conv => whnf
          repeat (first | (refine Conf.mk (by kernel_rfl) ?_; conv => whnf) | (refine SeqOk.go ?_; conv => whnf))
          refine .mk 0 rfl (by decide) ?_
          conv => whnf
          repeat (first | (refine Conf.mk (by kernel_rfl) ?_; conv => whnf) | (refine SeqOk.go ?_; conv => whnf))
          exact Into.mono (Into.to [] [(9, dInt (0 + 1 : Nat)), (8, dInt (t 6 0)), (0, .dat (.ptr [.int .i64 (t 0 0), .int .i64 (t 0 1), .int .i64 (t 0 2), .int .i64 (t 1 0), .int .i64 (t 1 1), .int .i64 (t 1 2), .int .i64 (t 2 0), .int .i64 (t 2 1), .int .i64 (t 2 2), .int .i64 (t 3 0), .int .i64 (t 3 1), .int .i64 (t 3 2), .int .i64 (t 4 0), .int .i64 (t 4 1), .int .i64 (t 4 2), .int .i64 (t 5 0), .int .i64 (t 5 1), .int .i64 (t 5 2), .int .i64 (t 6 0), .int .i64 (t 6 1), .int .i64 (t 6 2), .int .i64 (t 7 0), .int .i64 (t 7 1), .int .i64 (t 7 2)])), (1, dInt (6 : Nat)), (2, dInt c)] [] (by repeat (first | exact trivial | refine ⟨.same (congrArg dInt (wrap_up (by omega))), ?_⟩ | refine ⟨.same rfl, ?_⟩ | refine ⟨.any _, ?_⟩)) trivial rfl rfl) fun s' h => ⟨2, by omega, 1, (t 6 0), by omega, hgo, h⟩
        · rw [if_neg h2] at hgo
          refine BoolCase.no (by simpa using h2) ?_
          conv => whnf
          repeat (first | (refine Conf.mk (by kernel_rfl) ?_; conv => whnf) | (refine SeqOk.go ?_; conv => whnf))
          exact Into.mono (Into.to [] [(9, dInt (0 + 1 : Nat)), (8, dInt g), (0, .dat (.ptr [.int .i64 (t 0 0), .int .i64 (t 0 1), .int .i64 (t 0 2), .int .i64 (t 1 0), .int .i64 (t 1 1), .int .i64 (t 1 2), .int .i64 (t 2 0), .int .i64 (t 2 1), .int .i64 (t 2 2), .int .i64 (t 3 0), .int .i64 (t 3 1), .int .i64 (t 3 2), .int .i64 (t 4 0), .int .i64 (t 4 1), .int .i64 (t 4 2), .int .i64 (t 5 0), .int .i64 (t 5 1), .int .i64 (t 5 2), .int .i64 (t 6 0), .int .i64 (t 6 1), .int .i64 (t 6 2), .int .i64 (t 7 0), .int .i64 (t 7 1), .int .i64 (t 7 2)])), (1, dInt (6 : Nat)), (2, dInt c)] [] (by repeat (first | exact trivial | refine ⟨.same (congrArg dInt (wrap_up (by omega))), ?_⟩ | refine ⟨.same rfl, ?_⟩ | refine ⟨.any _, ?_⟩)) trivial rfl rfl) fun s' h => ⟨2, by omega, 1, g, by omega, hgo, h⟩
  · obtain rfl : m = 2 := by omega
    conv => whnf
    repeat (first | (refine Conf.mk (by kernel_rfl) ?_; conv => whnf) | (refine SeqOk.go ?_; conv => whnf))
    refine BoolCase.yes rfl ?_
    conv => whnf
    repeat (first | (refine Conf.mk (by kernel_rfl) ?_; conv => whnf) | (refine SeqOk.go ?_; conv => whnf))
    refine .look _ _ (isOf_ok c 1 hc (by decide)) rfl rfl ?_
    conv => whnf
    repeat (first | (refine Conf.mk (by kernel_rfl) ?_; conv => whnf) | (refine SeqOk.go ?_; conv => whnf))
    cases hb : bitOf c 1
    · rw [mostGo_off hb] at hgo
      refine BoolCase.no rfl ?_
      conv => whnf
      repeat (first | (refine Conf.mk (by kernel_rfl) ?_; conv => whnf) | (refine SeqOk.go ?_; conv => whnf))
      exact Into.mono (Into.to [] [(9, dInt (1 + 1 : Nat)), (8, dInt g), (0, .dat (.ptr [.int .i64 (t 0 0), .int .i64 (t 0 1), .int .i64 (t 0 2), .int .i64 (t 1 0), .int .i64 (t 1 1), .int .i64 (t 1 2), .int .i64 (t 2 0), .int .i64 (t 2 1), .int .i64 (t 2 2), .int .i64 (t 3 0), .int .i64 (t 3 1), .int .i64 (t 3 2), .int .i64 (t 4 0), .int .i64 (t 4 1), .int .i64 (t 4 2), .int .i64 (t 5 0), .int .i64 (t 5 1), .int .i64 (t 5 2), .int .i64 (t 6 0), .int .i64 (t 6 1), .int .i64 (t 6 2), .int .i64 (t 7 0), .int .i64 (t 7 1), .int .i64 (t 7 2)])), (1, dInt (6 : Nat)), (2, dInt c)] [] (by repeat (first | exact trivial | refine ⟨.same (congrArg dInt (wrap_up (by omega))), ?_⟩ | refine ⟨.same rfl, ?_⟩ | refine ⟨.any _, ?_⟩)) trivial rfl rfl) fun s' h => ⟨1, by omega, 2, g, by omega, hgo, h⟩
    · refine BoolCase.yes rfl ?_
      conv => whnf
      repeat (first | (refine Conf.mk (by kernel_rfl) ?_; conv => whnf) | (refine SeqOk.go ?_; conv => whnf))
      refine .mk 6 rfl (by decide) ?_
      conv => whnf
      repeat (first | (refine Conf.mk (by kernel_rfl) ?_; conv => whnf) | (refine SeqOk.go ?_; conv => whnf))
      refine .mk 1 rfl (by decide) ?_
      conv => whnf
      repeat (first | (refine Conf.mk (by kernel_rfl) ?_; conv => whnf) | (refine SeqOk.go ?_; conv => whnf))
      by_cases h0 : t 6 1 = 0
      · rw [mostGo_nil hb h0] at hgo
        refine BoolCase.yes (by simpa using h0) ?_
        conv => whnf
        repeat (first | (refine Conf.mk (by kernel_rfl) ?_; conv => whnf) | (refine SeqOk.go ?_; conv => whnf))
        subst hQ1
        conv => whnf
        rw [← hgo]
        exact Ret.to rfl
      · rw [mostGo_on hb h0] at hgo
        refine BoolCase.no (by simpa using h0) ?_
        conv => whnf
        repeat (first | (refine Conf.mk (by kernel_rfl) ?_; conv => whnf) | (refine SeqOk.go ?_; conv => whnf))
        refine .mk 6 rfl (by decide) ?_
        conv => whnf
        repeat (first | (refine Conf.mk (by kernel_rfl) ?_; conv => whnf) | (refine SeqOk.go ?_; conv => whnf))
        refine .mk 1 rfl (by decide) ?_
        conv => whnf
        repeat (first | (refine Conf.mk (by kernel_rfl) ?_; conv => whnf) | (refine SeqOk.go ?_; conv => whnf))
        by_cases h2 : g < t 6 1
        · rw [if_pos h2] at hgo
          refine BoolCase.yes (by simpa using h2) ?_
          conv => whnf
          repeat (first | (refine Conf.mk (by kernel_rfl) ?_; conv => whnf) | (refine SeqOk.go ?_; conv => whnf))
          refine .mk 6 rfl (by decide) ?_
          conv => whnf
          repeat (first | (refine Conf.mk (by kernel_rfl) ?_; conv => whnf) | (refine SeqOk.go ?_; conv => whnf))
          refine .mk 1 rfl (by decide) ?_
          conv => whnf
          repeat (first | (refine Conf.mk (by kernel_rfl) ?_; conv => whnf) | (refine SeqOk.go ?_; conv => whnf))
          exact Into.mono (Into.to [] [(9, dInt (1 + 1 : Nat)), (8, dInt (t 6 1)), (0, .dat (.ptr [.int .i64 (t 0 0), .int .i64 (t 0 1), .int .i64 (t 0 2), .int .i64 (t 1 0), .int .i64 (t 1 1), .int .i64 (t 1 2), .int .i64 (t 2 0), .int .i64 (t 2 1), .int .i64 (t 2 2), .int .i64 (t 3 0), .int .i64 (t 3 1), .int .i64 (t 3 2), .int .i64 (t 4 0), .int .i64 (t 4 1), .int .i64 (t 4 2), .int .i64 (t 5 0), .int .i64 (t 5 1), .int .i64 (t 5 2), .int .i64 (t 6 0), .int .i64 (t 6 1), .int .i64 (t 6 2), .int .i64 (t 7 0), .int .i64 (t 7 1), .int .i64 (t 7 2)])), (1, dInt (6 : Nat)), (2, dInt c)] [] (by repeat (first | exact trivial | refine ⟨.same (congrArg dInt (wrap_up (by omega))), ?_⟩ | refine ⟨.same rfl, ?_⟩ | refine ⟨.any _, ?_⟩)) trivial rfl rfl) fun s' h => ⟨1, by omega, 2, (t 6 1), by omega, hgo, h⟩
        · rw [if_neg h2] at hgo
          refine BoolCase.no (by simpa using h2) ?_
          conv => whnf
          repeat (first | (refine Conf.mk (by kernel_rfl) ?_; conv => whnf) | (refine SeqOk.go ?_; conv => whnf))
          exact Into.mono (Into.to [] [(9, dInt (1 + 1 : Nat)), (8, dInt g), (0, .dat (.ptr [.int .i64 (t 0 0), .int .i64 (t 0 1), .int .i64 (t 0 2), .int .i64 (t 1 0), .int .i64 (t 1 1), .int .i64 (t 1 2), .int .i64 (t 2 0), .int .i64 (t 2 1), .int .i64 (t 2 2), .int .i64 (t 3 0), .int .i64 (t 3 1), .int .i64 (t 3 2), .int .i64 (t 4 0), .int .i64 (t 4 1), .int .i64 (t 4 2), .int .i64 (t 5 0), .int .i64 (t 5 1), .int .i64 (t 5 2), .int .i64 (t 6 0), .int .i64 (t 6 1), .int .i64 (t 6 2), .int .i64 (t 7 0), .int .i64 (t 7 1), .int .i64 (t 7 2)])), (1, dInt (6 : Nat)), (2, dInt c)] [] (by repeat (first | exact trivial | refine ⟨.same (congrArg dInt (wrap_up (by omega))), ?_⟩ | refine ⟨.same rfl, ?_⟩ | refine ⟨.any _, ?_⟩)) trivial rfl rfl) fun s' h => ⟨1, by omega, 2, g, by omega, hgo, h⟩
  · obtain rfl : m = 1 := by omega
    conv => whnf
    repeat (first | (refine Conf.mk (by kernel_rfl) ?_; conv => whnf) | (refine SeqOk.go ?_; conv => whnf))
    refine BoolCase.yes rfl ?_
    conv => whnf
    repeat (first | (refine Conf.mk (by kernel_rfl) ?_; conv => whnf) | (refine SeqOk.go ?_; conv => whnf))
    refine .look _ _ (isOf_ok c 2 hc (by decide)) rfl rfl ?_
    conv => whnf
    repeat (first | (refine Conf.mk (by kernel_rfl) ?_; conv => whnf) | (refine SeqOk.go ?_; conv => whnf))
    cases hb : bitOf c 2
    · rw [mostGo_off hb] at hgo
      refine BoolCase.no rfl ?_
      conv => whnf
      repeat (first | (refine Conf.mk (by kernel_rfl) ?_; conv => whnf) | (refine SeqOk.go ?_; conv => whnf))
      exact Into.mono (Into.to [] [(9, dInt (2 + 1 : Nat)), (8, dInt g), (0, .dat (.ptr [.int .i64 (t 0 0), .int .i64 (t 0 1), .int .i64 (t 0 2), .int .i64 (t 1 0), .int .i64 (t 1 1), .int .i64 (t 1 2), .int .i64 (t 2 0), .int .i64 (t 2 1), .int .i64 (t 2 2), .int .i64 (t 3 0), .int .i64 (t 3 1), .int .i64 (t 3 2), .int .i64 (t 4 0), .int .i64 (t 4 1), .int .i64 (t 4 2), .int .i64 (t 5 0), .int .i64 (t 5 1), .int .i64 (t 5 2), .int .i64 (t 6 0), .int .i64 (t 6 1), .int .i64 (t 6 2), .int .i64 (t 7 0), .int .i64 (t 7 1), .int .i64 (t 7 2)])), (1, dInt (6 : Nat)), (2, dInt c)] [] (by repeat (first | exact trivial | refine ⟨.same (congrArg dInt (wrap_up (by omega))), ?_⟩ | refine ⟨.same rfl, ?_⟩ | refine ⟨.any _, ?_⟩)) trivial rfl rfl) fun s' h => ⟨0, by omega, 3, g, by omega, hgo, h⟩
    · refine BoolCase.yes rfl ?_
      conv => whnf
      repeat (first | (refine Conf.mk (by kernel_rfl) ?_; conv => whnf) | (refine SeqOk.go ?_; conv => whnf))
      refine .mk 6 rfl (by decide) ?_
      conv => whnf
      repeat (first | (refine Conf.mk (by kernel_rfl) ?_; conv => whnf) | (refine SeqOk.go ?_; conv => whnf))
      refine .mk 2 rfl (by decide) ?_
      conv => whnf
      repeat (first | (refine Conf.mk (by kernel_rfl) ?_; conv => whnf) | (refine SeqOk.go ?_; conv => whnf))
      by_cases h0 : t 6 2 = 0
      · rw [mostGo_nil hb h0] at hgo
        refine BoolCase.yes (by simpa using h0) ?_
        conv => whnf
        repeat (first | (refine Conf.mk (by kernel_rfl) ?_; conv => whnf) | (refine SeqOk.go ?_; conv => whnf))
        subst hQ1
        conv => whnf
        rw [← hgo]
        exact Ret.to rfl
      · rw [mostGo_on hb h0] at hgo
        refine BoolCase.no (by simpa using h0) ?_
        conv => whnf
        repeat (first | (refine Conf.mk (by kernel_rfl) ?_; conv => whnf) | (refine SeqOk.go ?_; conv => whnf))
        refine .mk 6 rfl (by decide) ?_
        conv => whnf
        repeat (first | (refine Conf.mk (by kernel_rfl) ?_; conv => whnf) | (refine SeqOk.go ?_; conv => whnf))
        refine .mk 2 rfl (by decide) ?_
        conv => whnf
        repeat (first | (refine Conf.mk (by kernel_rfl) ?_; conv => whnf) | (refine SeqOk.go ?_; conv => whnf))
        by_cases h2 : g < t 6 2
        · rw [if_pos h2] at hgo
          refine BoolCase.yes (by simpa using h2) ?_
          conv => whnf
          repeat (first | (refine Conf.mk (by kernel_rfl) ?_; conv => whnf) | (refine SeqOk.go ?_; conv => whnf))
          refine .mk 6 rfl (by decide) ?_
          conv => whnf
          repeat (first | (refine Conf.mk (by kernel_rfl) ?_; conv => whnf) | (refine SeqOk.go ?_; conv => whnf))
          refine .mk 2 rfl (by decide) ?_
          conv => whnf
          repeat (first | (refine Conf.mk (by kernel_rfl) ?_; conv => whnf) | (refine SeqOk.go ?_; conv => whnf))
          exact Into.mono (Into.to [] [(9, dInt (2 + 1 : Nat)), (8, dInt (t 6 2)), (0, .dat (.ptr [.int .i64 (t 0 0), .int .i64 (t 0 1), .int .i64 (t 0 2), .int .i64 (t 1 0), .int .i64 (t 1 1), .int .i64 (t 1 2), .int .i64 (t 2 0), .int .i64 (t 2 1), .int .i64 (t 2 2), .int .i64 (t 3 0), .int .i64 (t 3 1), .int .i64 (t 3 2), .int .i64 (t 4 0), .int .i64 (t 4 1), .int .i64 (t 4 2), .int .i64 (t 5 0), .int .i64 (t 5 1), .int .i64 (t 5 2), .int .i64 (t 6 0), .int .i64 (t 6 1), .int .i64 (t 6 2), .int .i64 (t 7 0), .int .i64 (t 7 1), .int .i64 (t 7 2)])), (1, dInt (6 : Nat)), (2, dInt c)] [] (by repeat (first | exact trivial | refine ⟨.same (congrArg dInt (wrap_up (by omega))), ?_⟩ | refine ⟨.same rfl, ?_⟩ | refine ⟨.any _, ?_⟩)) trivial rfl rfl) fun s' h => ⟨0, by omega, 3, (t 6 2), by omega, hgo, h⟩
        · rw [if_neg h2] at hgo
          refine BoolCase.no (by simpa using h2) ?_
          conv => whnf
          repeat (first | (refine Conf.mk (by kernel_rfl) ?_; conv => whnf) | (refine SeqOk.go ?_; conv => whnf))
          exact Into.mono (Into.to [] [(9, dInt (2 + 1 : Nat)), (8, dInt g), (0, .dat (.ptr [.int .i64 (t 0 0), .int .i64 (t 0 1), .int .i64 (t 0 2), .int .i64 (t 1 0), .int .i64 (t 1 1), .int .i64 (t 1 2), .int .i64 (t 2 0), .int .i64 (t 2 1), .int .i64 (t 2 2), .int .i64 (t 3 0), .int .i64 (t 3 1), .int .i64 (t 3 2), .int .i64 (t 4 0), .int .i64 (t 4 1), .int .i64 (t 4 2), .int .i64 (t 5 0), .int .i64 (t 5 1), .int .i64 (t 5 2), .int .i64 (t 6 0), .int .i64 (t 6 1), .int .i64 (t 6 2), .int .i64 (t 7 0), .int .i64 (t 7 1), .int .i64 (t 7 2)])), (1, dInt (6 : Nat)), (2, dInt c)] [] (by repeat (first | exact trivial | refine ⟨.same (congrArg dInt (wrap_up (by omega))), ?_⟩ | refine ⟨.same rfl, ?_⟩ | refine ⟨.any _, ?_⟩)) trivial rfl rfl) fun s' h => ⟨0, by omega, 3, g, by omega, hgo, h⟩
  · obtain rfl : m = 0 := by omega
    conv => whnf
    repeat (first | (refine Conf.mk (by kernel_rfl) ?_; conv => whnf) | (refine SeqOk.go ?_; conv => whnf))
    refine BoolCase.no rfl ?_
    conv => whnf
    repeat (first | (refine Conf.mk (by kernel_rfl) ?_; conv => whnf) | (refine SeqOk.go ?_; conv => whnf))
    subst hQ1
    conv => whnf
    rw [mostGo_end] at hgo
    rw [← hgo]
    exact Ret.to rfl
set_option maxHeartbeats 0 in
theorem most7_ok (t : Tb) (c : Int) (hc : 1 ≤ c ∧ c ≤ 7) : PCall Try.prog 31 [.dat (.ptr [.int .i64 (t 0 0), .int .i64 (t 0 1), .int .i64 (t 0 2), .int .i64 (t 1 0), .int .i64 (t 1 1), .int .i64 (t 1 2), .int .i64 (t 2 0), .int .i64 (t 2 1), .int .i64 (t 2 2), .int .i64 (t 3 0), .int .i64 (t 3 1), .int .i64 (t 3 2), .int .i64 (t 4 0), .int .i64 (t 4 1), .int .i64 (t 4 2), .int .i64 (t 5 0), .int .i64 (t 5 1), .int .i64 (t 5 2), .int .i64 (t 6 0), .int .i64 (t 6 1), .int .i64 (t 6 2), .int .i64 (t 7 0), .int .i64 (t 7 1), .int .i64 (t 7 2)]), dInt (7 : Nat), dInt c] (.tup [dInt (mostV c (t 7)).1, dBool (mostV c (t 7)).2]) := by
  refine pcall_cut tab_all tab_mixed Try.func31 (by kernel_rfl) Try.ntmps31 rfl ?_
  conv => whnf
  conv => whnf
  repeat (first | (refine Conf.mk (by kernel_rfl) ?_; conv => whnf) | (refine SeqOk.go ?_; conv => whnf))
  refine LoopOk.hide fun Q1 hQ1 => ?_
  refine LoopOk.mk (fun m s => ∃ (i : Nat) (g : Int), i + m = 3 ∧ mostGo c (t 7) m i g = mostV c (t 7) ∧ s = ⟨[(9, dInt (i : Nat)), (8, dInt g), (0, .dat (.ptr [.int .i64 (t 0 0), .int .i64 (t 0 1), .int .i64 (t 0 2), .int .i64 (t 1 0), .int .i64 (t 1 1), .int .i64 (t 1 2), .int .i64 (t 2 0), .int .i64 (t 2 1), .int .i64 (t 2 2), .int .i64 (t 3 0), .int .i64 (t 3 1), .int .i64 (t 3 2), .int .i64 (t 4 0), .int .i64 (t 4 1), .int .i64 (t 4 2), .int .i64 (t 5 0), .int .i64 (t 5 1), .int .i64 (t 5 2), .int .i64 (t 6 0), .int .i64 (t 6 1), .int .i64 (t 6 2), .int .i64 (t 7 0), .int .i64 (t 7 1), .int .i64 (t 7 2)])), (1, dInt (7 : Nat)), (2, dInt c)], 0, []⟩) 3 (Into.mono (Into.to [] [(9, dInt (0 : Nat)), (8, dInt 0), (0, .dat (.ptr [.int .i64 (t 0 0), .int .i64 (t 0 1), .int .i64 (t 0 2), .int .i64 (t 1 0), .int .i64 (t 1 1), .int .i64 (t 1 2), .int .i64 (t 2 0), .int .i64 (t 2 1), .int .i64 (t 2 2), .int .i64 (t 3 0), .int .i64 (t 3 1), .int .i64 (t 3 2), .int .i64 (t 4 0), .int .i64 (t 4 1), .int .i64 (t 4 2), .int .i64 (t 5 0), .int .i64 (t 5 1), .int .i64 (t 5 2), .int .i64 (t 6 0), .int .i64 (t 6 1), .int .i64 (t 6 2), .int .i64 (t 7 0), .int .i64 (t 7 1), .int .i64 (t 7 2)])), (1, dInt (7 : Nat)), (2, dInt c)] [] (by repeat (first | exact trivial | refine ⟨.same (congrArg dInt (wrap_up (by omega))), ?_⟩ | refine ⟨.same rfl, ?_⟩ | refine ⟨.any _, ?_⟩)) trivial rfl rfl) fun s' h => ⟨0, 0, by omega, rfl, h⟩) ?_
  rintro m s ⟨i, g, him, hgo, rfl⟩
  have hi : i = 0 ∨ i = 1 ∨ i = 2 ∨ i = 3 := by omega
  rcases hi with rfl | rfl | rfl | rfl
  · obtain rfl : m = 3 := by omega
    conv => whnf
    repeat (first | (refine Conf.mk (by kernel_rfl) ?_; conv => whnf) | (refine SeqOk.go ?_; conv => whnf))
    refine BoolCase.yes rfl ?_
    conv => whnf
    repeat (first | (refine Conf.mk (by kernel_rfl) ?_; conv => whnf) | (refine SeqOk.go ?_; conv => whnf))
    refine .look _ _ (isOf_ok c 0 hc (by decide)) rfl rfl ?_
    conv => whnf
    repeat (first | (refine Conf.mk (by kernel_rfl) ?_; conv => whnf) | (refine SeqOk.go ?_; conv => whnf))
    cases hb : bitOf c 0
    · rw [mostGo_off hb] at hgo
      refine BoolCase.no rfl ?_
      conv => whnf
      repeat (first | (refine Conf.mk (by kernel_rfl) ?_; conv => whnf) | (refine SeqOk.go ?_; conv => whnf))
      exact Into.mono (Into.to [] [(9, dInt (0 + 1 : Nat)), (8, dInt g), (0, .dat (.ptr [.int .i64 (t 0 0), .int .i64 (t 0 1), .int .i64 (t 0 2), .int .i64 (t 1 0), .int .i64 (t 1 1), .int .i64 (t 1 2), .int .i64 (t 2 0), .int .i64 (t 2 1), .int .i64 (t 2 2), .int .i64 (t 3 0), .int .i64 (t 3 1), .int .i64 (t 3 2), .int .i64 (t 4 0), .int .i64 (t 4 1), .int .i64 (t 4 2), .int .i64 (t 5 0), .int .i64 (t 5 1), .int .i64 (t 5 2), .int .i64 (t 6 0), .int .i64 (t 6 1), .int .i64 (t 6 2), .int .i64 (t 7 0), .int .i64 (t 7 1), .int .i64 (t 7 2)])), (1, dInt (7 : Nat)), (2, dInt c)] [] (by repeat (first | exact trivial | refine ⟨.same (congrArg dInt (wrap_up (by omega))), ?_⟩ | refine ⟨.same rfl, ?_⟩ | refine ⟨.any _, ?_⟩)) trivial rfl rfl) fun s' h => ⟨2, by omega, 1, g, by omega, hgo, h⟩
    · refine BoolCase.yes rfl ?_
      conv => whnf
      repeat (first | (refine Conf.mk (by kernel_rfl) ?_; conv => whnf) | (refine SeqOk.go ?_; conv => whnf))
      refine .mk 7 rfl (by decide) ?_
      conv => whnf
      repeat (first | (refine Conf.mk (by kernel_rfl) ?_; conv => whnf) | (refine SeqOk.go ?_; conv => whnf))
      refine .mk 0 rfl (by decide) ?_
      conv => whnf
      repeat (first | (refine Conf.mk (by kernel_rfl) ?_; conv => whnf) | (refine SeqOk.go ?_; conv => whnf))
      by_cases h0 : t 7 0 = 0
      · rw [mostGo_nil hb h0] at hgo
        refine BoolCase.yes (by simpa using h0) ?_
        conv => whnf
        repeat (first | (refine Conf.mk (by kernel_rfl) ?_; conv => whnf) | (refine SeqOk.go ?_; conv => whnf))
        subst hQ1
        conv => whnf
        rw [← hgo]
        exact Ret.to rfl
      · rw [mostGo_on hb h0] at hgo
        refine BoolCase.no (by simpa using h0) ?_
        conv => whnf
        repeat (first | (refine Conf.mk (by kernel_rfl) ?_; conv => whnf) | (refine SeqOk.go ?_; conv => whnf))
        refine .mk 7 rfl (by decide) ?_
        conv => whnf
        repeat (first | (refine Conf.mk (by kernel_rfl) ?_; conv => whnf) | (refine SeqOk.go ?_; conv => whnf))
        refine .mk 0 rfl (by decide) ?_
        conv => whnf
        repeat (first | (refine Conf.mk (by kernel_rfl) ?_; conv => whnf) | (refine SeqOk.go ?_; conv => whnf))
        by_cases h2 : g < t 7 0
        · rw [if_pos h2] at hgo
          refine BoolCase.yes (by simpa using h2) ?_
          conv => whnf
          repeat (first | (refine Conf.mk (by kernel_rfl) ?_; conv => whnf) | (refine SeqOk.go ?_; conv => whnf))
          refine .mk 7 rfl (by decide) ?_
          conv => whnf
          repeat (first | (refine Conf.mk (by kernel_rfl) ?_; conv => whnf) | (refine SeqOk.go ?_; conv => whnf))
          refine .mk 0 rfl (by decide) ?_
          conv => whnf
          repeat (first | (refine Conf.mk (by kernel_rfl) ?_; conv => whnf) | (refine SeqOk.go ?_; conv => whnf))
          exact Into.mono (Into.to [] [(9, dInt (0 + 1 : Nat)), (8, dInt (t 7 0)), (0, .dat (.ptr [.int .i64 (t 0 0), .int .i64 (t 0 1), .int .i64 (t 0 2), .int .i64 (t 1 0), .int .i64 (t 1 1), .int .i64 (t 1 2), .int .i64 (t 2 0), .int .i64 (t 2 1), .int .i64 (t 2 2), .int .i64 (t 3 0), .int .i64 (t 3 1), .int .i64 (t 3 2), .int .i64 (t 4 0), .int .i64 (t 4 1), .int .i64 (t 4 2), .int .i64 (t 5 0), .int .i64 (t 5 1), .int .i64 (t 5 2), .int .i64 (t 6 0), .int .i64 (t 6 1), .int .i64 (t 6 2), .int .i64 (t 7 0), .int .i64 (t 7 1), .int .i64 (t 7 2)])), (1, dInt (7 : Nat)), (2, dInt c)] [] (by repeat (first | exact trivial | refine ⟨.same (congrArg dInt (wrap_up (by omega))), ?_⟩ | refine ⟨.same rfl, ?_⟩ | refine ⟨.any _, ?_⟩)) trivial rfl rfl) fun s' h => ⟨2, by omega, 1, (t 7 0), by omega, hgo, h⟩
        · rw [if_neg h2] at hgo
          refine BoolCase.no (by simpa using h2) ?_
          conv => whnf
          repeat (first | (refine Conf.mk (by kernel_rfl) ?_; conv => whnf) | (refine SeqOk.go ?_; conv => whnf))
          exact Into.mono (Into.to [] [(9, dInt (0 + 1 : Nat)), (8, dInt g), (0, .dat (.ptr [.int .i64 (t 0 0), .int .i64 (t 0 1), .int .i64 (t 0 2), .int .i64 (t 1 0), .int .i64 (t 1 1), .int .i64 (t 1 2), .int .i64 (t 2 0), .int .i64 (t 2 1), .int .i64 (t 2 2), .int .i64 (t 3 0), .int .i64 (t 3 1), .int .i64 (t 3 2), .int .i64 (t 4 0), .int .i64 (t 4 1), .int .i64 (t 4 2), .int .i64 (t 5 0), .int .i64 (t 5 1), .int .i64 (t 5 2), .int .i64 (t 6 0), .int .i64 (t 6 1), .int .i64 (t 6 2), .int .i64 (t 7 0), .int .i64 (t 7 1), .int .i64 (t 7 2)])), (1, dInt (7 : Nat)), (2, dInt c)] [] (by repeat (first | exact trivial | refine ⟨.same (congrArg dInt (wrap_up (by omega))), ?_⟩ | refine ⟨.same rfl, ?_⟩ | refine ⟨.any _, ?_⟩)) trivial rfl rfl) fun s' h => ⟨2, by omega, 1, g, by omega, hgo, h⟩
  · obtain rfl : m = 2 := by omega
    conv => whnf
    repeat (first | (refine Conf.mk (by kernel_rfl) ?_; conv => whnf) | (refine SeqOk.go ?_; conv => whnf))
    refine BoolCase.yes rfl ?_
    conv => whnf
    repeat (first | (refine Conf.mk (by kernel_rfl) ?_; conv => whnf) | (refine SeqOk.go ?_; conv => whnf))
    refine .look _ _ (isOf_ok c 1 hc (by decide)) rfl rfl ?_
    conv => whnf
    repeat (first | (refine Conf.mk (by kernel_rfl) ?_; conv => whnf) | (refine SeqOk.go ?_; conv => whnf))
    cases hb : bitOf c 1
    · rw [mostGo_off hb] at hgo
      refine BoolCase.no rfl ?_
      conv => whnf
      repeat (first | (refine Conf.mk (by kernel_rfl) ?_; conv => whnf) | (refine SeqOk.go ?_; conv => whnf))
      exact Into.mono (Into.to [] [(9, dInt (1 + 1 : Nat)), (8, dInt g), (0, .dat (.ptr [.int .i64 (t 0 0), .int .i64 (t 0 1), .int .i64 (t 0 2), .int .i64 (t 1 0), .int .i64 (t 1 1), .int .i64 (t 1 2), .int .i64 (t 2 0), .int .i64 (t 2 1), .int .i64 (t 2 2), .int .i64 (t 3 0), .int .i64 (t 3 1), .int .i64 (t 3 2), .int .i64 (t 4 0), .int .i64 (t 4 1), .int .i64 (t 4 2), .int .i64 (t 5 0), .int .i64 (t 5 1), .int .i64 (t 5 2), .int .i64 (t 6 0), .int .i64 (t 6 1), .int .i64 (t 6 2), .int .i64 (t 7 0), .int .i64 (t 7 1), .int .i64 (t 7 2)])), (1, dInt (7 : Nat)), (2, dInt c)] [] (by repeat (first | exact trivial | refine ⟨.same (congrArg dInt (wrap_up (by omega))), ?_⟩ | refine ⟨.same rfl, ?_⟩ | refine ⟨.any _, ?_⟩)) trivial rfl rfl) fun s' h => ⟨1, by omega, 2, g, by omega, hgo, h⟩
    · refine BoolCase.yes rfl ?_
      conv => whnf
      repeat (first | (refine Conf.mk (by kernel_rfl) ?_; conv => whnf) | (refine SeqOk.go ?_; conv => whnf))
      refine .mk 7 rfl (by decide) ?_
      conv => whnf
      repeat (first | (refine Conf.mk (by kernel_rfl) ?_; conv => whnf) | (refine SeqOk.go ?_; conv => whnf))
      refine .mk 1 rfl (by decide) ?_
      conv => whnf
      repeat (first | (refine Conf.mk (by kernel_rfl) ?_; conv => whnf) | (refine SeqOk.go ?_; conv => whnf))
      by_cases h0 : t 7 1 = 0
      · rw [mostGo_nil hb h0] at hgo
        refine BoolCase.yes (by simpa using h0) ?_
        conv => whnf
        repeat (first | (refine Conf.mk (by kernel_rfl) ?_; conv => whnf) | (refine SeqOk.go ?_; conv => whnf))
        subst hQ1
        conv => whnf
        rw [← hgo]
        exact Ret.to rfl
      · rw [mostGo_on hb h0] at hgo
        refine BoolCase.no (by simpa using h0) ?_
        conv => whnf
        repeat (first | (refine Conf.mk (by kernel_rfl) ?_; conv => whnf) | (refine SeqOk.go ?_; conv => whnf))
        refine .mk 7 rfl (by decide) ?_
        conv => whnf
        repeat (first | (refine Conf.mk (by kernel_rfl) ?_; conv => whnf) | (refine SeqOk.go ?_; conv => whnf))
        refine .mk 1 rfl (by decide) ?_
        conv => whnf
        repeat (first | (refine Conf.mk (by kernel_rfl) ?_; conv => whnf) | (refine SeqOk.go ?_; conv => whnf))
        by_cases h2 : g < t 7 1
        · rw [if_pos h2] at hgo
          refine BoolCase.yes (by simpa using h2) ?_
          conv => whnf
          repeat (first | (refine Conf.mk (by kernel_rfl) ?_; conv => whnf) | (refine SeqOk.go ?_; conv => whnf))
          refine .mk 7 rfl (by decide) ?_
          conv => whnf
          repeat (first | (refine Conf.mk (by kernel_rfl) ?_; conv => whnf) | (refine SeqOk.go ?_; conv => whnf))
          refine .mk 1 rfl (by decide) ?_
          conv => whnf
          repeat (first | (refine Conf.mk (by kernel_rfl) ?_; conv => whnf) | (refine SeqOk.go ?_; conv => whnf))
          exact Into.mono (Into.to [] [(9, dInt (1 + 1 : Nat)), (8, dInt (t 7 1)), (0, .dat (.ptr [.int .i64 (t 0 0), .int .i64 (t 0 1), .int .i64 (t 0 2), .int .i64 (t 1 0), .int .i64 (t 1 1), .int .i64 (t 1 2), .int .i64 (t 2 0), .int .i64 (t 2 1), .int .i64 (t 2 2), .int .i64 (t 3 0), .int .i64 (t 3 1), .int .i64 (t 3 2), .int .i64 (t 4 0), .int .i64 (t 4 1), .int .i64 (t 4 2), .int .i64 (t 5 0), .int .i64 (t 5 1), .int .i64 (t 5 2), .int .i64 (t 6 0), .int .i64 (t 6 1), .int .i64 (t 6 2), .int .i64 (t 7 0), .int .i64 (t 7 1), .int .i64 (t 7 2)])), (1, dInt (7 : Nat)), (2, dInt c)] [] (by repeat (first | exact trivial | refine ⟨.same (congrArg dInt (wrap_up (by omega))), ?_⟩ | refine ⟨.same rfl, ?_⟩ | refine ⟨.any _, ?_⟩)) trivial rfl rfl) fun s' h => ⟨1, by omega, 2, (t 7 1), by omega, hgo, h⟩
        · rw [if_neg h2] at hgo
          refine BoolCase.no (by simpa using h2) ?_
          conv => whnf
          repeat (first | (refine Conf.mk (by kernel_rfl) ?_; conv => whnf) | (refine SeqOk.go ?_; conv => whnf))
          exact Into.mono (Into.to [] [(9, dInt (1 + 1 : Nat)), (8, dInt g), (0, .dat (.ptr [.int .i64 (t 0 0), .int .i64 (t 0 1), .int .i64 (t 0 2), .int .i64 (t 1 0), .int .i64 (t 1 1), .int .i64 (t 1 2), .int .i64 (t 2 0), .int .i64 (t 2 1), .int .i64 (t 2 2), .int .i64 (t 3 0), .int .i64 (t 3 1), .int .i64 (t 3 2), .int .i64 (t 4 0), .int .i64 (t 4 1), .int .i64 (t 4 2), .int .i64 (t 5 0), .int .i64 (t 5 1), .int .i64 (t 5 2), .int .i64 (t 6 0), .int .i64 (t 6 1), .int .i64 (t 6 2), .int .i64 (t 7 0), .int .i64 (t 7 1), .int .i64 (t 7 2)])), (1, dInt (7 : Nat)), (2, dInt c)] [] (by repeat (first | exact trivial | refine ⟨.same (congrArg dInt (wrap_up (by omega))), ?_⟩ | refine ⟨.same rfl, ?_⟩ | refine ⟨.any _, ?_⟩)) trivial rfl rfl) fun s' h => ⟨1, by omega, 2, g, by omega, hgo, h⟩
  · obtain rfl : m = 1 := by omega
    conv => whnf
    repeat (first | (refine Conf.mk (by kernel_rfl) ?_; conv => whnf) | (refine SeqOk.go ?_; conv => whnf))
    refine BoolCase.yes rfl ?_
    conv => whnf
    repeat (first | (refine Conf.mk (by kernel_rfl) ?_; conv => whnf) | (refine SeqOk.go ?_; conv => whnf))
    refine .look _ _ (isOf_ok c 2 hc (by decide)) rfl rfl ?_
    conv => whnf
    repeat (first | (refine Conf.mk (by kernel_rfl) ?_; conv => whnf) | (refine SeqOk.go ?_; conv => whnf))
    cases hb : bitOf c 2
    · rw [mostGo_off hb] at hgo
      refine BoolCase.no rfl ?_
      conv => whnf
      repeat (first | (refine Conf.mk (by kernel_rfl) ?_; conv => whnf) | (refine SeqOk.go ?_; conv => whnf))
      exact Into.mono (Into.to [] [(9, dInt (2 + 1 : Nat)), (8, dInt g), (0, .dat (.ptr [.int .i64 (t 0 0), .int .i64 (t 0 1), .int .i64 (t 0 2), .int .i64 (t 1 0), .int .i64 (t 1 1), .int .i64 (t 1 2), .int .i64 (t 2 0), .int .i64 (t 2 1), .int .i64 (t 2 2), .int .i64 (t 3 0), .int .i64 (t 3 1), .int .i64 (t 3 2), .int .i64 (t 4 0), .int .i64 (t 4 1), .int .i64 (t 4 2), .int .i64 (t 5 0), .int .i64 (t 5 1), .int .i64 (t 5 2), .int .i64 (t 6 0), .int .i64 (t 6 1), .int .i64 (t 6 2), .int .i64 (t 7 0), .int .i64 (t 7 1), .int .i64 (t 7 2)])), (1, dInt (7 : Nat)), (2, dInt c)] [] (by repeat (first | exact trivial | refine ⟨.same (congrArg dInt (wrap_up (by omega))), ?_⟩ | refine ⟨.same rfl, ?_⟩ | refine ⟨.any _, ?_⟩)) trivial rfl rfl) fun s' h => ⟨0, by omega, 3, g, by omega, hgo, h⟩
    · refine BoolCase.yes rfl ?_
      conv => whnf
      repeat (first | (refine Conf.mk (by kernel_rfl) ?_; conv => whnf) | (refine SeqOk.go ?_; conv => whnf))
      refine .mk 7 rfl (by decide) ?_
      conv => whnf
      repeat (first | (refine Conf.mk (by kernel_rfl) ?_; conv => whnf) | (refine SeqOk.go ?_; conv => whnf))
      refine .mk 2 rfl (by decide) ?_
      conv => whnf
      repeat (first | (refine Conf.mk (by kernel_rfl) ?_; conv => whnf) | (refine SeqOk.go ?_; conv => whnf))
      by_cases h0 : t 7 2 = 0
      · rw [mostGo_nil hb h0] at hgo
        refine BoolCase.yes (by simpa using h0) ?_
        conv => whnf
        repeat (first | (refine Conf.mk (by kernel_rfl) ?_; conv => whnf) | (refine SeqOk.go ?_; conv => whnf))
        subst hQ1
        conv => whnf
        rw [← hgo]
        exact Ret.to rfl
      · rw [mostGo_on hb h0] at hgo
        refine BoolCase.no (by simpa using h0) ?_
        conv => whnf
        repeat (first | (refine Conf.mk (by kernel_rfl) ?_; conv => whnf) | (refine SeqOk.go ?_; conv => whnf))
        refine .mk 7 rfl (by decide) ?_
        conv => whnf
        repeat (first | (refine Conf.mk (by kernel_rfl) ?_; conv => whnf) | (refine SeqOk.go ?_; conv => whnf))
        refine .mk 2 rfl (by decide) ?_
        conv => whnf
        repeat (first | (refine Conf.mk (by kernel_rfl) ?_; conv => whnf) | (refine SeqOk.go ?_; conv => whnf))
        by_cases h2 : g < t 7 2
        · rw [if_pos h2] at hgo
          refine BoolCase.yes (by simpa using h2) ?_
          conv => whnf
          repeat (first | (refine Conf.mk (by kernel_rfl) ?_; conv => whnf) | (refine SeqOk.go ?_; conv => whnf))
          refine .mk 7 rfl (by decide) ?_
          conv => whnf
          repeat (first | (refine Conf.mk (by kernel_rfl) ?_; conv => whnf) | (refine SeqOk.go ?_; conv => whnf))
          refine .mk 2 rfl (by decide) ?_
          conv => whnf
          repeat (first | (refine Conf.mk (by kernel_rfl) ?_; conv => whnf) | (refine SeqOk.go ?_; conv => whnf))
          exact Into.mono (Into.to [] [(9, dInt (2 + 1 : Nat)), (8, dInt (t 7 2)), (0, .dat (.ptr [.int .i64 (t 0 0), .int .i64 (t 0 1), .int .i64 (t 0 2), .int .i64 (t 1 0), .int .i64 (t 1 1), .int .i64 (t 1 2), .int .i64 (t 2 0), .int .i64 (t 2 1), .int .i64 (t 2 2), .int .i64 (t 3 0), .int .i64 (t 3 1), .int .i64 (t 3 2), .int .i64 (t 4 0), .int .i64 (t 4 1), .int .i64 (t 4 2), .int .i64 (t 5 0), .int .i64 (t 5 1), .int .i64 (t 5 2), .int .i64 (t 6 0), .int .i64 (t 6 1), .int .i64 (t 6 2), .int .i64 (t 7 0), .int .i64 (t 7 1), .int .i64 (t 7 2)])), (1, dInt (7 : Nat)), (2, dInt c)] [] (by repeat (first | exact trivial | refine ⟨.same (congrArg dInt (wrap_up (by omega))), ?_⟩ | refine ⟨.same rfl, ?_⟩ | refine ⟨.any _, ?_⟩)) trivial rfl rfl) fun s' h => ⟨0, by omega, 3, (t 7 2), by omega, hgo, h⟩
        · rw [if_neg h2] at hgo
          refine BoolCase.no (by simpa using h2) ?_
          conv => whnf
          repeat (first | (refine Conf.mk (by kernel_rfl) ?_; conv => whnf) | (refine SeqOk.go ?_; conv => whnf))
          exact Into.mono (Into.to [] [(9, dInt (2 + 1 : Nat)), (8, dInt g), (0, .dat (.ptr [.int .i64 (t 0 0), .int .i64 (t 0 1), .int .i64 (t 0 2), .int .i64 (t 1 0), .int .i64 (t 1 1), .int .i64 (t 1 2), .int .i64 (t 2 0), .int .i64 (t 2 1), .int .i64 (t 2 2), .int .i64 (t 3 0), .int .i64 (t 3 1), .int .i64 (t 3 2), .int .i64 (t 4 0), .int .i64 (t 4 1), .int .i64 (t 4 2), .int .i64 (t 5 0), .int .i64 (t 5 1), .int .i64 (t 5 2), .int .i64 (t 6 0), .int .i64 (t 6 1), .int .i64 (t 6 2), .int .i64 (t 7 0), .int .i64 (t 7 1), .int .i64 (t 7 2)])), (1, dInt (7 : Nat)), (2, dInt c)] [] (by repeat (first | exact trivial | refine ⟨.same (congrArg dInt (wrap_up (by omega))), ?_⟩ | refine ⟨.same rfl, ?_⟩ | refine ⟨.any _, ?_⟩)) trivial rfl rfl) fun s' h => ⟨0, by omega, 3, g, by omega, hgo, h⟩
  · obtain rfl : m = 0 := by omega
    conv => whnf
    repeat (first | (refine Conf.mk (by kernel_rfl) ?_; conv => whnf) | (refine SeqOk.go ?_; conv => whnf))
    refine BoolCase.no rfl ?_
    conv => whnf
    repeat (first | (refine Conf.mk (by kernel_rfl) ?_; conv => whnf) | (refine SeqOk.go ?_; conv => whnf))
    subst hQ1
    conv => whnf
    rw [mostGo_end] at hgo
    rw [← hgo]
    exact Ret.to rfl
theorem most_ok (t : Tb) (n : Nat) (c : Int) (h1 : 1 ≤ n) (h7 : n ≤ 7) (hc : 1 ≤ c ∧ c ≤ 7) : PCall Try.prog 31 [.dat (.ptr [.int .i64 (t 0 0), .int .i64 (t 0 1), .int .i64 (t 0 2), .int .i64 (t 1 0), .int .i64 (t 1 1), .int .i64 (t 1 2), .int .i64 (t 2 0), .int .i64 (t 2 1), .int .i64 (t 2 2), .int .i64 (t 3 0), .int .i64 (t 3 1), .int .i64 (t 3 2), .int .i64 (t 4 0), .int .i64 (t 4 1), .int .i64 (t 4 2), .int .i64 (t 5 0), .int .i64 (t 5 1), .int .i64 (t 5 2), .int .i64 (t 6 0), .int .i64 (t 6 1), .int .i64 (t 6 2), .int .i64 (t 7 0), .int .i64 (t 7 1), .int .i64 (t 7 2)]), dInt n, dInt c] (.tup [dInt (mostV c (t n)).1, dBool (mostV c (t n)).2]) := by
  have hn : n = 1 ∨ n = 2 ∨ n = 3 ∨ n = 4 ∨ n = 5 ∨ n = 6 ∨ n = 7 := by omega
  rcases hn with rfl | rfl | rfl | rfl | rfl | rfl | rfl
  · exact most1_ok t c hc
  · exact most2_ok t c hc
  · exact most3_ok t c hc
  · exact most4_ok t c hc
  · exact most5_ok t c hc
  · exact most6_ok t c hc
  · exact most7_ok t c hc
end Go.Proofs.Ytlioojekjnigiab.AM.Sk
