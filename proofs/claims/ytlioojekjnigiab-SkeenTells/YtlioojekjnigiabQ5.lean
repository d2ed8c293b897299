/- What is leaned on: part 5. -/
import Derived.Test.YtlioojekjnigiabQ4
/- Servers: the document's IsOf, AllOf. -/
namespace Go.Proofs.Ytlioojekjnigiab.AM.Sk
set_option linter.unusedVariables false
set_option linter.unusedSimpArgs false
theorem isOf_ok (c : Int) (i : Nat) (hc : 1 ≤ c ∧ c ≤ 7) (hi : i < 3) : PCall Try.prog 30 [dInt c, dInt i] (dBool (bitOf c i)) := by
  have h1 : c = 1 ∨ c = 2 ∨ c = 3 ∨ c = 4 ∨ c = 5 ∨ c = 6 ∨ c = 7 := by omega
  refine pcall_cut tab_all tab_mixed Try.func30 (by kernel_rfl) Try.ntmps30 rfl ?_
  conv => whnf
  conv => whnf
  repeat (first | (refine Conf.mk (by kernel_rfl) ?_; conv => whnf) | (refine SeqOk.go ?_; conv => whnf))
  have h2 : i = 0 ∨ i = 1 ∨ i = 2 := by omega
  rcases h2 with rfl | rfl | rfl
  · refine .mk 0 [.int .i64 1] rfl rfl rfl ?_
    conv => whnf
    repeat (first | (refine Conf.mk (by kernel_rfl) ?_; conv => whnf) | (refine SeqOk.go ?_; conv => whnf))
    refine .mk _ rfl ?_
    conv => whnf
    repeat (first | (refine Conf.mk (by kernel_rfl) ?_; conv => whnf) | (refine SeqOk.go ?_; conv => whnf))
    refine ⟨by decide, ?_⟩
    conv => whnf
    repeat (first | (refine Conf.mk (by kernel_rfl) ?_; conv => whnf) | (refine SeqOk.go ?_; conv => whnf))
    refine ⟨by decide, ?_⟩
    conv => whnf
    repeat (first | (refine Conf.mk (by kernel_rfl) ?_; conv => whnf) | (refine SeqOk.go ?_; conv => whnf))
    exact Ret.bool (by rcases h1 with rfl | rfl | rfl | rfl | rfl | rfl | rfl <;> rfl)
  · refine .mk 1 [.int .i64 2] rfl rfl rfl ?_
    conv => whnf
    repeat (first | (refine Conf.mk (by kernel_rfl) ?_; conv => whnf) | (refine SeqOk.go ?_; conv => whnf))
    refine .mk _ rfl ?_
    conv => whnf
    repeat (first | (refine Conf.mk (by kernel_rfl) ?_; conv => whnf) | (refine SeqOk.go ?_; conv => whnf))
    refine ⟨by decide, ?_⟩
    conv => whnf
    repeat (first | (refine Conf.mk (by kernel_rfl) ?_; conv => whnf) | (refine SeqOk.go ?_; conv => whnf))
    refine ⟨by decide, ?_⟩
    conv => whnf
    repeat (first | (refine Conf.mk (by kernel_rfl) ?_; conv => whnf) | (refine SeqOk.go ?_; conv => whnf))
    exact Ret.bool (by rcases h1 with rfl | rfl | rfl | rfl | rfl | rfl | rfl <;> rfl)
  · refine .mk 2 [.int .i64 4] rfl rfl rfl ?_
    conv => whnf
    repeat (first | (refine Conf.mk (by kernel_rfl) ?_; conv => whnf) | (refine SeqOk.go ?_; conv => whnf))
    refine .mk _ rfl ?_
    conv => whnf
    repeat (first | (refine Conf.mk (by kernel_rfl) ?_; conv => whnf) | (refine SeqOk.go ?_; conv => whnf))
    refine ⟨by decide, ?_⟩
    conv => whnf
    repeat (first | (refine Conf.mk (by kernel_rfl) ?_; conv => whnf) | (refine SeqOk.go ?_; conv => whnf))
    refine ⟨by decide, ?_⟩
    conv => whnf
    repeat (first | (refine Conf.mk (by kernel_rfl) ?_; conv => whnf) | (refine SeqOk.go ?_; conv => whnf))
    exact Ret.bool (by rcases h1 with rfl | rfl | rfl | rfl | rfl | rfl | rfl <;> rfl)
theorem right_ok {s : Sv} (h : Right s) : SvOk s := ⟨by have := h.len2; omega, by have := h.len; omega⟩
theorem atS {l : List Sv} {i : Nat} {x : Sv} {k : Nat → List D → Prop} {n : Int} (hn : n = (i : Int)) (h : l[i]? = some x) (hk : k i x.enc) : AtIdx n (l.map Sv.enc) 3 k := .mk i x.enc hn (by rw [List.getElem?_map, h]; rfl) rfl hk
theorem elS {l : List Sv} {i : Nat} {x : Sv} {k : List D → Prop} (h : l[i]? = some x) (hk : k x.enc) : ElemAt (l.map Sv.enc) i k := .mk x.enc (by rw [List.getElem?_map, h]; rfl) hk
theorem setS {l : List Sv} {i : Nat} {x : Sv} : (l.set i x).map Sv.enc = (l.map Sv.enc).set i x.enc := List.map_set
set_option maxHeartbeats 0 in
theorem allOf_ok (ss : List Sv) (n c : Int) (hs : ∀ s ∈ ss, SvOk s) : PCall Try.prog 25 [.dat (.list (ss.map Sv.enc)), dInt n, dInt c] (.tup [.dat (.list ((allR ss n c).map Sv.enc)), dInt (allE ss n c)]) := by
  have hnoR : allE ss n c ≠ 0 → allR ss n c = [] := fun h => by unfold allR; rw [if_neg h]
  refine pcall_cut tab_all tab_mixed Try.func25 (by kernel_rfl) Try.ntmps25 rfl ?_
  conv => whnf
  conv => whnf
  repeat (first | (refine Conf.mk (by kernel_rfl) ?_; conv => whnf) | (refine SeqOk.go ?_; conv => whnf))
  by_cases h3 : ss.length = 3
  · refine BoolCase.no (by simp [h3]) ?_
    conv => whnf
    repeat (first | (refine Conf.mk (by kernel_rfl) ?_; conv => whnf) | (refine SeqOk.go ?_; conv => whnf))
    refine LoopOk.hide fun Q1 hQ1 => ?_
    refine LoopOk.mk (fun m s => ∃ i, i + m = 3 ∧ (∀ j, j < i → errAt ss j = 0) ∧ s = ⟨[(8, dInt i), (0, .dat (.list (ss.map Sv.enc))), (1, dInt n), (2, dInt c)], 0, []⟩) 3 (Into.mono (Into.to [] [(8, dInt (0 : Nat)), (0, .dat (.list (ss.map Sv.enc))), (1, dInt n), (2, dInt c)] [] (by repeat (first | exact trivial | refine ⟨.same (congrArg dInt (wrap_up (by omega))), ?_⟩ | refine ⟨.same rfl, ?_⟩ | refine ⟨.any _, ?_⟩)) trivial rfl rfl) fun s' h => ⟨0, by omega, fun j hj => absurd hj (Nat.not_lt_zero _), h⟩) ?_
    rintro m s ⟨i, hi, hp, rfl⟩
    conv => whnf
    repeat (first | (refine Conf.mk (by kernel_rfl) ?_; conv => whnf) | (refine SeqOk.go ?_; conv => whnf))
    by_cases hi3 : i < 3
    · have hi' : i < ss.length := by omega
      have hx : errAt ss i = ss[i].err := by unfold errAt; rw [List.getElem?_eq_getElem hi']
      obtain ⟨k1, k2⟩ := hs _ (List.getElem_mem hi')
      refine BoolCase.yes (by simp; omega) ?_
      conv => whnf
      repeat (first | (refine Conf.mk (by kernel_rfl) ?_; conv => whnf) | (refine SeqOk.go ?_; conv => whnf))
      refine AtIdx.ofMap hi' rfl ?_
      conv => whnf
      repeat (first | (refine Conf.mk (by kernel_rfl) ?_; conv => whnf) | (refine SeqOk.go ?_; conv => whnf))
      refine .data _ _ (checkServer_ok ss[i] k1 k2) rfl ?_
      conv => whnf
      repeat (first | (refine Conf.mk (by kernel_rfl) ?_; conv => whnf) | (refine SeqOk.go ?_; conv => whnf))
      by_cases h4 : ss[i].err = 0
      · refine BoolCase.no (by simp [h4]) ?_
        conv => whnf
        repeat (first | (refine Conf.mk (by kernel_rfl) ?_; conv => whnf) | (refine SeqOk.go ?_; conv => whnf))
        exact Into.mono (Into.to [] [(8, dInt (i + 1 : Nat)), (0, .dat (.list (ss.map Sv.enc))), (1, dInt n), (2, dInt c)] [] (by repeat (first | exact trivial | refine ⟨.same (congrArg dInt (wrap_up (by omega))), ?_⟩ | refine ⟨.same rfl, ?_⟩ | refine ⟨.any _, ?_⟩)) trivial rfl rfl) fun s' h => ⟨m - 1, by omega, i + 1, by omega, fun j hj => by
          by_cases e : j = i
          · rw [e, hx]; exact h4
          · exact hp j (by omega), h⟩
      · have hF : firstErr (errAt ss) 3 = ss[i].err := by rw [firstErr_at _ i hp (by rw [hx]; exact h4) _ (by omega), hx]
        have hE : allErr ss c = ss[i].err := by
          show (if ss.length ≠ 3 then 1 else if firstErr (errAt ss) 3 ≠ 0 then firstErr (errAt ss) 3 else if c < 1 ∨ 7 < c then 3 else 0) = _
          rw [if_neg (by simp [h3]), hF, if_pos h4]
        have hE : allE ss n c = ss[i].err := by unfold allE; rw [hE, if_pos h4]
        refine BoolCase.yes (by simpa using h4) ?_
        conv => whnf
        repeat (first | (refine Conf.mk (by kernel_rfl) ?_; conv => whnf) | (refine SeqOk.go ?_; conv => whnf))
        subst hQ1
        conv => whnf
        rw [hnoR (by rw [hE]; exact h4), hE]
        exact Ret.to rfl
    · have hF : firstErr (errAt ss) 3 = 0 := firstErr_zero _ _ fun j hj => hp j (by omega)
      have hE0 : allErr ss c = if c < 1 ∨ 7 < c then 3 else 0 := by
        show (if ss.length ≠ 3 then 1 else if firstErr (errAt ss) 3 ≠ 0 then firstErr (errAt ss) 3 else if c < 1 ∨ 7 < c then 3 else 0) = _
        rw [if_neg (by simp [h3]), hF, if_neg (by simp)]
      refine BoolCase.no (by simp; omega) ?_
      conv => whnf
      repeat (first | (refine Conf.mk (by kernel_rfl) ?_; conv => whnf) | (refine SeqOk.go ?_; conv => whnf))
      subst hQ1
      conv => whnf
      conv => whnf
      repeat (first | (refine Conf.mk (by kernel_rfl) ?_; conv => whnf) | (refine SeqOk.go ?_; conv => whnf))
      refine .look _ _ (kbetween_ok c 1 7) rfl rfl ?_
      conv => whnf
      repeat (first | (refine Conf.mk (by kernel_rfl) ?_; conv => whnf) | (refine SeqOk.go ?_; conv => whnf))
      by_cases h5 : c < 1 ∨ 7 < c
      · rw [if_pos h5] at hE0
        have hE : allE ss n c = 3 := by unfold allE; rw [hE0]; rfl
        refine BoolCase.yes (by rw [between_colors]; simpa using h5) ?_
        conv => whnf
        repeat (first | (refine Conf.mk (by kernel_rfl) ?_; conv => whnf) | (refine SeqOk.go ?_; conv => whnf))
        rw [hnoR (by rw [hE]; decide), hE]
        exact Ret.to rfl
      · rw [if_neg h5] at hE0
        have hc : 1 ≤ c ∧ c ≤ 7 := by omega
        obtain ⟨_, hzero, _⟩ := allErr_zero hE0
        have hright : ∀ s ∈ ss, Right s := fun s hs => right_of_err (hzero s hs)
        refine BoolCase.no (by rw [between_colors]; simpa using h5) ?_
        clear hp hF hi hi3
        conv => whnf
        repeat (first | (refine Conf.mk (by kernel_rfl) ?_; conv => whnf) | (refine SeqOk.go ?_; conv => whnf))
        refine ⟨by simp [Sv.enc], by simp; omega, ?_⟩
        conv => whnf
        repeat (first | (refine Conf.mk (by kernel_rfl) ?_; conv => whnf) | (refine SeqOk.go ?_; conv => whnf))
        refine LoopOk.hide fun Q2 hQ2 => ?_
        refine LoopOk.mk (fun m st => ∃ i cur g, i + m = 3 ∧ cur.length = 3 ∧ (∀ s ∈ cur, Right s) ∧ eachGo (fP n) c m i cur g = allP ss n c ∧ st = ⟨[(12, dInt i), (11, dInt g), (10, .row 0), (1, dInt n), (2, dInt c)], 1, [(0, .rows 43 3 (cur.map Sv.enc) true)]⟩) 3 (Into.mono (Into.to [0] [(12, dInt (0 : Nat)), (11, dInt 0), (10, .row 0), (1, dInt n), (2, dInt c)] [(0, .rows 43 3 (ss.map Sv.enc) true)] (by repeat (first | exact trivial | refine ⟨.same (congrArg dInt (wrap_up (by omega))), ?_⟩ | refine ⟨.same rfl, ?_⟩ | refine ⟨.any _, ?_⟩)) ⟨⟨rfl, rfl, rfl, rfl⟩, trivial⟩ rfl rfl) fun s' h => ⟨0, ss, 0, rfl, h3, hright, rfl, h⟩) ?_
        rintro m st ⟨i, cur, g, hi, h3c, hrc, hgo, rfl⟩
        conv => whnf
        repeat (first | (refine Conf.mk (by kernel_rfl) ?_; conv => whnf) | (refine SeqOk.go ?_; conv => whnf))
        by_cases hi3 : i < 3
        · obtain ⟨m, rfl⟩ : ∃ m', m = m' + 1 := ⟨m - 1, by omega⟩
          have hx : cur[i]? = some cur[i] := List.getElem?_eq_getElem (by omega)
          have hrx : Right cur[i] := hrc _ (List.getElem_mem (by omega))
          generalize cur[i] = x at hx hrx
          refine BoolCase.yes (by simp; omega) ?_
          conv => whnf
          repeat (first | (refine Conf.mk (by kernel_rfl) ?_; conv => whnf) | (refine SeqOk.go ?_; conv => whnf))
          refine .look _ _ (isOf_ok c i hc hi3) rfl rfl ?_
          conv => whnf
          repeat (first | (refine Conf.mk (by kernel_rfl) ?_; conv => whnf) | (refine SeqOk.go ?_; conv => whnf))
          cases hb : bitOf c i
          · refine BoolCase.no rfl ?_
            conv => whnf
            repeat (first | (refine Conf.mk (by kernel_rfl) ?_; conv => whnf) | (refine SeqOk.go ?_; conv => whnf))
            rw [eachGo_skip' hx hb] at hgo
            exact Into.mono (Into.to [0] [(12, dInt (i + 1 : Nat)), (11, dInt g), (10, .row 0), (1, dInt n), (2, dInt c)] [(0, .rows 43 3 (cur.map Sv.enc) true)] (by repeat (first | exact trivial | refine ⟨.same (congrArg dInt (wrap_up (by omega))), ?_⟩ | refine ⟨.same rfl, ?_⟩ | refine ⟨.any _, ?_⟩)) ⟨⟨rfl, rfl, rfl, rfl⟩, trivial⟩ rfl rfl) fun s' h => ⟨m, by omega, i + 1, cur, g, by omega, h3c, hrc, hgo, h⟩
          · refine BoolCase.yes rfl ?_
            conv => whnf
            repeat (first | (refine Conf.mk (by kernel_rfl) ?_; conv => whnf) | (refine SeqOk.go ?_; conv => whnf))
            refine atS rfl hx ?_
            conv => whnf
            repeat (first | (refine Conf.mk (by kernel_rfl) ?_; conv => whnf) | (refine SeqOk.go ?_; conv => whnf))
            refine elS hx ?_
            conv => whnf
            repeat (first | (refine Conf.mk (by kernel_rfl) ?_; conv => whnf) | (refine SeqOk.go ?_; conv => whnf))
            refine .data _ _ (proposeOf_ok x n hrx) rfl ?_
            conv => whnf
            repeat (first | (refine Conf.mk (by kernel_rfl) ?_; conv => whnf) | (refine SeqOk.go ?_; conv => whnf))
            by_cases h6 : propErr x n = 0
            · have h60 : (fP n x g).2.2 = 0 := by show x.propE n = 0; rw [propE_right hrx]; exact h6
              rw [eachGo_go' hx hb h60] at hgo
              have hfx : fP n x g = (x.propD n, max g (x.propD n).clock, propErr x n) := by unfold fP; rw [propR_right hrx, propE_right hrx]
              rw [hfx] at hgo
              refine BoolCase.no (by simp [h6]) ?_
              conv => whnf
              repeat (first | (refine Conf.mk (by kernel_rfl) ?_; conv => whnf) | (refine SeqOk.go ?_; conv => whnf))
              refine atS rfl hx ?_
              conv => whnf
              repeat (first | (refine Conf.mk (by kernel_rfl) ?_; conv => whnf) | (refine SeqOk.go ?_; conv => whnf))
              refine elS hx ?_
              conv => whnf
              repeat (first | (refine Conf.mk (by kernel_rfl) ?_; conv => whnf) | (refine SeqOk.go ?_; conv => whnf))
              by_cases h7 : g < (x.propD n).clock
              · have hmx : (x.propD n).clock = max g (x.propD n).clock := by omega
                refine BoolCase.yes (by simpa using h7) ?_
                conv => whnf
                repeat (first | (refine Conf.mk (by kernel_rfl) ?_; conv => whnf) | (refine SeqOk.go ?_; conv => whnf))
                exact Into.mono (Into.to [0] [(12, dInt (i + 1 : Nat)), (11, dInt (max g (x.propD n).clock)), (10, .row 0), (1, dInt n), (2, dInt c)] [(0, .rows 43 3 ((cur.set i (x.propD n)).map Sv.enc) true)] ⟨.same (congrArg dInt (wrap_up (by omega))), .same (congrArg dInt hmx.symm), .same rfl, .same rfl, .same rfl, trivial⟩ ⟨⟨rfl, rfl, rfl, setS⟩, trivial⟩ rfl rfl) fun s' h => ⟨m, by omega, i + 1, cur.set i (x.propD n), _, by omega, by simpa using h3c, set_all hrc (propD_right hrx h6).1, hgo, h⟩
              · have hmx : g = max g (x.propD n).clock := by omega
                refine BoolCase.no (by simpa using h7) ?_
                conv => whnf
                repeat (first | (refine Conf.mk (by kernel_rfl) ?_; conv => whnf) | (refine SeqOk.go ?_; conv => whnf))
                exact Into.mono (Into.to [0] [(12, dInt (i + 1 : Nat)), (11, dInt (max g (x.propD n).clock)), (10, .row 0), (1, dInt n), (2, dInt c)] [(0, .rows 43 3 ((cur.set i (x.propD n)).map Sv.enc) true)] ⟨.same (congrArg dInt (wrap_up (by omega))), .same (congrArg dInt hmx.symm), .same rfl, .same rfl, .same rfl, trivial⟩ ⟨⟨rfl, rfl, rfl, setS⟩, trivial⟩ rfl rfl) fun s' h => ⟨m, by omega, i + 1, cur.set i (x.propD n), _, by omega, by simpa using h3c, set_all hrc (propD_right hrx h6).1, hgo, h⟩
            · have h60 : (fP n x g).2.2 ≠ 0 := by show x.propE n ≠ 0; rw [propE_right hrx]; exact h6
              rw [eachGo_err' hx hb h60] at hgo
              have hPe : (allP ss n c).2.2 = propErr x n := by rw [← hgo]; exact propE_right hrx n
              have hE : allE ss n c = propErr x n := by unfold allE; rw [if_neg (by simp [hE0]), hPe, if_pos h6]
              refine BoolCase.yes (by simpa using h6) ?_
              conv => whnf
              repeat (first | (refine Conf.mk (by kernel_rfl) ?_; conv => whnf) | (refine SeqOk.go ?_; conv => whnf))
              subst hQ2
              conv => whnf
              rw [hnoR (by rw [hE]; exact h6), hE]
              exact Ret.to rfl
        · obtain rfl : m = 0 := by omega
          obtain rfl : i = 3 := by omega
          have hP0 : (allP ss n c).2.2 = 0 := by rw [← hgo]; rfl
          have hC0 : eachGo (fC n) c 3 0 cur g = allC ss n c := by unfold allC; rw [← hgo]; rfl
          have hEC : allE ss n c = (allC ss n c).2.2 := by unfold allE; rw [if_neg (by simp [hE0]), if_neg (by simp [hP0])]
          refine BoolCase.no rfl ?_
          conv => whnf
          repeat (first | (refine Conf.mk (by kernel_rfl) ?_; conv => whnf) | (refine SeqOk.go ?_; conv => whnf))
          subst hQ2
          conv => whnf
          conv => whnf
          repeat (first | (refine Conf.mk (by kernel_rfl) ?_; conv => whnf) | (refine SeqOk.go ?_; conv => whnf))
          clear hgo hi3 hi
          refine LoopOk.hide fun Q3 hQ3 => ?_
          refine LoopOk.mk (fun m st => ∃ i cur, i + m = 3 ∧ cur.length = 3 ∧ (∀ s ∈ cur, Right s) ∧ eachGo (fC n) c m i cur g = allC ss n c ∧ st = ⟨[(15, dInt i), (11, dInt g), (10, .row 0), (1, dInt n), (2, dInt c)], 1, [(0, .rows 43 3 (cur.map Sv.enc) true)]⟩) 3 (Into.mono (Into.to [0] [(15, dInt (0 : Nat)), (11, dInt g), (10, .row 0), (1, dInt n), (2, dInt c)] [(0, .rows 43 3 (cur.map Sv.enc) true)] (by repeat (first | exact trivial | refine ⟨.same (congrArg dInt (wrap_up (by omega))), ?_⟩ | refine ⟨.same rfl, ?_⟩ | refine ⟨.any _, ?_⟩)) ⟨⟨rfl, rfl, rfl, rfl⟩, trivial⟩ rfl rfl) fun s' h => ⟨0, cur, rfl, h3c, hrc, hC0, h⟩) ?_
          clear hC0 hrc h3c
          rintro m st ⟨i, cur, hi, h3c, hrc, hgo, rfl⟩
          conv => whnf
          repeat (first | (refine Conf.mk (by kernel_rfl) ?_; conv => whnf) | (refine SeqOk.go ?_; conv => whnf))
          by_cases hi3 : i < 3
          · obtain ⟨m, rfl⟩ : ∃ m', m = m' + 1 := ⟨m - 1, by omega⟩
            have hx : cur[i]? = some cur[i] := List.getElem?_eq_getElem (by omega)
            have hrx : Right cur[i] := hrc _ (List.getElem_mem (by omega))
            generalize cur[i] = x at hx hrx
            refine BoolCase.yes (by simp; omega) ?_
            conv => whnf
            repeat (first | (refine Conf.mk (by kernel_rfl) ?_; conv => whnf) | (refine SeqOk.go ?_; conv => whnf))
            refine .look _ _ (isOf_ok c i hc hi3) rfl rfl ?_
            conv => whnf
            repeat (first | (refine Conf.mk (by kernel_rfl) ?_; conv => whnf) | (refine SeqOk.go ?_; conv => whnf))
            cases hb : bitOf c i
            · refine BoolCase.no rfl ?_
              conv => whnf
              repeat (first | (refine Conf.mk (by kernel_rfl) ?_; conv => whnf) | (refine SeqOk.go ?_; conv => whnf))
              rw [eachGo_skip' hx hb] at hgo
              exact Into.mono (Into.to [0] [(15, dInt (i + 1 : Nat)), (11, dInt g), (10, .row 0), (1, dInt n), (2, dInt c)] [(0, .rows 43 3 (cur.map Sv.enc) true)] (by repeat (first | exact trivial | refine ⟨.same (congrArg dInt (wrap_up (by omega))), ?_⟩ | refine ⟨.same rfl, ?_⟩ | refine ⟨.any _, ?_⟩)) ⟨⟨rfl, rfl, rfl, rfl⟩, trivial⟩ rfl rfl) fun s' h => ⟨m, by omega, i + 1, cur, by omega, h3c, hrc, hgo, h⟩
            · refine BoolCase.yes rfl ?_
              conv => whnf
              repeat (first | (refine Conf.mk (by kernel_rfl) ?_; conv => whnf) | (refine SeqOk.go ?_; conv => whnf))
              refine atS rfl hx ?_
              conv => whnf
              repeat (first | (refine Conf.mk (by kernel_rfl) ?_; conv => whnf) | (refine SeqOk.go ?_; conv => whnf))
              refine elS hx ?_
              conv => whnf
              repeat (first | (refine Conf.mk (by kernel_rfl) ?_; conv => whnf) | (refine SeqOk.go ?_; conv => whnf))
              refine .data _ _ (commitOf_ok x n g hrx) rfl ?_
              conv => whnf
              repeat (first | (refine Conf.mk (by kernel_rfl) ?_; conv => whnf) | (refine SeqOk.go ?_; conv => whnf))
              by_cases h6 : commErr x n g = 0
              · have h60 : (fC n x g).2.2 = 0 := by show x.commE n g = 0; rw [commE_right hrx]; exact h6
                rw [eachGo_go' hx hb h60] at hgo
                have hfx : fC n x g = (x.commD n g, g, commErr x n g) := by unfold fC; rw [commR_right hrx, commE_right hrx]
                rw [hfx] at hgo
                refine BoolCase.no (by simp [h6]) ?_
                conv => whnf
                repeat (first | (refine Conf.mk (by kernel_rfl) ?_; conv => whnf) | (refine SeqOk.go ?_; conv => whnf))
                refine atS rfl hx ?_
                conv => whnf
                repeat (first | (refine Conf.mk (by kernel_rfl) ?_; conv => whnf) | (refine SeqOk.go ?_; conv => whnf))
                refine elS hx ?_
                conv => whnf
                repeat (first | (refine Conf.mk (by kernel_rfl) ?_; conv => whnf) | (refine SeqOk.go ?_; conv => whnf))
                exact Into.mono (Into.to [0] [(15, dInt (i + 1 : Nat)), (11, dInt g), (10, .row 0), (1, dInt n), (2, dInt c)] [(0, .rows 43 3 ((cur.set i (x.commD n g)).map Sv.enc) true)] (by repeat (first | exact trivial | refine ⟨.same (congrArg dInt (wrap_up (by omega))), ?_⟩ | refine ⟨.same rfl, ?_⟩ | refine ⟨.any _, ?_⟩)) ⟨⟨rfl, rfl, rfl, setS⟩, trivial⟩ rfl rfl) fun s' h => ⟨m, by omega, i + 1, cur.set i (x.commD n g), by omega, by simpa using h3c, set_all hrc (commD_right hrx h6), hgo, h⟩
              · have h60 : (fC n x g).2.2 ≠ 0 := by show x.commE n g ≠ 0; rw [commE_right hrx]; exact h6
                rw [eachGo_err' hx hb h60] at hgo
                have hE : allE ss n c = commErr x n g := by rw [hEC, ← hgo]; exact commE_right hrx n g
                refine BoolCase.yes (by simpa using h6) ?_
                conv => whnf
                repeat (first | (refine Conf.mk (by kernel_rfl) ?_; conv => whnf) | (refine SeqOk.go ?_; conv => whnf))
                subst hQ3
                conv => whnf
                rw [hnoR (by rw [hE]; exact h6), hE]
                exact Ret.to rfl
          · obtain rfl : m = 0 := by omega
            obtain rfl : i = 3 := by omega
            have hE : allE ss n c = 0 := by rw [hEC, ← hgo]; rfl
            have hR : allR ss n c = cur := by unfold allR; rw [if_pos hE, ← hgo]; rfl
            refine BoolCase.no rfl ?_
            conv => whnf
            repeat (first | (refine Conf.mk (by kernel_rfl) ?_; conv => whnf) | (refine SeqOk.go ?_; conv => whnf))
            subst hQ3
            conv => whnf
            rw [hR, hE]
            exact Ret.to rfl
  · have hE : allErr ss c = 1 := by unfold allErr; rw [if_pos h3]
    have hE : allE ss n c = 1 := by unfold allE; rw [hE]; rfl
    refine BoolCase.yes (by simp; omega) ?_
    conv => whnf
    repeat (first | (refine Conf.mk (by kernel_rfl) ?_; conv => whnf) | (refine SeqOk.go ?_; conv => whnf))
    rw [hnoR (by rw [hE]; decide), hE]
    exact Ret.to rfl
end Go.Proofs.Ytlioojekjnigiab.AM.Sk
/- Servers: the same ones; what must be in any case. -/
namespace Go.Proofs.Ytlioojekjnigiab.AM.Sk
set_option linter.unusedVariables false
set_option linter.unusedSimpArgs false
set_option maxHeartbeats 0 in
theorem sameServer_ok (s : Sv) (h : SvOk s) : PCall Try.prog 64 [s.arg, s.arg] (dBool true) := by
  obtain ⟨hd, hw⟩ := h
  refine pcall_cut tab_all tab_mixed Try.func64 (by kernel_rfl) Try.ntmps64 rfl ?_
  conv => whnf
  conv => whnf
  repeat (first | (refine Conf.mk (by kernel_rfl) ?_; conv => whnf) | (refine SeqOk.go ?_; conv => whnf))
  refine BoolCase.no (by simp) ?_
  conv => whnf
  repeat (first | (refine Conf.mk (by kernel_rfl) ?_; conv => whnf) | (refine SeqOk.go ?_; conv => whnf))
  refine BoolCase.no (by simp) ?_
  conv => whnf
  repeat (first | (refine Conf.mk (by kernel_rfl) ?_; conv => whnf) | (refine SeqOk.go ?_; conv => whnf))
  refine BoolCase.no (by simp) ?_
  conv => whnf
  repeat (first | (refine Conf.mk (by kernel_rfl) ?_; conv => whnf) | (refine SeqOk.go ?_; conv => whnf))
  refine LoopOk.hide fun Q1 hQ1 => ?_
  refine LoopOk.mk (fun m st => ∃ i, i + m = s.waits.length ∧ st = ⟨[(5, dInt i), (2, .ptr 0 0), (3, .ptr 1 0)], 2, [(0, .vars 43 3 [dInt s.clock, .dat (.list (s.waits.map Wt.enc)), .dat (.list (s.done.map encI))] true), (1, .vars 43 3 [dInt s.clock, .dat (.list (s.waits.map Wt.enc)), .dat (.list (s.done.map encI))] true)]⟩) s.waits.length (Into.mono (Into.to [0, 1] [(5, dInt (0 : Nat)), (2, .ptr 0 0), (3, .ptr 1 0)] [(0, .vars 43 3 [dInt s.clock, .dat (.list (s.waits.map Wt.enc)), .dat (.list (s.done.map encI))] true), (1, .vars 43 3 [dInt s.clock, .dat (.list (s.waits.map Wt.enc)), .dat (.list (s.done.map encI))] true)] (by repeat (first | exact trivial | refine ⟨.same (congrArg dInt (wrap_up (by omega))), ?_⟩ | refine ⟨.same rfl, ?_⟩ | refine ⟨.any _, ?_⟩)) ⟨⟨rfl, rfl, rfl, .same rfl, rfl, .same rfl, rfl, .same rfl, rfl, trivial⟩, ⟨rfl, rfl, rfl, .same rfl, rfl, .same rfl, rfl, .same rfl, rfl, trivial⟩, trivial⟩ rfl rfl) fun s' h => ⟨0, by omega, h⟩) ?_
  rintro m st ⟨i, hi, rfl⟩
  conv => whnf
  repeat (first | (refine Conf.mk (by kernel_rfl) ?_; conv => whnf) | (refine SeqOk.go ?_; conv => whnf))
  refine ⟨fun h => ?_, fun h => ?_⟩
  · have hi' := lt_of h
    conv => whnf
    repeat (first | (refine Conf.mk (by kernel_rfl) ?_; conv => whnf) | (refine SeqOk.go ?_; conv => whnf))
    refine AtIdx.ofMap hi' rfl ?_
    conv => whnf
    repeat (first | (refine Conf.mk (by kernel_rfl) ?_; conv => whnf) | (refine SeqOk.go ?_; conv => whnf))
    refine AtIdx.ofMap hi' rfl ?_
    conv => whnf
    repeat (first | (refine Conf.mk (by kernel_rfl) ?_; conv => whnf) | (refine SeqOk.go ?_; conv => whnf))
    refine BoolCase.no (by simp) ?_
    conv => whnf
    repeat (first | (refine Conf.mk (by kernel_rfl) ?_; conv => whnf) | (refine SeqOk.go ?_; conv => whnf))
    exact Into.mono (Into.to [0, 1] [(5, dInt (i + 1 : Nat)), (2, .ptr 0 0), (3, .ptr 1 0)] [(0, .vars 43 3 [dInt s.clock, .dat (.list (s.waits.map Wt.enc)), .dat (.list (s.done.map encI))] true), (1, .vars 43 3 [dInt s.clock, .dat (.list (s.waits.map Wt.enc)), .dat (.list (s.done.map encI))] true)] (by repeat (first | exact trivial | refine ⟨.same (congrArg dInt (wrap_up (by omega))), ?_⟩ | refine ⟨.same rfl, ?_⟩ | refine ⟨.any _, ?_⟩)) ⟨⟨rfl, rfl, rfl, .same rfl, rfl, .same rfl, rfl, .same rfl, rfl, trivial⟩, ⟨rfl, rfl, rfl, .same rfl, rfl, .same rfl, rfl, .same rfl, rfl, trivial⟩, trivial⟩ rfl rfl) fun s' h => ⟨m - 1, by omega, i + 1, by omega, h⟩
  · conv => whnf
    repeat (first | (refine Conf.mk (by kernel_rfl) ?_; conv => whnf) | (refine SeqOk.go ?_; conv => whnf))
    subst hQ1
    conv => whnf
    conv => whnf
    repeat (first | (refine Conf.mk (by kernel_rfl) ?_; conv => whnf) | (refine SeqOk.go ?_; conv => whnf))
    clear hi h
    refine LoopOk.hide fun Q2 hQ2 => ?_
    refine LoopOk.mk (fun m st => ∃ i, i + m = s.done.length ∧ st = ⟨[(6, dInt i), (2, .ptr 0 0), (3, .ptr 1 0)], 2, [(0, .vars 43 3 [dInt s.clock, .dat (.list (s.waits.map Wt.enc)), .dat (.list (s.done.map encI))] true), (1, .vars 43 3 [dInt s.clock, .dat (.list (s.waits.map Wt.enc)), .dat (.list (s.done.map encI))] true)]⟩) s.done.length (Into.mono (Into.to [0, 1] [(6, dInt (0 : Nat)), (2, .ptr 0 0), (3, .ptr 1 0)] [(0, .vars 43 3 [dInt s.clock, .dat (.list (s.waits.map Wt.enc)), .dat (.list (s.done.map encI))] true), (1, .vars 43 3 [dInt s.clock, .dat (.list (s.waits.map Wt.enc)), .dat (.list (s.done.map encI))] true)] (by repeat (first | exact trivial | refine ⟨.same (congrArg dInt (wrap_up (by omega))), ?_⟩ | refine ⟨.same rfl, ?_⟩ | refine ⟨.any _, ?_⟩)) ⟨⟨rfl, rfl, rfl, .same rfl, rfl, .same rfl, rfl, .same rfl, rfl, trivial⟩, ⟨rfl, rfl, rfl, .same rfl, rfl, .same rfl, rfl, .same rfl, rfl, trivial⟩, trivial⟩ rfl rfl) fun s' h => ⟨0, by omega, h⟩) ?_
    rintro m st ⟨i, hi, rfl⟩
    conv => whnf
    repeat (first | (refine Conf.mk (by kernel_rfl) ?_; conv => whnf) | (refine SeqOk.go ?_; conv => whnf))
    refine ⟨fun h => ?_, fun h => ?_⟩
    · have hi' := lt_of h
      conv => whnf
      repeat (first | (refine Conf.mk (by kernel_rfl) ?_; conv => whnf) | (refine SeqOk.go ?_; conv => whnf))
      refine AtIdx.ofMap hi' rfl ?_
      conv => whnf
      repeat (first | (refine Conf.mk (by kernel_rfl) ?_; conv => whnf) | (refine SeqOk.go ?_; conv => whnf))
      refine AtIdx.ofMap hi' rfl ?_
      conv => whnf
      repeat (first | (refine Conf.mk (by kernel_rfl) ?_; conv => whnf) | (refine SeqOk.go ?_; conv => whnf))
      refine BoolCase.no (by simp) ?_
      conv => whnf
      repeat (first | (refine Conf.mk (by kernel_rfl) ?_; conv => whnf) | (refine SeqOk.go ?_; conv => whnf))
      exact Into.mono (Into.to [0, 1] [(6, dInt (i + 1 : Nat)), (2, .ptr 0 0), (3, .ptr 1 0)] [(0, .vars 43 3 [dInt s.clock, .dat (.list (s.waits.map Wt.enc)), .dat (.list (s.done.map encI))] true), (1, .vars 43 3 [dInt s.clock, .dat (.list (s.waits.map Wt.enc)), .dat (.list (s.done.map encI))] true)] (by repeat (first | exact trivial | refine ⟨.same (congrArg dInt (wrap_up (by omega))), ?_⟩ | refine ⟨.same rfl, ?_⟩ | refine ⟨.any _, ?_⟩)) ⟨⟨rfl, rfl, rfl, .same rfl, rfl, .same rfl, rfl, .same rfl, rfl, trivial⟩, ⟨rfl, rfl, rfl, .same rfl, rfl, .same rfl, rfl, .same rfl, rfl, trivial⟩, trivial⟩ rfl rfl) fun s' h => ⟨m - 1, by omega, i + 1, by omega, h⟩
    · conv => whnf
      repeat (first | (refine Conf.mk (by kernel_rfl) ?_; conv => whnf) | (refine SeqOk.go ?_; conv => whnf))
      subst hQ2
      conv => whnf
      exact Ret.to rfl
set_option maxHeartbeats 0 in
theorem sameServers_ok (l : List Sv) (hok : ∀ s ∈ l, SvOk s) (hl : l.length ≤ 1000) : PCall Try.prog 29 [.dat (.list (l.map Sv.enc)), .dat (.list (l.map Sv.enc))] (dBool true) := by
  refine pcall_cut tab_all tab_mixed Try.func29 (by kernel_rfl) Try.ntmps29 rfl ?_
  conv => whnf
  conv => whnf
  repeat (first | (refine Conf.mk (by kernel_rfl) ?_; conv => whnf) | (refine SeqOk.go ?_; conv => whnf))
  refine BoolCase.no (by simp) ?_
  conv => whnf
  repeat (first | (refine Conf.mk (by kernel_rfl) ?_; conv => whnf) | (refine SeqOk.go ?_; conv => whnf))
  refine LoopOk.hide fun Q1 hQ1 => ?_
  refine LoopOk.mk (fun m st => ∃ i, i + m = l.length ∧ st = ⟨[(5, dInt i), (0, .dat (.list (l.map Sv.enc))), (1, .dat (.list (l.map Sv.enc)))], 0, []⟩) l.length (Into.mono (Into.to [] [(5, dInt (0 : Nat)), (0, .dat (.list (l.map Sv.enc))), (1, .dat (.list (l.map Sv.enc)))] [] (by repeat (first | exact trivial | refine ⟨.same (congrArg dInt (wrap_up (by omega))), ?_⟩ | refine ⟨.same rfl, ?_⟩ | refine ⟨.any _, ?_⟩)) trivial rfl rfl) fun s' h => ⟨0, by omega, h⟩) ?_
  rintro m st ⟨i, hi, rfl⟩
  conv => whnf
  repeat (first | (refine Conf.mk (by kernel_rfl) ?_; conv => whnf) | (refine SeqOk.go ?_; conv => whnf))
  refine ⟨fun h => ?_, fun h => ?_⟩
  · have hi' := lt_of h
    conv => whnf
    repeat (first | (refine Conf.mk (by kernel_rfl) ?_; conv => whnf) | (refine SeqOk.go ?_; conv => whnf))
    refine AtIdx.ofMap hi' rfl ?_
    conv => whnf
    repeat (first | (refine Conf.mk (by kernel_rfl) ?_; conv => whnf) | (refine SeqOk.go ?_; conv => whnf))
    refine AtIdx.ofMap hi' rfl ?_
    conv => whnf
    repeat (first | (refine Conf.mk (by kernel_rfl) ?_; conv => whnf) | (refine SeqOk.go ?_; conv => whnf))
    refine .data _ _ (PCall.kb (sameServer_ok l[i] (hok _ (List.getElem_mem hi')))) rfl ?_
    conv => whnf
    repeat (first | (refine Conf.mk (by kernel_rfl) ?_; conv => whnf) | (refine SeqOk.go ?_; conv => whnf))
    exact Into.mono (Into.to [] [(5, dInt (i + 1 : Nat)), (0, .dat (.list (l.map Sv.enc))), (1, .dat (.list (l.map Sv.enc)))] [] (by repeat (first | exact trivial | refine ⟨.same (congrArg dInt (wrap_up (by omega))), ?_⟩ | refine ⟨.same rfl, ?_⟩ | refine ⟨.any _, ?_⟩)) trivial rfl rfl) fun s' h => ⟨m - 1, by omega, i + 1, by omega, h⟩
  · conv => whnf
    repeat (first | (refine Conf.mk (by kernel_rfl) ?_; conv => whnf) | (refine SeqOk.go ?_; conv => whnf))
    subst hQ1
    conv => whnf
    exact Ret.to rfl
set_option maxHeartbeats 0 in
theorem serverIs_ok (s : Sv) (e : Int) (h : SvOk s) (hz : e ≠ 0 → s = zeroSv) : PCall Try.prog 28 [s.arg, dInt e, dInt e, s.arg] (dBool true) := by
  refine pcall_cut tab_all tab_mixed Try.func28 (by kernel_rfl) Try.ntmps28 rfl ?_
  conv => whnf
  conv => whnf
  repeat (first | (refine Conf.mk (by kernel_rfl) ?_; conv => whnf) | (refine SeqOk.go ?_; conv => whnf))
  by_cases h0 : e = 0
  · refine BoolCase.no (by simp [h0]) ?_
    conv => whnf
    repeat (first | (refine Conf.mk (by kernel_rfl) ?_; conv => whnf) | (refine SeqOk.go ?_; conv => whnf))
    refine BoolCase.yes (by simp) ?_
    conv => whnf
    repeat (first | (refine Conf.mk (by kernel_rfl) ?_; conv => whnf) | (refine SeqOk.go ?_; conv => whnf))
    refine .data _ _ (sameServer_ok s h) rfl ?_
    conv => whnf
    repeat (first | (refine Conf.mk (by kernel_rfl) ?_; conv => whnf) | (refine SeqOk.go ?_; conv => whnf))
    exact Ret.to rfl
  · obtain rfl := hz h0
    refine BoolCase.yes (by simpa using h0) ?_
    conv => whnf
    repeat (first | (refine Conf.mk (by kernel_rfl) ?_; conv => whnf) | (refine SeqOk.go ?_; conv => whnf))
    refine BoolCase.yes (by simp) ?_
    conv => whnf
    repeat (first | (refine Conf.mk (by kernel_rfl) ?_; conv => whnf) | (refine SeqOk.go ?_; conv => whnf))
    refine .data _ _ (sameServer_ok zeroSv h) rfl ?_
    conv => whnf
    repeat (first | (refine Conf.mk (by kernel_rfl) ?_; conv => whnf) | (refine SeqOk.go ?_; conv => whnf))
    exact Ret.to rfl
def sA : Sv := ⟨5, [⟨7, 5, false⟩], []⟩
def sB : Sv := ⟨9, [], [7]⟩
def lIn : List Sv := [⟨3, [], []⟩, ⟨0, [], []⟩, ⟨1, [], []⟩]
def lOut : List Sv := [⟨4, [], [2]⟩, ⟨0, [], []⟩, ⟨4, [], [2]⟩]
theorem begun1 : (⟨4, [], []⟩ : Sv).propR 7 = sA ∧ (⟨4, [], []⟩ : Sv).propE 7 = 0 := by constructor <;> kernel_rfl
theorem begun2 : sA.commR 7 9 = sB ∧ sA.commE 7 9 = 0 := by constructor <;> kernel_rfl
theorem begun3 : allR lIn 2 5 = lOut ∧ allE lIn 2 5 = 0 := by constructor <;> kernel_rfl
theorem begun4 : sA.err = 0 := by kernel_rfl
set_option maxHeartbeats 0 in
theorem skeenBegun_ok : PCall Try.prog 26 [] (dBool true) := by
  have c1 := sprop_ok ⟨4, [], []⟩ 7 (by decide) (by decide)
  rw [begun1.1, begun1.2] at c1
  have c2 := scomm_ok sA 7 9 (by decide) (by decide)
  rw [begun2.1, begun2.2] at c2
  have c3 := sall_ok lIn 2 5 (by intro s hs; simp [lIn] at hs; rcases hs with rfl | rfl | rfl <;> exact ⟨by decide, by decide⟩)
  rw [begun3.1, begun3.2] at c3
  have c4 := scheck_ok sA (by decide) (by decide)
  rw [begun4] at c4
  refine pcall_cut tab_all tab_mixed Try.func26 (by kernel_rfl) Try.ntmps26 rfl ?_
  conv => whnf
  conv => whnf
  repeat (first | (refine Conf.mk (by kernel_rfl) ?_; conv => whnf) | (refine SeqOk.go ?_; conv => whnf))
  refine .data _ _ c1 rfl ?_
  conv => whnf
  repeat (first | (refine Conf.mk (by kernel_rfl) ?_; conv => whnf) | (refine SeqOk.go ?_; conv => whnf))
  refine .data _ _ c2 rfl ?_
  conv => whnf
  repeat (first | (refine Conf.mk (by kernel_rfl) ?_; conv => whnf) | (refine SeqOk.go ?_; conv => whnf))
  refine .keep [2] _ _ c3 rfl rfl rfl rfl ?_
  conv => whnf
  repeat (first | (refine Conf.mk (by kernel_rfl) ?_; conv => whnf) | (refine SeqOk.go ?_; conv => whnf))
  refine .data _ _ c4 rfl ?_
  conv => whnf
  repeat (first | (refine Conf.mk (by kernel_rfl) ?_; conv => whnf) | (refine SeqOk.go ?_; conv => whnf))
  repeat (refine BoolCase.yes rfl ?_; conv => whnf)
  refine .mk 0 (⟨4, [], [2]⟩ : Sv).enc rfl rfl rfl ?_
  conv => whnf
  repeat (first | (refine Conf.mk (by kernel_rfl) ?_; conv => whnf) | (refine SeqOk.go ?_; conv => whnf))
  refine BoolCase.yes rfl ?_
  conv => whnf
  repeat (first | (refine Conf.mk (by kernel_rfl) ?_; conv => whnf) | (refine SeqOk.go ?_; conv => whnf))
  refine .mk 2 (⟨4, [], [2]⟩ : Sv).enc rfl rfl rfl ?_
  conv => whnf
  repeat (first | (refine Conf.mk (by kernel_rfl) ?_; conv => whnf) | (refine SeqOk.go ?_; conv => whnf))
  refine BoolCase.yes rfl ?_
  conv => whnf
  repeat (first | (refine Conf.mk (by kernel_rfl) ?_; conv => whnf) | (refine SeqOk.go ?_; conv => whnf))
  refine .mk 1 (⟨0, [], []⟩ : Sv).enc rfl rfl rfl ?_
  conv => whnf
  repeat (first | (refine Conf.mk (by kernel_rfl) ?_; conv => whnf) | (refine SeqOk.go ?_; conv => whnf))
  refine BoolCase.yes rfl ?_
  conv => whnf
  repeat (first | (refine Conf.mk (by kernel_rfl) ?_; conv => whnf) | (refine SeqOk.go ?_; conv => whnf))
  refine .mk 2 (⟨4, [], [2]⟩ : Sv).enc rfl rfl rfl ?_
  conv => whnf
  repeat (first | (refine Conf.mk (by kernel_rfl) ?_; conv => whnf) | (refine SeqOk.go ?_; conv => whnf))
  exact Ret.to rfl
end Go.Proofs.Ytlioojekjnigiab.AM.Sk
/- Servers: SkeenTells. -/
namespace Go.Proofs.Ytlioojekjnigiab.AM.Sk
set_option linter.unusedVariables false
set_option linter.unusedSimpArgs false
set_option maxHeartbeats 0 in
theorem skeenTells_ok (s : Sv) (n t : Int) (l : List Sv) (c : Int) (hs : SvOk s) (hl : ∀ s ∈ l, SvOk s) : PCall Try.prog 5 [s.arg, dInt n, dInt t, .dat (.list (l.map Sv.enc)), dInt c] (dBool true) := by
  have c1 := sprop_ok s n hs.1 hs.2
  have c2 := scomm_ok s n t hs.1 hs.2
  have c3 := sall_ok l n c hl
  have c4 := checkServer_ok s hs.1 hs.2
  have c5 := allOf_ok l n c hl
  have c6 := scheck_ok s hs.1 hs.2
  refine pcall_cut tab_all tab_mixed Try.func5 (by kernel_rfl) Try.ntmps5 rfl ?_
  conv => whnf
  conv => whnf
  repeat (first | (refine Conf.mk (by kernel_rfl) ?_; conv => whnf) | (refine SeqOk.go ?_; conv => whnf))
  refine .data _ _ c1 rfl ?_
  conv => whnf
  repeat (first | (refine Conf.mk (by kernel_rfl) ?_; conv => whnf) | (refine SeqOk.go ?_; conv => whnf))
  refine .data _ _ c2 rfl ?_
  conv => whnf
  repeat (first | (refine Conf.mk (by kernel_rfl) ?_; conv => whnf) | (refine SeqOk.go ?_; conv => whnf))
  refine .data _ _ c3 rfl ?_
  conv => whnf
  repeat (first | (refine Conf.mk (by kernel_rfl) ?_; conv => whnf) | (refine SeqOk.go ?_; conv => whnf))
  refine .data _ _ c4 rfl ?_
  conv => whnf
  repeat (first | (refine Conf.mk (by kernel_rfl) ?_; conv => whnf) | (refine SeqOk.go ?_; conv => whnf))
  have oP := propR_ok hs n
  have oC := commR_ok hs n t
  have oA : ∀ x ∈ allR l n c, SvOk x := by
    unfold allR
    split
    · exact eachGo_ok (fun s g h => commR_ok h n g) c 3 0 _ _ (eachGo_ok (fun s g h => propR_ok h n) c 3 0 _ _ hl)
    · intro x hx; cases hx
  have d3 := sameServers_ok (allR l n c) oA (by have := allR_len l n c; omega)
  by_cases h0 : s.err = 0
  · have hr := right_of_err h0
    have e1 := proposeOf_ok s n hr
    have e2 := commitOf_ok s n t hr
    rw [← propR_right hr, ← propE_right hr] at e1
    rw [← commR_right hr, ← commE_right hr] at e2
    have d1 := serverIs_ok (s.propR n) (s.propE n) oP fun h => propR_no h
    have d2 := serverIs_ok (s.commR n t) (s.commE n t) oC fun h => commR_no h
    have hR1 : (s.propR n).clock = (s.propR n).clock := rfl
    refine BoolCase.yes (by simpa using h0) ?_
    conv => whnf
    repeat (first | (refine Conf.mk (by kernel_rfl) ?_; conv => whnf) | (refine SeqOk.go ?_; conv => whnf))
    refine .data _ _ e1 rfl ?_
    conv => whnf
    repeat (first | (refine Conf.mk (by kernel_rfl) ?_; conv => whnf) | (refine SeqOk.go ?_; conv => whnf))
    refine .data _ _ e2 rfl ?_
    conv => whnf
    repeat (first | (refine Conf.mk (by kernel_rfl) ?_; conv => whnf) | (refine SeqOk.go ?_; conv => whnf))
    refine .data _ _ c5 rfl ?_
    conv => whnf
    repeat (first | (refine Conf.mk (by kernel_rfl) ?_; conv => whnf) | (refine SeqOk.go ?_; conv => whnf))
    refine .data _ _ skeenBegun_ok.kb rfl ?_
    conv => whnf
    repeat (first | (refine Conf.mk (by kernel_rfl) ?_; conv => whnf) | (refine SeqOk.go ?_; conv => whnf))
    refine .data _ _ c6 rfl ?_
    conv => whnf
    repeat (first | (refine Conf.mk (by kernel_rfl) ?_; conv => whnf) | (refine SeqOk.go ?_; conv => whnf))
    refine .data _ _ c4 rfl ?_
    conv => whnf
    repeat (first | (refine Conf.mk (by kernel_rfl) ?_; conv => whnf) | (refine SeqOk.go ?_; conv => whnf))
    refine BoolCase.yes (by simp) ?_
    conv => whnf
    repeat (first | (refine Conf.mk (by kernel_rfl) ?_; conv => whnf) | (refine SeqOk.go ?_; conv => whnf))
    refine .data _ _ d1.kb rfl ?_
    conv => whnf
    repeat (first | (refine Conf.mk (by kernel_rfl) ?_; conv => whnf) | (refine SeqOk.go ?_; conv => whnf))
    refine BoolCase.yes (by simp [hR1]) ?_
    conv => whnf
    repeat (first | (refine Conf.mk (by kernel_rfl) ?_; conv => whnf) | (refine SeqOk.go ?_; conv => whnf))
    refine .data _ _ d2.kb rfl ?_
    conv => whnf
    repeat (first | (refine Conf.mk (by kernel_rfl) ?_; conv => whnf) | (refine SeqOk.go ?_; conv => whnf))
    refine BoolCase.yes (by simp) ?_
    conv => whnf
    repeat (first | (refine Conf.mk (by kernel_rfl) ?_; conv => whnf) | (refine SeqOk.go ?_; conv => whnf))
    refine .data _ _ d3 rfl ?_
    conv => whnf
    repeat (first | (refine Conf.mk (by kernel_rfl) ?_; conv => whnf) | (refine SeqOk.go ?_; conv => whnf))
    exact Ret.to rfl
  · have hE1 : s.propE n = s.err := by unfold Sv.propE; rw [if_pos h0]
    have hE2 : s.commE n t = s.err := by unfold Sv.commE; rw [if_pos h0]
    have hR := propR_no (s := s) (n := n) (by rw [hE1]; exact h0)
    have hR2 := commR_no (s := s) (n := n) (t := t) (by rw [hE2]; exact h0)
    have hR1 : (s.propR n).clock = 0 := by rw [hR]; rfl
    have d1 : PCall Try.prog 28 [(s.propR n).arg, dInt (s.propE n), dInt s.err, zeroSv.arg] (dBool true) := by
      rw [hR, hE1]; exact serverIs_ok zeroSv s.err ⟨Nat.zero_le _, Nat.zero_le _⟩ fun _ => rfl
    have d2 : PCall Try.prog 28 [(s.commR n t).arg, dInt (s.commE n t), dInt s.err, zeroSv.arg] (dBool true) := by
      rw [hR2, hE2]; exact serverIs_ok zeroSv s.err ⟨Nat.zero_le _, Nat.zero_le _⟩ fun _ => rfl
    refine BoolCase.no (by simpa using h0) ?_
    conv => whnf
    repeat (first | (refine Conf.mk (by kernel_rfl) ?_; conv => whnf) | (refine SeqOk.go ?_; conv => whnf))
    refine .data _ _ c5 rfl ?_
    conv => whnf
    repeat (first | (refine Conf.mk (by kernel_rfl) ?_; conv => whnf) | (refine SeqOk.go ?_; conv => whnf))
    refine .data _ _ skeenBegun_ok.kb rfl ?_
    conv => whnf
    repeat (first | (refine Conf.mk (by kernel_rfl) ?_; conv => whnf) | (refine SeqOk.go ?_; conv => whnf))
    refine .data _ _ c6 rfl ?_
    conv => whnf
    repeat (first | (refine Conf.mk (by kernel_rfl) ?_; conv => whnf) | (refine SeqOk.go ?_; conv => whnf))
    refine .data _ _ c4 rfl ?_
    conv => whnf
    repeat (first | (refine Conf.mk (by kernel_rfl) ?_; conv => whnf) | (refine SeqOk.go ?_; conv => whnf))
    refine BoolCase.yes (by simp) ?_
    conv => whnf
    repeat (first | (refine Conf.mk (by kernel_rfl) ?_; conv => whnf) | (refine SeqOk.go ?_; conv => whnf))
    refine .data _ _ d1.kb rfl ?_
    conv => whnf
    repeat (first | (refine Conf.mk (by kernel_rfl) ?_; conv => whnf) | (refine SeqOk.go ?_; conv => whnf))
    refine BoolCase.yes (by simp [hR1]) ?_
    conv => whnf
    repeat (first | (refine Conf.mk (by kernel_rfl) ?_; conv => whnf) | (refine SeqOk.go ?_; conv => whnf))
    refine .data _ _ d2.kb rfl ?_
    conv => whnf
    repeat (first | (refine Conf.mk (by kernel_rfl) ?_; conv => whnf) | (refine SeqOk.go ?_; conv => whnf))
    refine BoolCase.yes (by simp) ?_
    conv => whnf
    repeat (first | (refine Conf.mk (by kernel_rfl) ?_; conv => whnf) | (refine SeqOk.go ?_; conv => whnf))
    refine .data _ _ d3 rfl ?_
    conv => whnf
    repeat (first | (refine Conf.mk (by kernel_rfl) ?_; conv => whnf) | (refine SeqOk.go ?_; conv => whnf))
    exact Ret.to rfl
end Go.Proofs.Ytlioojekjnigiab.AM.Sk
/- What came in, opened: servers. -/
namespace Go.Proofs.Ytlioojekjnigiab.AM
open Sk
set_option linter.unusedVariables false
set_option linter.unusedSimpArgs false

theorem wt_wait {n : Nat} {ds : List D} (h : WT tab (n + 2) 64 ds) : ∃ x : Wt, ds = x.enc ∧ I64 x.number ∧ I64 x.time := by
  obtain ⟨a, y, rfl, h1, b, z, rfl, h2, c, u, rfl, h3, rfl⟩ := (h : ∃ a y, ds = a ++ y ∧ WT tab (n + 1) 3 a ∧ ∃ b z, y = b ++ z ∧ WT tab (n + 1) 3 b ∧ ∃ c u, z = c ++ u ∧ WT tab (n + 1) 4 c ∧ u = [])
  obtain ⟨r, rfl, hr⟩ := wt_int h1
  obtain ⟨m, rfl, hm⟩ := wt_int h2
  obtain ⟨b, rfl⟩ := wt_bool h3
  exact ⟨⟨r, m, b⟩, rfl, hr, hm⟩
theorem wt_server {n : Nat} {ds : List D} (h : WT tab (n + 4) 43 ds) : ∃ s : Sv, ds = s.enc ∧ SvOk s := by
  obtain ⟨a, y, rfl, h1, b, z, rfl, h2, c, u, rfl, h3, rfl⟩ := (h : ∃ a y, ds = a ++ y ∧ WT tab (n + 3) 3 a ∧ ∃ b z, y = b ++ z ∧ WT tab (n + 3) 40 b ∧ ∃ c u, z = c ++ u ∧ WT tab (n + 3) 41 c ∧ u = [])
  obtain ⟨r, rfl, hr⟩ := wt_int h1
  obtain ⟨es, rfl, k1, k2⟩ := (h2 : ∃ es, b = [.list es] ∧ es.length * 24 ≤ 140737488351232 ∧ ∀ e' ∈ es, WT tab (n + 2) 64 e')
  obtain ⟨l, rfl, hl⟩ := all_enc (fun e he => wt_wait he) es k2
  obtain ⟨d, rfl, k3, _⟩ := wt_ints h3
  rw [List.length_map] at k1
  have k1 : l.length * 24 ≤ 140737488351232 := k1
  exact ⟨⟨r, l, d⟩, rfl, by show d.length ≤ _; omega, by show l.length ≤ _; omega⟩
theorem wt_servers {n : Nat} {ds : List D} (h : WT tab (n + 5) 44 ds) : ∃ l : List Sv, ds = [.list (l.map Sv.enc)] ∧ ∀ x ∈ l, SvOk x := by
  obtain ⟨es, rfl, h1, h2⟩ := (h : ∃ es, ds = [.list es] ∧ es.length * 56 ≤ 140737488351232 ∧ ∀ e' ∈ es, WT tab (n + 4) 43 e')
  obtain ⟨l, rfl, hl⟩ := all_enc (fun e he => wt_server he) es h2
  exact ⟨l, rfl, hl⟩
end Go.Proofs.Ytlioojekjnigiab.AM
