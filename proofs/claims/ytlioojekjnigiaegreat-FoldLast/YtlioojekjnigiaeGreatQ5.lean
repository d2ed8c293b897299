/- What is leaned on: part 5. -/
import Derived.Test.YtlioojekjnigiaeGreatQ4
/- Reference: words. -/
namespace Go.Proofs.YtlioojekjnigiaeGreat.AM.Fo
set_option linter.unusedVariables false
set_option linter.unusedSimpArgs false

theorem byteAt {s : ByteArray} {i : Nat} (h : i < s.size) : ∃ c, s[i]? = some c ∧ s.data.toList[i]? = some c := by
  refine ⟨s[i], by simp [h], ?_⟩
  have h' : i < s.data.toList.length := by simpa using h
  rw [List.getElem?_eq_getElem h']
  rfl
theorem okB_wrap (c : UInt8) : okB c = ((decide ((97 : Int) ≤ IntKind.i64.wrap c.toNat) && decide (IntKind.i64.wrap c.toNat ≤ 122)) || (decide ((48 : Int) ≤ IntKind.i64.wrap c.toNat) && decide (IntKind.i64.wrap c.toNat ≤ 57))) := by
  have hc : c.toNat < 256 := c.toNat_lt
  rw [wrap_id (by omega) (by omega)]
  unfold okB
  rw [show decide ((97 : Int) ≤ (c.toNat : Int)) = decide (97 ≤ c.toNat) from decide_eq_decide.2 (by omega), show decide ((c.toNat : Int) ≤ 122) = decide (c.toNat ≤ 122) from decide_eq_decide.2 (by omega), show decide ((48 : Int) ≤ (c.toNat : Int)) = decide (48 ≤ c.toNat) from decide_eq_decide.2 (by omega), show decide ((c.toNat : Int) ≤ 57) = decide (c.toNat ≤ 57) from decide_eq_decide.2 (by omega)]
set_option maxHeartbeats 0 in
theorem refIsWord_ok (s : ByteArray) (hs : s.size ≤ 140737488355327) : PCall Tryz.prog 9 [.dat (.str s)] (dBool (isW s)) := by
  refine pcall_cut tab_all tab_mixed Tryz.func9 (by kernel_rfl) Tryz.ntmps9 rfl ?_
  conv => whnf
  conv => whnf
  repeat (first | (refine Conf.mk (by kernel_rfl) ?_; conv => whnf) | (refine SeqOk.go ?_; conv => whnf))
  refine LoopOk.hide fun Q1 hQ1 => ?_
  refine LoopOk.mk (fun m st => ∃ i, i + m = s.size ∧ (s.data.toList.take i).all okB = true ∧ st = ⟨[(3, dInt i), (0, .dat (.str s))], 0, []⟩) s.size (Into.mono (Into.to [] [(3, dInt (0 : Nat)), (0, .dat (.str s))] [] (by repeat (first | exact trivial | refine ⟨.same (congrArg dInt (wrap_up (by omega))), ?_⟩ | refine ⟨.same rfl, ?_⟩ | refine ⟨.any _, ?_⟩)) trivial rfl rfl) fun s' h => ⟨0, by omega, rfl, h⟩) ?_
  rintro m st ⟨i, hi, hall, rfl⟩
  conv => whnf
  repeat (first | (refine Conf.mk (by kernel_rfl) ?_; conv => whnf) | (refine SeqOk.go ?_; conv => whnf))
  by_cases hlt : i < s.size
  · obtain ⟨c, hc1, hc2⟩ := byteAt hlt
    have htk : (s.data.toList.take (i + 1)).all okB = okB c := by
      rw [List.take_add_one, hc2, List.all_append, hall]; simp
    have hwd := okB_wrap c
    refine BoolCase.yes (by simp; omega) ?_
    conv => whnf
    repeat (first | (refine Conf.mk (by kernel_rfl) ?_; conv => whnf) | (refine SeqOk.go ?_; conv => whnf))
    refine .mk i c rfl hc1 ?_
    conv => whnf
    repeat (first | (refine Conf.mk (by kernel_rfl) ?_; conv => whnf) | (refine SeqOk.go ?_; conv => whnf))
    refine .look _ _ (between_ok _ _ _) rfl rfl ?_
    conv => whnf
    repeat (first | (refine Conf.mk (by kernel_rfl) ?_; conv => whnf) | (refine SeqOk.go ?_; conv => whnf))
    cases hb1 : (decide ((97 : Int) ≤ IntKind.i64.wrap c.toNat) && decide (IntKind.i64.wrap c.toNat ≤ 122))
    · refine BoolCase.yes (by simp) ?_
      conv => whnf
      repeat (first | (refine Conf.mk (by kernel_rfl) ?_; conv => whnf) | (refine SeqOk.go ?_; conv => whnf))
      refine .mk i c rfl hc1 ?_
      conv => whnf
      repeat (first | (refine Conf.mk (by kernel_rfl) ?_; conv => whnf) | (refine SeqOk.go ?_; conv => whnf))
      refine .look _ _ (between_ok _ _ _) rfl rfl ?_
      conv => whnf
      repeat (first | (refine Conf.mk (by kernel_rfl) ?_; conv => whnf) | (refine SeqOk.go ?_; conv => whnf))
      cases hb2 : (decide ((48 : Int) ≤ IntKind.i64.wrap c.toNat) && decide (IntKind.i64.wrap c.toNat ≤ 57))
      · have hok : okB c = false := by rw [hwd, hb1, hb2]; rfl
        refine BoolCase.yes (by simp) ?_
        have hno : isW s = false := by
          unfold isW
          have : s.data.toList.all okB = false := by
            rw [List.all_eq_false]
            exact ⟨c, List.mem_of_getElem? hc2, by simp [hok]⟩
          rw [this, Bool.and_false]
        conv => whnf
        repeat (first | (refine Conf.mk (by kernel_rfl) ?_; conv => whnf) | (refine SeqOk.go ?_; conv => whnf))
        subst hQ1
        conv => whnf
        repeat (first | (refine Conf.mk (by kernel_rfl) ?_; conv => whnf) | (refine SeqOk.go ?_; conv => whnf))
        exact Ret.bool hno.symm
      · have hok : okB c = true := by rw [hwd, hb1, hb2]; rfl
        refine BoolCase.no (by simp) ?_
        rw [hok] at htk
        conv => whnf
        repeat (first | (refine Conf.mk (by kernel_rfl) ?_; conv => whnf) | (refine SeqOk.go ?_; conv => whnf))
        refine Into.mono (Into.to [] [(3, dInt (i + 1 : Nat)), (0, .dat (.str s))] [] (by repeat (first | exact trivial | refine ⟨.same (congrArg dInt (wrap_up (by omega))), ?_⟩ | refine ⟨.same rfl, ?_⟩ | refine ⟨.any _, ?_⟩)) trivial rfl rfl) fun s' h => ⟨m - 1, by omega, i + 1, by omega, htk, h⟩
    · have hok : okB c = true := by rw [hwd, hb1]; rfl
      refine BoolCase.no (by simp) ?_
      rw [hok] at htk
      conv => whnf
      repeat (first | (refine Conf.mk (by kernel_rfl) ?_; conv => whnf) | (refine SeqOk.go ?_; conv => whnf))
      refine Into.mono (Into.to [] [(3, dInt (i + 1 : Nat)), (0, .dat (.str s))] [] (by repeat (first | exact trivial | refine ⟨.same (congrArg dInt (wrap_up (by omega))), ?_⟩ | refine ⟨.same rfl, ?_⟩ | refine ⟨.any _, ?_⟩)) trivial rfl rfl) fun s' h => ⟨m - 1, by omega, i + 1, by omega, htk, h⟩
  · obtain rfl : i = s.size := by omega
    rw [List.take_of_length_le (by simp)] at hall
    refine BoolCase.no (by simp) ?_
    conv => whnf
    repeat (first | (refine Conf.mk (by kernel_rfl) ?_; conv => whnf) | (refine SeqOk.go ?_; conv => whnf))
    subst hQ1
    conv => whnf
    repeat (first | (refine Conf.mk (by kernel_rfl) ?_; conv => whnf) | (refine SeqOk.go ?_; conv => whnf))
    refine .look _ _ (between_ok _ _ _) rfl rfl ?_
    conv => whnf
    repeat (first | (refine Conf.mk (by kernel_rfl) ?_; conv => whnf) | (refine SeqOk.go ?_; conv => whnf))
    refine Ret.bool ?_
    unfold isW
    rw [hall, Bool.and_true]
    congr 1 <;> exact decide_eq_decide.2 (by omega)
end Go.Proofs.YtlioojekjnigiaeGreat.AM.Fo
/- What a text says, plainly. -/
namespace Go.Proofs.YtlioojekjnigiaeGreat.AM.Fo
set_option linter.unusedVariables false
set_option linter.unusedSimpArgs false

theorem ib_eq : ∀ {l : List UInt8} {c : UInt8} {j : Nat}, l[j]? = some c → (∀ x ∈ l.take j, x ≠ c) → Lib.indexByte l c = j
  | [], c, j, h, _ => by simp at h
  | b :: l, c, 0, h, _ => by
    obtain rfl : b = c := by simpa using h
    unfold Lib.indexByte
    simp
  | b :: l, c, j + 1, h, hn => by
    have hb : b ≠ c := hn b (by simp)
    have := ib_eq (l := l) (c := c) (j := j) (by simpa using h) fun x hx => hn x (by simp [hx])
    unfold Lib.indexByte
    rw [if_neg (by simp [hb]), this, if_neg (by simp)]
    omega
theorem ib_some : ∀ {l : List UInt8} {c : UInt8}, 0 ≤ Lib.indexByte l c → l[(Lib.indexByte l c).toNat]? = some c
  | [], c, h => by simp [Lib.indexByte] at h
  | b :: l, c, h => by
    unfold Lib.indexByte at h ⊢
    by_cases hb : (b == c) = true
    · rw [if_pos hb]
      have : b = c := by simpa using hb
      simp [this]
    · rw [if_neg hb] at h ⊢
      by_cases h1 : (Lib.indexByte l c == -1) = true
      · rw [if_pos h1] at h; omega
      · rw [if_neg h1] at h ⊢
        have hge := Lib.indexByte_ge l c
        have h0 : 0 ≤ Lib.indexByte l c := by
          have : Lib.indexByte l c ≠ -1 := by simpa using h1
          omega
        have := ib_some h0
        rw [show (Lib.indexByte l c + 1).toNat = (Lib.indexByte l c).toNat + 1 by omega]
        simpa using this
theorem blankAt_eq (s : ByteArray) : blankAt s = Lib.indexByte s.data.toList 32 := by
  unfold blankAt
  by_cases h : blank = s
  · rw [if_pos h, ← h]; decide
  · rw [if_neg h]
theorem ext2 {s : ByteArray} {a a' b b' : Nat} (h : a = a') (h2 : b = b') : s.extract a b = s.extract a' b' := by rw [h, h2]
theorem bytes_cut (s : ByteArray) (a b : Nat) : (s.extract a b).data.toList = (s.data.toList.drop a).take (b - a) := by
  rw [ByteArray.data_extract, Array.toList_extract, List.extract_eq_take_drop]
theorem isW_bytes {s : ByteArray} (h : isW s = true) : ∀ x ∈ s.data.toList, x ≠ 32 := by
  unfold isW at h
  rw [Bool.and_eq_true] at h
  intro x hx hx2
  have := List.all_eq_true.1 h.2 x hx
  rw [hx2] at this
  exact absurd this (by decide)
theorem isW_size {s : ByteArray} (h : isW s = true) : 1 ≤ s.size ∧ s.size ≤ 3 := by
  unfold isW at h
  simp only [Bool.and_eq_true, decide_eq_true_eq] at h
  exact h.1
theorem cutP_put {s : ByteArray} (h : hasPre s putW = true) : cutP s putW = s.extract 4 s.size := by unfold cutP; rw [if_pos h]; rfl
theorem cutP_drop {s : ByteArray} (h : hasPre s dropW = true) : cutP s dropW = s.extract 5 s.size := by unfold cutP; rw [if_pos h]; rfl
theorem put_iff {s : ByteArray} (h : hasPre s putW = true) {i : Nat} (h5 : 5 ≤ i) (hi : i < s.size) (hb : s.data.toList[i]? = some 32) (h1 : isW (s.extract 4 i) = true) (h2 : isW (s.extract (i + 1) s.size) = true) :
    isPut s = true ∧ cutA (cutP s putW) = s.extract 4 i ∧ cutB (cutP s putW) = s.extract (i + 1) s.size := by
  have hp := cutP_put h
  have hat : blankAt (cutP s putW) = ((i - 4 : Nat) : Int) := by
    rw [hp, blankAt_eq]
    refine ib_eq ?_ ?_
    · rw [bytes_cut, List.getElem?_take, if_pos (by omega), List.getElem?_drop, show 4 + (i - 4) = i by omega]
      exact hb
    · intro x hx
      refine isW_bytes h1 x ?_
      rw [bytes_cut] at hx ⊢
      rw [List.take_take] at hx
      rw [show min (i - 4) (s.size - 4) = i - 4 by omega] at hx
      exact hx
  have ha : cutA (cutP s putW) = s.extract 4 i := by
    unfold cutA
    rw [if_pos (by rw [hat]; omega), hat, hp, Int.toNat_natCast, ByteArray.extract_extract]
    exact ext2 (by omega) (by omega)
  have hbb : cutB (cutP s putW) = s.extract (i + 1) s.size := by
    unfold cutB
    rw [if_pos (by rw [hat]; omega), hat, hp, Int.toNat_natCast, ByteArray.extract_extract]
    exact ext2 (by omega) (by rw [ByteArray.size_extract]; omega)
  refine ⟨?_, ha, hbb⟩
  unfold isPut
  rw [h, ha, hbb, h1, h2]; rfl
theorem put_at {s : ByteArray} (h : isPut s = true) : ∃ i, 5 ≤ i ∧ i < s.size ∧ s.data.toList[i]? = some 32 ∧ isW (s.extract 4 i) = true ∧ isW (s.extract (i + 1) s.size) = true := by
  unfold isPut at h
  simp only [Bool.and_eq_true] at h
  obtain ⟨h, h1, h2⟩ := h
  have hp := cutP_put h
  have hsz : 4 ≤ s.size := hasPre_size h
  have hg : 0 ≤ blankAt (cutP s putW) := by
    by_cases hg : 0 ≤ blankAt (cutP s putW)
    · exact hg
    · unfold cutB at h2
      rw [if_neg hg] at h2
      exact absurd h2 (by decide)
  have hlt := blankAt_lt hg
  have hs := ib_some (l := (cutP s putW).data.toList) (c := 32) (by rw [← blankAt_eq]; exact hg)
  rw [← blankAt_eq] at hs
  generalize hj : (blankAt (cutP s putW)).toNat = j at *
  have hat : blankAt (cutP s putW) = (j : Int) := by rw [← hj]; omega
  have hlt' : j < s.size - 4 := by rw [hat, hp, ByteArray.size_extract] at hlt; omega
  have ha : cutA (cutP s putW) = s.extract 4 (4 + j) := by
    unfold cutA
    rw [if_pos hg, hat, hp, Int.toNat_natCast, ByteArray.extract_extract]
    exact ext2 (by omega) (by omega)
  have hbb : cutB (cutP s putW) = s.extract (4 + j + 1) s.size := by
    unfold cutB
    rw [if_pos hg, hat, hp, Int.toNat_natCast, ByteArray.extract_extract]
    exact ext2 (by omega) (by rw [ByteArray.size_extract]; omega)
  rw [ha] at h1
  rw [hbb] at h2
  refine ⟨4 + j, ?_, by omega, ?_, h1, h2⟩
  · have := (isW_size h1).1
    rw [ByteArray.size_extract] at this
    omega
  · rw [hp, bytes_cut, List.getElem?_take, if_pos (by omega), List.getElem?_drop] at hs
    exact hs
theorem put_drop {s : ByteArray} (h : hasPre s dropW = true) : hasPre s putW = false := by
  cases h' : hasPre s putW
  · rfl
  · unfold hasPre at h h'
    simp only [Bool.and_eq_true, decide_eq_true_eq] at h h'
    have e1 := congrArg (fun x : ByteArray => x.data.toList[0]?) h.2
    have e2 := congrArg (fun x : ByteArray => x.data.toList[0]?) h'.2
    simp only [bytes_cut] at e1 e2
    rw [List.getElem?_take, if_pos (by decide)] at e1 e2
    rw [e1] at e2
    exact absurd e2 (by decide)
end Go.Proofs.YtlioojekjnigiaeGreat.AM.Fo
/- Reference: what a text says. -/
namespace Go.Proofs.YtlioojekjnigiaeGreat.AM.Fo
set_option linter.unusedVariables false
set_option linter.unusedSimpArgs false

def RefAns (s : ByteArray) : AVal := .tup [dInt (opKind s), .dat (.str (opKey s)), .dat (.str (opVal s))]
theorem refAns_put {s : ByteArray} (h : isPut s = true) : RefAns s = .tup [dInt 1, .dat (.str (cutA (cutP s putW))), .dat (.str (cutB (cutP s putW)))] := by
  have e : opKind s = 1 := by unfold opKind; rw [if_pos h]
  unfold RefAns opKey opVal
  rw [e, if_pos h, if_pos h]
theorem refAns_drop {s : ByteArray} (h : isPut s = false) (h2 : isDrop s = true) : RefAns s = .tup [dInt 2, .dat (.str (cutP s dropW)), .dat (.str ⟨#[]⟩)] := by
  have e : opKind s = 2 := by unfold opKind; rw [if_neg (by simp [h]), if_pos h2]
  unfold RefAns opKey opVal
  rw [e, if_neg (by simp [h]), if_pos h2, if_neg (by simp [h])]
theorem refAns_none {s : ByteArray} (h : isPut s = false) (h2 : isDrop s = false) : RefAns s = .tup [dInt 0, .dat (.str ⟨#[]⟩), .dat (.str ⟨#[]⟩)] := by
  have e : opKind s = 0 := by unfold opKind; rw [if_neg (by simp [h]), if_neg (by simp [h2])]
  unfold RefAns opKey opVal
  rw [e, if_neg (by simp [h]), if_neg (by simp [h2]), if_neg (by simp [h])]
theorem ext_size {s : ByteArray} {a b n : Nat} (h : s.size ≤ n) : (s.extract a b).size ≤ n := by rw [ByteArray.size_extract]; omega
theorem dropW_size : dropW.size = 5 := rfl
theorem putW_size : putW.size = 4 := rfl
set_option maxHeartbeats 0 in
theorem opOf_ok (s : ByteArray) (hs : s.size ≤ 140737488355327) : PCall Tryz.prog 12 [.dat (.str s)] (RefAns s) := by
  refine pcall_cut tab_all tab_mixed Tryz.func12 (by kernel_rfl) Tryz.ntmps12 rfl ?_
  conv => whnf
  conv => whnf
  repeat (first | (refine Conf.mk (by kernel_rfl) ?_; conv => whnf) | (refine SeqOk.go ?_; conv => whnf))
  by_cases hd : isDrop s = true
  · have hd' := hd
    unfold isDrop at hd'
    simp only [Bool.and_eq_true] at hd'
    obtain ⟨h1, h2⟩ := hd'
    have hp : isPut s = false := by unfold isPut; rw [put_drop h1]; rfl
    have hc := cutP_drop h1
    rw [hc] at h2
    have hsz : 5 < s.size := by have := (isW_size h2).1; rw [ByteArray.size_extract] at this; omega
    have he : s.extract 0 5 = dropW := by
      unfold hasPre at h1
      simp only [Bool.and_eq_true, decide_eq_true_eq] at h1
      exact h1.2
    rw [refAns_drop hp hd, hc]
    refine BoolCase.yes (by simp; omega) ?_
    conv => whnf
    repeat (first | (refine Conf.mk (by kernel_rfl) ?_; conv => whnf) | (refine SeqOk.go ?_; conv => whnf))
    refine .mk 0 5 rfl rfl (by omega) (by omega) ?_
    conv => whnf
    repeat (first | (refine Conf.mk (by kernel_rfl) ?_; conv => whnf) | (refine SeqOk.go ?_; conv => whnf))
    refine BoolCase.yes (decide_eq_true he) ?_
    conv => whnf
    repeat (first | (refine Conf.mk (by kernel_rfl) ?_; conv => whnf) | (refine SeqOk.go ?_; conv => whnf))
    refine .mk 5 s.size rfl rfl (by omega) (by omega) ?_
    conv => whnf
    repeat (first | (refine Conf.mk (by kernel_rfl) ?_; conv => whnf) | (refine SeqOk.go ?_; conv => whnf))
    refine .look _ _ (h2 ▸ refIsWord_ok (s.extract 5 s.size) (ext_size hs)).kb rfl rfl ?_
    conv => whnf
    repeat (first | (refine Conf.mk (by kernel_rfl) ?_; conv => whnf) | (refine SeqOk.go ?_; conv => whnf))
    refine .mk 5 s.size rfl rfl (by omega) (by omega) ?_
    conv => whnf
    repeat (first | (refine Conf.mk (by kernel_rfl) ?_; conv => whnf) | (refine SeqOk.go ?_; conv => whnf))
    exact Ret.to rfl
  · have hd : isDrop s = false := by simpa using hd
    by_cases h5 : 5 < s.size
    · refine BoolCase.yes (by simp; omega) ?_
      conv => whnf
      repeat (first | (refine Conf.mk (by kernel_rfl) ?_; conv => whnf) | (refine SeqOk.go ?_; conv => whnf))
      refine .mk 0 5 rfl rfl (by omega) (by omega) ?_
      conv => whnf
      repeat (first | (refine Conf.mk (by kernel_rfl) ?_; conv => whnf) | (refine SeqOk.go ?_; conv => whnf))
      by_cases he : s.extract 0 5 = dropW
      · have hpd : hasPre s dropW = true := by unfold hasPre; rw [decide_eq_true (by rw [dropW_size]; omega), Bool.true_and]; exact decide_eq_true he
        have hw : isW (s.extract 5 s.size) = false := by
          have := hd
          unfold isDrop at this
          rw [hpd, cutP_drop hpd, Bool.true_and] at this
          exact this
        refine BoolCase.yes (decide_eq_true he) ?_
        conv => whnf
        repeat (first | (refine Conf.mk (by kernel_rfl) ?_; conv => whnf) | (refine SeqOk.go ?_; conv => whnf))
        refine .mk 5 s.size rfl rfl (by omega) (by omega) ?_
        conv => whnf
        repeat (first | (refine Conf.mk (by kernel_rfl) ?_; conv => whnf) | (refine SeqOk.go ?_; conv => whnf))
        refine .look _ _ (hw ▸ refIsWord_ok (s.extract 5 s.size) (ext_size hs)).kb rfl rfl ?_
        conv => whnf
        repeat (first | (refine Conf.mk (by kernel_rfl) ?_; conv => whnf) | (refine SeqOk.go ?_; conv => whnf))
        by_cases h4 : 4 < s.size
        · refine BoolCase.yes (by simp; omega) ?_
          conv => whnf
          repeat (first | (refine Conf.mk (by kernel_rfl) ?_; conv => whnf) | (refine SeqOk.go ?_; conv => whnf))
          refine .mk 0 4 rfl rfl (by omega) (by omega) ?_
          conv => whnf
          repeat (first | (refine Conf.mk (by kernel_rfl) ?_; conv => whnf) | (refine SeqOk.go ?_; conv => whnf))
          by_cases he4 : s.extract 0 4 = putW
          · have hq : hasPre s putW = true := by unfold hasPre; rw [decide_eq_true (by rw [putW_size]; omega), Bool.true_and]; exact decide_eq_true he4
            refine BoolCase.yes (decide_eq_true he4) ?_
            conv => whnf
            repeat (first | (refine Conf.mk (by kernel_rfl) ?_; conv => whnf) | (refine SeqOk.go ?_; conv => whnf))
            refine LoopOk.hide fun Q1 hQ1 => ?_
            refine LoopOk.mk (fun m st => ∃ i, i + m = s.size ∧ 5 ≤ i ∧ (∀ j, 5 ≤ j → j < i → ¬ (s.data.toList[j]? = some 32 ∧ isW (s.extract 4 j) = true ∧ isW (s.extract (j + 1) s.size) = true)) ∧ st = ⟨[(5, dInt i), (0, .dat (.str s))], 0, []⟩) (s.size - 5) (Into.mono (Into.to [] [(5, dInt (5 : Nat)), (0, .dat (.str s))] [] (by repeat (first | exact trivial | refine ⟨.same (congrArg dInt (wrap_up (by omega))), ?_⟩ | refine ⟨.same rfl, ?_⟩ | refine ⟨.any _, ?_⟩)) trivial rfl rfl) fun s' h => ⟨5, by omega, by omega, fun j a b => by omega, h⟩) ?_
            rintro m st ⟨i, hi, h5i, hall, rfl⟩
            have hnext : ¬ (s.data.toList[i]? = some 32 ∧ isW (s.extract 4 i) = true ∧ isW (s.extract (i + 1) s.size) = true) → ∀ j, 5 ≤ j → j < i + 1 → ¬ (s.data.toList[j]? = some 32 ∧ isW (s.extract 4 j) = true ∧ isW (s.extract (j + 1) s.size) = true) := fun hn j a b => by
              by_cases hj : j = i
              · rw [hj]; exact hn
              · exact hall j a (by omega)
            conv => whnf
            repeat (first | (refine Conf.mk (by kernel_rfl) ?_; conv => whnf) | (refine SeqOk.go ?_; conv => whnf))
            by_cases hlt : i < s.size
            · obtain ⟨c, hc1, hc2⟩ := byteAt hlt
              refine BoolCase.yes (by simp; omega) ?_
              conv => whnf
              repeat (first | (refine Conf.mk (by kernel_rfl) ?_; conv => whnf) | (refine SeqOk.go ?_; conv => whnf))
              refine .mk i c rfl hc1 ?_
              conv => whnf
              repeat (first | (refine Conf.mk (by kernel_rfl) ?_; conv => whnf) | (refine SeqOk.go ?_; conv => whnf))
              have hw1 : ((i + 1 : Nat) : Int) = IntKind.i64.wrap ((i : Int) + 1) := wrap_up (by omega)
              by_cases hc : c = 32
              · rw [hc] at hc2
                refine BoolCase.yes (by rw [hc]; rfl) ?_
                conv => whnf
                repeat (first | (refine Conf.mk (by kernel_rfl) ?_; conv => whnf) | (refine SeqOk.go ?_; conv => whnf))
                refine .mk 4 i rfl rfl (by omega) (by omega) ?_
                conv => whnf
                repeat (first | (refine Conf.mk (by kernel_rfl) ?_; conv => whnf) | (refine SeqOk.go ?_; conv => whnf))
                cases hA : isW (s.extract 4 i)
                · have hno : ¬ (s.data.toList[i]? = some 32 ∧ isW (s.extract 4 i) = true ∧ isW (s.extract (i + 1) s.size) = true) := fun ⟨_, h, _⟩ => by rw [hA] at h; cases h
                  refine .look _ _ (hA ▸ refIsWord_ok (s.extract 4 i) (ext_size hs)).kb rfl rfl ?_
                  conv => whnf
                  repeat (first | (refine Conf.mk (by kernel_rfl) ?_; conv => whnf) | (refine SeqOk.go ?_; conv => whnf))
                  refine Into.mono (Into.to [] [(5, dInt (i + 1 : Nat)), (0, .dat (.str s))] [] (by repeat (first | exact trivial | refine ⟨.same (congrArg dInt (wrap_up (by omega))), ?_⟩ | refine ⟨.same rfl, ?_⟩ | refine ⟨.any _, ?_⟩)) trivial rfl rfl) fun s' h => ⟨m - 1, by omega, i + 1, by omega, by omega, hnext hno, h⟩
                · refine .look _ _ (hA ▸ refIsWord_ok (s.extract 4 i) (ext_size hs)).kb rfl rfl ?_
                  conv => whnf
                  repeat (first | (refine Conf.mk (by kernel_rfl) ?_; conv => whnf) | (refine SeqOk.go ?_; conv => whnf))
                  refine .mk (i + 1) s.size hw1.symm rfl (by omega) (Nat.le_refl _) ?_
                  conv => whnf
                  repeat (first | (refine Conf.mk (by kernel_rfl) ?_; conv => whnf) | (refine SeqOk.go ?_; conv => whnf))
                  cases hB : isW (s.extract (i + 1) s.size)
                  · have hno : ¬ (s.data.toList[i]? = some 32 ∧ isW (s.extract 4 i) = true ∧ isW (s.extract (i + 1) s.size) = true) := fun ⟨_, _, h⟩ => by rw [hB] at h; cases h
                    refine .look _ _ (hB ▸ refIsWord_ok (s.extract (i + 1) s.size) (ext_size hs)).kb rfl rfl ?_
                    conv => whnf
                    repeat (first | (refine Conf.mk (by kernel_rfl) ?_; conv => whnf) | (refine SeqOk.go ?_; conv => whnf))
                    refine Into.mono (Into.to [] [(5, dInt (i + 1 : Nat)), (0, .dat (.str s))] [] (by repeat (first | exact trivial | refine ⟨.same (congrArg dInt (wrap_up (by omega))), ?_⟩ | refine ⟨.same rfl, ?_⟩ | refine ⟨.any _, ?_⟩)) trivial rfl rfl) fun s' h => ⟨m - 1, by omega, i + 1, by omega, by omega, hnext hno, h⟩
                  · obtain ⟨hp, ha, hb⟩ := put_iff hq h5i hlt hc2 hA hB
                    refine .look _ _ (hB ▸ refIsWord_ok (s.extract (i + 1) s.size) (ext_size hs)).kb rfl rfl ?_
                    conv => whnf
                    repeat (first | (refine Conf.mk (by kernel_rfl) ?_; conv => whnf) | (refine SeqOk.go ?_; conv => whnf))
                    refine .mk 4 i rfl rfl (by omega) (by omega) ?_
                    conv => whnf
                    repeat (first | (refine Conf.mk (by kernel_rfl) ?_; conv => whnf) | (refine SeqOk.go ?_; conv => whnf))
                    refine .mk (i + 1) s.size hw1.symm rfl (by omega) (Nat.le_refl _) ?_
                    conv => whnf
                    repeat (first | (refine Conf.mk (by kernel_rfl) ?_; conv => whnf) | (refine SeqOk.go ?_; conv => whnf))
                    subst hQ1
                    conv => whnf
                    repeat (first | (refine Conf.mk (by kernel_rfl) ?_; conv => whnf) | (refine SeqOk.go ?_; conv => whnf))
                    rw [refAns_put hp, ha, hb]
                    exact Ret.to rfl
              · have hno : ¬ (s.data.toList[i]? = some 32 ∧ isW (s.extract 4 i) = true ∧ isW (s.extract (i + 1) s.size) = true) := fun ⟨h, _, _⟩ => by rw [hc2] at h; exact hc (by simpa using h)
                refine BoolCase.no (by
                  have : c.toNat ≠ 32 := fun h => hc (by rw [← UInt8.toNat_inj]; exact h)
                  simp; omega) ?_
                conv => whnf
                repeat (first | (refine Conf.mk (by kernel_rfl) ?_; conv => whnf) | (refine SeqOk.go ?_; conv => whnf))
                refine Into.mono (Into.to [] [(5, dInt (i + 1 : Nat)), (0, .dat (.str s))] [] (by repeat (first | exact trivial | refine ⟨.same (congrArg dInt (wrap_up (by omega))), ?_⟩ | refine ⟨.same rfl, ?_⟩ | refine ⟨.any _, ?_⟩)) trivial rfl rfl) fun s' h => ⟨m - 1, by omega, i + 1, by omega, by omega, hnext hno, h⟩
            · have hp : isPut s = false := by
                cases hp : isPut s
                · rfl
                · obtain ⟨j, a, b, c⟩ := put_at hp
                  exact absurd c (hall j a (by omega))
              refine BoolCase.no (by simp; omega) ?_
              conv => whnf
              repeat (first | (refine Conf.mk (by kernel_rfl) ?_; conv => whnf) | (refine SeqOk.go ?_; conv => whnf))
              subst hQ1
              conv => whnf
              repeat (first | (refine Conf.mk (by kernel_rfl) ?_; conv => whnf) | (refine SeqOk.go ?_; conv => whnf))
              rw [refAns_none hp hd]
              exact Ret.to rfl
          · have hp : isPut s = false := by
              cases hp : isPut s
              · rfl
              · unfold isPut hasPre at hp
                simp only [Bool.and_eq_true, decide_eq_true_eq] at hp
                exact absurd hp.1.2 he4
            refine BoolCase.no (decide_eq_false he4) ?_
            conv => whnf
            repeat (first | (refine Conf.mk (by kernel_rfl) ?_; conv => whnf) | (refine SeqOk.go ?_; conv => whnf))
            rw [refAns_none hp hd]
            exact Ret.to rfl
        · have hp : isPut s = false := by
            cases hp : isPut s
            · rfl
            · obtain ⟨i, a, b, c⟩ := put_at hp; omega
          refine BoolCase.no (by simp; omega) ?_
          conv => whnf
          repeat (first | (refine Conf.mk (by kernel_rfl) ?_; conv => whnf) | (refine SeqOk.go ?_; conv => whnf))
          rw [refAns_none hp hd]
          exact Ret.to rfl
      · refine BoolCase.no (decide_eq_false he) ?_
        conv => whnf
        repeat (first | (refine Conf.mk (by kernel_rfl) ?_; conv => whnf) | (refine SeqOk.go ?_; conv => whnf))
        by_cases h4 : 4 < s.size
        · refine BoolCase.yes (by simp; omega) ?_
          conv => whnf
          repeat (first | (refine Conf.mk (by kernel_rfl) ?_; conv => whnf) | (refine SeqOk.go ?_; conv => whnf))
          refine .mk 0 4 rfl rfl (by omega) (by omega) ?_
          conv => whnf
          repeat (first | (refine Conf.mk (by kernel_rfl) ?_; conv => whnf) | (refine SeqOk.go ?_; conv => whnf))
          by_cases he4 : s.extract 0 4 = putW
          · have hq : hasPre s putW = true := by unfold hasPre; rw [decide_eq_true (by rw [putW_size]; omega), Bool.true_and]; exact decide_eq_true he4
            refine BoolCase.yes (decide_eq_true he4) ?_
            conv => whnf
            repeat (first | (refine Conf.mk (by kernel_rfl) ?_; conv => whnf) | (refine SeqOk.go ?_; conv => whnf))
            refine LoopOk.hide fun Q1 hQ1 => ?_
            refine LoopOk.mk (fun m st => ∃ i, i + m = s.size ∧ 5 ≤ i ∧ (∀ j, 5 ≤ j → j < i → ¬ (s.data.toList[j]? = some 32 ∧ isW (s.extract 4 j) = true ∧ isW (s.extract (j + 1) s.size) = true)) ∧ st = ⟨[(5, dInt i), (0, .dat (.str s))], 0, []⟩) (s.size - 5) (Into.mono (Into.to [] [(5, dInt (5 : Nat)), (0, .dat (.str s))] [] (by repeat (first | exact trivial | refine ⟨.same (congrArg dInt (wrap_up (by omega))), ?_⟩ | refine ⟨.same rfl, ?_⟩ | refine ⟨.any _, ?_⟩)) trivial rfl rfl) fun s' h => ⟨5, by omega, by omega, fun j a b => by omega, h⟩) ?_
            rintro m st ⟨i, hi, h5i, hall, rfl⟩
            have hnext : ¬ (s.data.toList[i]? = some 32 ∧ isW (s.extract 4 i) = true ∧ isW (s.extract (i + 1) s.size) = true) → ∀ j, 5 ≤ j → j < i + 1 → ¬ (s.data.toList[j]? = some 32 ∧ isW (s.extract 4 j) = true ∧ isW (s.extract (j + 1) s.size) = true) := fun hn j a b => by
              by_cases hj : j = i
              · rw [hj]; exact hn
              · exact hall j a (by omega)
            conv => whnf
            repeat (first | (refine Conf.mk (by kernel_rfl) ?_; conv => whnf) | (refine SeqOk.go ?_; conv => whnf))
            by_cases hlt : i < s.size
            · obtain ⟨c, hc1, hc2⟩ := byteAt hlt
              refine BoolCase.yes (by simp; omega) ?_
              conv => whnf
              repeat (first | (refine Conf.mk (by kernel_rfl) ?_; conv => whnf) | (refine SeqOk.go ?_; conv => whnf))
              refine .mk i c rfl hc1 ?_
              conv => whnf
              repeat (first | (refine Conf.mk (by kernel_rfl) ?_; conv => whnf) | (refine SeqOk.go ?_; conv => whnf))
              have hw1 : ((i + 1 : Nat) : Int) = IntKind.i64.wrap ((i : Int) + 1) := wrap_up (by omega)
              by_cases hc : c = 32
              · rw [hc] at hc2
                refine BoolCase.yes (by rw [hc]; rfl) ?_
                conv => whnf
                repeat (first | (refine Conf.mk (by kernel_rfl) ?_; conv => whnf) | (refine SeqOk.go ?_; conv => whnf))
                refine .mk 4 i rfl rfl (by omega) (by omega) ?_
                conv => whnf
                repeat (first | (refine Conf.mk (by kernel_rfl) ?_; conv => whnf) | (refine SeqOk.go ?_; conv => whnf))
                cases hA : isW (s.extract 4 i)
                · have hno : ¬ (s.data.toList[i]? = some 32 ∧ isW (s.extract 4 i) = true ∧ isW (s.extract (i + 1) s.size) = true) := fun ⟨_, h, _⟩ => by rw [hA] at h; cases h
                  refine .look _ _ (hA ▸ refIsWord_ok (s.extract 4 i) (ext_size hs)).kb rfl rfl ?_
                  conv => whnf
                  repeat (first | (refine Conf.mk (by kernel_rfl) ?_; conv => whnf) | (refine SeqOk.go ?_; conv => whnf))
                  refine Into.mono (Into.to [] [(5, dInt (i + 1 : Nat)), (0, .dat (.str s))] [] (by repeat (first | exact trivial | refine ⟨.same (congrArg dInt (wrap_up (by omega))), ?_⟩ | refine ⟨.same rfl, ?_⟩ | refine ⟨.any _, ?_⟩)) trivial rfl rfl) fun s' h => ⟨m - 1, by omega, i + 1, by omega, by omega, hnext hno, h⟩
                · refine .look _ _ (hA ▸ refIsWord_ok (s.extract 4 i) (ext_size hs)).kb rfl rfl ?_
                  conv => whnf
                  repeat (first | (refine Conf.mk (by kernel_rfl) ?_; conv => whnf) | (refine SeqOk.go ?_; conv => whnf))
                  refine .mk (i + 1) s.size hw1.symm rfl (by omega) (Nat.le_refl _) ?_
                  conv => whnf
                  repeat (first | (refine Conf.mk (by kernel_rfl) ?_; conv => whnf) | (refine SeqOk.go ?_; conv => whnf))
                  cases hB : isW (s.extract (i + 1) s.size)
                  · have hno : ¬ (s.data.toList[i]? = some 32 ∧ isW (s.extract 4 i) = true ∧ isW (s.extract (i + 1) s.size) = true) := fun ⟨_, _, h⟩ => by rw [hB] at h; cases h
                    refine .look _ _ (hB ▸ refIsWord_ok (s.extract (i + 1) s.size) (ext_size hs)).kb rfl rfl ?_
                    conv => whnf
                    repeat (first | (refine Conf.mk (by kernel_rfl) ?_; conv => whnf) | (refine SeqOk.go ?_; conv => whnf))
                    refine Into.mono (Into.to [] [(5, dInt (i + 1 : Nat)), (0, .dat (.str s))] [] (by repeat (first | exact trivial | refine ⟨.same (congrArg dInt (wrap_up (by omega))), ?_⟩ | refine ⟨.same rfl, ?_⟩ | refine ⟨.any _, ?_⟩)) trivial rfl rfl) fun s' h => ⟨m - 1, by omega, i + 1, by omega, by omega, hnext hno, h⟩
                  · obtain ⟨hp, ha, hb⟩ := put_iff hq h5i hlt hc2 hA hB
                    refine .look _ _ (hB ▸ refIsWord_ok (s.extract (i + 1) s.size) (ext_size hs)).kb rfl rfl ?_
                    conv => whnf
                    repeat (first | (refine Conf.mk (by kernel_rfl) ?_; conv => whnf) | (refine SeqOk.go ?_; conv => whnf))
                    refine .mk 4 i rfl rfl (by omega) (by omega) ?_
                    conv => whnf
                    repeat (first | (refine Conf.mk (by kernel_rfl) ?_; conv => whnf) | (refine SeqOk.go ?_; conv => whnf))
                    refine .mk (i + 1) s.size hw1.symm rfl (by omega) (Nat.le_refl _) ?_
                    conv => whnf
                    repeat (first | (refine Conf.mk (by kernel_rfl) ?_; conv => whnf) | (refine SeqOk.go ?_; conv => whnf))
                    subst hQ1
                    conv => whnf
                    repeat (first | (refine Conf.mk (by kernel_rfl) ?_; conv => whnf) | (refine SeqOk.go ?_; conv => whnf))
                    rw [refAns_put hp, ha, hb]
                    exact Ret.to rfl
              · have hno : ¬ (s.data.toList[i]? = some 32 ∧ isW (s.extract 4 i) = true ∧ isW (s.extract (i + 1) s.size) = true) := fun ⟨h, _, _⟩ => by rw [hc2] at h; exact hc (by simpa using h)
                refine BoolCase.no (by
                  have : c.toNat ≠ 32 := fun h => hc (by rw [← UInt8.toNat_inj]; exact h)
                  simp; omega) ?_
                conv => whnf
                repeat (first | (refine Conf.mk (by kernel_rfl) ?_; conv => whnf) | (refine SeqOk.go ?_; conv => whnf))
                refine Into.mono (Into.to [] [(5, dInt (i + 1 : Nat)), (0, .dat (.str s))] [] (by repeat (first | exact trivial | refine ⟨.same (congrArg dInt (wrap_up (by omega))), ?_⟩ | refine ⟨.same rfl, ?_⟩ | refine ⟨.any _, ?_⟩)) trivial rfl rfl) fun s' h => ⟨m - 1, by omega, i + 1, by omega, by omega, hnext hno, h⟩
            · have hp : isPut s = false := by
                cases hp : isPut s
                · rfl
                · obtain ⟨j, a, b, c⟩ := put_at hp
                  exact absurd c (hall j a (by omega))
              refine BoolCase.no (by simp; omega) ?_
              conv => whnf
              repeat (first | (refine Conf.mk (by kernel_rfl) ?_; conv => whnf) | (refine SeqOk.go ?_; conv => whnf))
              subst hQ1
              conv => whnf
              repeat (first | (refine Conf.mk (by kernel_rfl) ?_; conv => whnf) | (refine SeqOk.go ?_; conv => whnf))
              rw [refAns_none hp hd]
              exact Ret.to rfl
          · have hp : isPut s = false := by
              cases hp : isPut s
              · rfl
              · unfold isPut hasPre at hp
                simp only [Bool.and_eq_true, decide_eq_true_eq] at hp
                exact absurd hp.1.2 he4
            refine BoolCase.no (decide_eq_false he4) ?_
            conv => whnf
            repeat (first | (refine Conf.mk (by kernel_rfl) ?_; conv => whnf) | (refine SeqOk.go ?_; conv => whnf))
            rw [refAns_none hp hd]
            exact Ret.to rfl
        · have hp : isPut s = false := by
            cases hp : isPut s
            · rfl
            · obtain ⟨i, a, b, c⟩ := put_at hp; omega
          refine BoolCase.no (by simp; omega) ?_
          conv => whnf
          repeat (first | (refine Conf.mk (by kernel_rfl) ?_; conv => whnf) | (refine SeqOk.go ?_; conv => whnf))
          rw [refAns_none hp hd]
          exact Ret.to rfl
    · refine BoolCase.no (by simp; omega) ?_
      conv => whnf
      repeat (first | (refine Conf.mk (by kernel_rfl) ?_; conv => whnf) | (refine SeqOk.go ?_; conv => whnf))
      by_cases h4 : 4 < s.size
      · refine BoolCase.yes (by simp; omega) ?_
        conv => whnf
        repeat (first | (refine Conf.mk (by kernel_rfl) ?_; conv => whnf) | (refine SeqOk.go ?_; conv => whnf))
        refine .mk 0 4 rfl rfl (by omega) (by omega) ?_
        conv => whnf
        repeat (first | (refine Conf.mk (by kernel_rfl) ?_; conv => whnf) | (refine SeqOk.go ?_; conv => whnf))
        by_cases he4 : s.extract 0 4 = putW
        · have hq : hasPre s putW = true := by unfold hasPre; rw [decide_eq_true (by rw [putW_size]; omega), Bool.true_and]; exact decide_eq_true he4
          refine BoolCase.yes (decide_eq_true he4) ?_
          conv => whnf
          repeat (first | (refine Conf.mk (by kernel_rfl) ?_; conv => whnf) | (refine SeqOk.go ?_; conv => whnf))
          refine LoopOk.hide fun Q1 hQ1 => ?_
          refine LoopOk.mk (fun m st => ∃ i, i + m = s.size ∧ 5 ≤ i ∧ (∀ j, 5 ≤ j → j < i → ¬ (s.data.toList[j]? = some 32 ∧ isW (s.extract 4 j) = true ∧ isW (s.extract (j + 1) s.size) = true)) ∧ st = ⟨[(5, dInt i), (0, .dat (.str s))], 0, []⟩) (s.size - 5) (Into.mono (Into.to [] [(5, dInt (5 : Nat)), (0, .dat (.str s))] [] (by repeat (first | exact trivial | refine ⟨.same (congrArg dInt (wrap_up (by omega))), ?_⟩ | refine ⟨.same rfl, ?_⟩ | refine ⟨.any _, ?_⟩)) trivial rfl rfl) fun s' h => ⟨5, by omega, by omega, fun j a b => by omega, h⟩) ?_
          rintro m st ⟨i, hi, h5i, hall, rfl⟩
          have hnext : ¬ (s.data.toList[i]? = some 32 ∧ isW (s.extract 4 i) = true ∧ isW (s.extract (i + 1) s.size) = true) → ∀ j, 5 ≤ j → j < i + 1 → ¬ (s.data.toList[j]? = some 32 ∧ isW (s.extract 4 j) = true ∧ isW (s.extract (j + 1) s.size) = true) := fun hn j a b => by
            by_cases hj : j = i
            · rw [hj]; exact hn
            · exact hall j a (by omega)
          conv => whnf
          repeat (first | (refine Conf.mk (by kernel_rfl) ?_; conv => whnf) | (refine SeqOk.go ?_; conv => whnf))
          by_cases hlt : i < s.size
          · obtain ⟨c, hc1, hc2⟩ := byteAt hlt
            refine BoolCase.yes (by simp; omega) ?_
            conv => whnf
            repeat (first | (refine Conf.mk (by kernel_rfl) ?_; conv => whnf) | (refine SeqOk.go ?_; conv => whnf))
            refine .mk i c rfl hc1 ?_
            conv => whnf
            repeat (first | (refine Conf.mk (by kernel_rfl) ?_; conv => whnf) | (refine SeqOk.go ?_; conv => whnf))
            have hw1 : ((i + 1 : Nat) : Int) = IntKind.i64.wrap ((i : Int) + 1) := wrap_up (by omega)
            by_cases hc : c = 32
            · rw [hc] at hc2
              refine BoolCase.yes (by rw [hc]; rfl) ?_
              conv => whnf
              repeat (first | (refine Conf.mk (by kernel_rfl) ?_; conv => whnf) | (refine SeqOk.go ?_; conv => whnf))
              refine .mk 4 i rfl rfl (by omega) (by omega) ?_
              conv => whnf
              repeat (first | (refine Conf.mk (by kernel_rfl) ?_; conv => whnf) | (refine SeqOk.go ?_; conv => whnf))
              cases hA : isW (s.extract 4 i)
              · have hno : ¬ (s.data.toList[i]? = some 32 ∧ isW (s.extract 4 i) = true ∧ isW (s.extract (i + 1) s.size) = true) := fun ⟨_, h, _⟩ => by rw [hA] at h; cases h
                refine .look _ _ (hA ▸ refIsWord_ok (s.extract 4 i) (ext_size hs)).kb rfl rfl ?_
                conv => whnf
                repeat (first | (refine Conf.mk (by kernel_rfl) ?_; conv => whnf) | (refine SeqOk.go ?_; conv => whnf))
                refine Into.mono (Into.to [] [(5, dInt (i + 1 : Nat)), (0, .dat (.str s))] [] (by repeat (first | exact trivial | refine ⟨.same (congrArg dInt (wrap_up (by omega))), ?_⟩ | refine ⟨.same rfl, ?_⟩ | refine ⟨.any _, ?_⟩)) trivial rfl rfl) fun s' h => ⟨m - 1, by omega, i + 1, by omega, by omega, hnext hno, h⟩
              · refine .look _ _ (hA ▸ refIsWord_ok (s.extract 4 i) (ext_size hs)).kb rfl rfl ?_
                conv => whnf
                repeat (first | (refine Conf.mk (by kernel_rfl) ?_; conv => whnf) | (refine SeqOk.go ?_; conv => whnf))
                refine .mk (i + 1) s.size hw1.symm rfl (by omega) (Nat.le_refl _) ?_
                conv => whnf
                repeat (first | (refine Conf.mk (by kernel_rfl) ?_; conv => whnf) | (refine SeqOk.go ?_; conv => whnf))
                cases hB : isW (s.extract (i + 1) s.size)
                · have hno : ¬ (s.data.toList[i]? = some 32 ∧ isW (s.extract 4 i) = true ∧ isW (s.extract (i + 1) s.size) = true) := fun ⟨_, _, h⟩ => by rw [hB] at h; cases h
                  refine .look _ _ (hB ▸ refIsWord_ok (s.extract (i + 1) s.size) (ext_size hs)).kb rfl rfl ?_
                  conv => whnf
                  repeat (first | (refine Conf.mk (by kernel_rfl) ?_; conv => whnf) | (refine SeqOk.go ?_; conv => whnf))
                  refine Into.mono (Into.to [] [(5, dInt (i + 1 : Nat)), (0, .dat (.str s))] [] (by repeat (first | exact trivial | refine ⟨.same (congrArg dInt (wrap_up (by omega))), ?_⟩ | refine ⟨.same rfl, ?_⟩ | refine ⟨.any _, ?_⟩)) trivial rfl rfl) fun s' h => ⟨m - 1, by omega, i + 1, by omega, by omega, hnext hno, h⟩
                · obtain ⟨hp, ha, hb⟩ := put_iff hq h5i hlt hc2 hA hB
                  refine .look _ _ (hB ▸ refIsWord_ok (s.extract (i + 1) s.size) (ext_size hs)).kb rfl rfl ?_
                  conv => whnf
                  repeat (first | (refine Conf.mk (by kernel_rfl) ?_; conv => whnf) | (refine SeqOk.go ?_; conv => whnf))
                  refine .mk 4 i rfl rfl (by omega) (by omega) ?_
                  conv => whnf
                  repeat (first | (refine Conf.mk (by kernel_rfl) ?_; conv => whnf) | (refine SeqOk.go ?_; conv => whnf))
                  refine .mk (i + 1) s.size hw1.symm rfl (by omega) (Nat.le_refl _) ?_
                  conv => whnf
                  repeat (first | (refine Conf.mk (by kernel_rfl) ?_; conv => whnf) | (refine SeqOk.go ?_; conv => whnf))
                  subst hQ1
                  conv => whnf
                  repeat (first | (refine Conf.mk (by kernel_rfl) ?_; conv => whnf) | (refine SeqOk.go ?_; conv => whnf))
                  rw [refAns_put hp, ha, hb]
                  exact Ret.to rfl
            · have hno : ¬ (s.data.toList[i]? = some 32 ∧ isW (s.extract 4 i) = true ∧ isW (s.extract (i + 1) s.size) = true) := fun ⟨h, _, _⟩ => by rw [hc2] at h; exact hc (by simpa using h)
              refine BoolCase.no (by
                have : c.toNat ≠ 32 := fun h => hc (by rw [← UInt8.toNat_inj]; exact h)
                simp; omega) ?_
              conv => whnf
              repeat (first | (refine Conf.mk (by kernel_rfl) ?_; conv => whnf) | (refine SeqOk.go ?_; conv => whnf))
              refine Into.mono (Into.to [] [(5, dInt (i + 1 : Nat)), (0, .dat (.str s))] [] (by repeat (first | exact trivial | refine ⟨.same (congrArg dInt (wrap_up (by omega))), ?_⟩ | refine ⟨.same rfl, ?_⟩ | refine ⟨.any _, ?_⟩)) trivial rfl rfl) fun s' h => ⟨m - 1, by omega, i + 1, by omega, by omega, hnext hno, h⟩
          · have hp : isPut s = false := by
              cases hp : isPut s
              · rfl
              · obtain ⟨j, a, b, c⟩ := put_at hp
                exact absurd c (hall j a (by omega))
            refine BoolCase.no (by simp; omega) ?_
            conv => whnf
            repeat (first | (refine Conf.mk (by kernel_rfl) ?_; conv => whnf) | (refine SeqOk.go ?_; conv => whnf))
            subst hQ1
            conv => whnf
            repeat (first | (refine Conf.mk (by kernel_rfl) ?_; conv => whnf) | (refine SeqOk.go ?_; conv => whnf))
            rw [refAns_none hp hd]
            exact Ret.to rfl
        · have hp : isPut s = false := by
            cases hp : isPut s
            · rfl
            · unfold isPut hasPre at hp
              simp only [Bool.and_eq_true, decide_eq_true_eq] at hp
              exact absurd hp.1.2 he4
          refine BoolCase.no (decide_eq_false he4) ?_
          conv => whnf
          repeat (first | (refine Conf.mk (by kernel_rfl) ?_; conv => whnf) | (refine SeqOk.go ?_; conv => whnf))
          rw [refAns_none hp hd]
          exact Ret.to rfl
      · have hp : isPut s = false := by
          cases hp : isPut s
          · rfl
          · obtain ⟨i, a, b, c⟩ := put_at hp; omega
        refine BoolCase.no (by simp; omega) ?_
        conv => whnf
        repeat (first | (refine Conf.mk (by kernel_rfl) ?_; conv => whnf) | (refine SeqOk.go ?_; conv => whnf))
        rw [refAns_none hp hd]
        exact Ret.to rfl
end Go.Proofs.YtlioojekjnigiaeGreat.AM.Fo
/- Reference: texts, rising. -/
namespace Go.Proofs.YtlioojekjnigiaeGreat.AM.Fo
set_option linter.unusedVariables false
set_option linter.unusedSimpArgs false
def leS (a b : ByteArray) : Bool := slt a b || decide (a = b)
theorem lt_of_len {α : Type} {enc : α → List D} {l : List α} {i : Nat} (h : decide ((i : Int) < ((l.map enc).length : Int)) = true) : i < l.length := by simpa using h
theorem ge_of_len {α : Type} {enc : α → List D} {l : List α} {i : Nat} (h : decide ((i : Int) < ((l.map enc).length : Int)) = false) : l.length ≤ i := by simpa using h
def wtGo (s : ByteArray) : List ByteArray → Bool → List ByteArray
  | [], put => if put = true then [] else [s]
  | x :: t, put => ((if put = false ∧ leS s x = true then [s] else []) ++ if x = s then [] else [x]) ++ wtGo s t (put || leS s x)
def withT (l : List ByteArray) (s : ByteArray) : List ByteArray := wtGo s l false
set_option maxHeartbeats 0 in
theorem withText_ok (l : List ByteArray) (s : ByteArray) (hl : l.length ≤ 1000) : PCall Tryz.prog 30 [.dat (.list (l.map encS)), .dat (.str s)] (.dat (.list ((withT l s).map encS))) := by
  refine pcall_cut tab_all tab_mixed Tryz.func30 (by kernel_rfl) Tryz.ntmps30 rfl ?_
  conv => whnf
  conv => whnf
  repeat (first | (refine Conf.mk (by kernel_rfl) ?_; conv => whnf) | (refine SeqOk.go ?_; conv => whnf))
  refine LoopOk.hide fun Q1 hQ1 => ?_
  refine LoopOk.mk (fun m st => ∃ i, ∃ (out : List ByteArray) (put : Bool), i + m = l.length ∧ out.length ≤ 2 * i ∧ withT l s = out ++ wtGo s (l.drop i) put ∧ st = ⟨[(7, dInt i), (6, dBool put), (5, .row 0), (0, .dat (.list (l.map encS))), (1, .dat (.str s))], 1, [(0, .rows 9 1 (out.map encS) true)]⟩) l.length ((Into.row 5 9 1 rfl).trans fun s' hs' => by
    subst hs'
    exact Into.mono (Into.to [0] [(7, dInt (0 : Nat)), (6, dBool false), (5, .row 0), (0, .dat (.list (l.map encS))), (1, .dat (.str s))] [(0, .rows 9 1 (([] : List ByteArray).map encS) true)] ⟨.same rfl, (by first | exact .same rfl | exact .kb _), .same rfl, .same rfl, .same rfl, trivial⟩ ⟨⟨rfl, rfl, rfl, rfl⟩, trivial⟩ rfl rfl) fun s' h => ⟨0, [], false, by omega, Nat.zero_le _, rfl, h⟩) ?_
  rintro m st ⟨i, out, put, hi, ho, hw, rfl⟩
  conv => whnf
  repeat (first | (refine Conf.mk (by kernel_rfl) ?_; conv => whnf) | (refine SeqOk.go ?_; conv => whnf))
  refine ⟨fun h => ?_, fun h => ?_⟩
  · have hi' := lt_of_len h
    rw [List.drop_eq_getElem_cons hi'] at hw
    unfold wtGo at hw
    have hof : out.length ≤ 2 * i := ho
    cases put
    · conv => whnf
      repeat (first | (refine Conf.mk (by kernel_rfl) ?_; conv => whnf) | (refine SeqOk.go ?_; conv => whnf))
      refine BoolCase.yes rfl ?_
      conv => whnf
      repeat (first | (refine Conf.mk (by kernel_rfl) ?_; conv => whnf) | (refine SeqOk.go ?_; conv => whnf))
      refine AtIdx.ofMap hi' rfl ?_
      conv => whnf
      repeat (first | (refine Conf.mk (by kernel_rfl) ?_; conv => whnf) | (refine SeqOk.go ?_; conv => whnf))
      cases hle : leS s l[i]
      · refine BoolCase.no hle ?_
        conv => whnf
        repeat (first | (refine Conf.mk (by kernel_rfl) ?_; conv => whnf) | (refine SeqOk.go ?_; conv => whnf))
        refine AtIdx.ofMap hi' rfl ?_
        conv => whnf
        repeat (first | (refine Conf.mk (by kernel_rfl) ?_; conv => whnf) | (refine SeqOk.go ?_; conv => whnf))
        by_cases he : l[i] = s
        · refine BoolCase.no (by simp [he]) ?_
          conv => whnf
          repeat (first | (refine Conf.mk (by kernel_rfl) ?_; conv => whnf) | (refine SeqOk.go ?_; conv => whnf))
          refine Into.mono (Into.to [0] [(7, dInt (i + 1 : Nat)), (6, dBool false), (5, .row 0), (0, .dat (.list (l.map encS))), (1, .dat (.str s))] [(0, .rows 9 1 ((out).map encS) true)] ⟨.same (congrArg dInt (wrap_up (by omega))), (by first | exact .same rfl | exact .kb _), .same rfl, .same rfl, .same rfl, trivial⟩ ⟨⟨rfl, rfl, rfl, by simp [encS]⟩, trivial⟩ rfl rfl) fun s' h => ⟨m - 1, by omega, i + 1, out, false, by omega, by first | omega | (simp; omega), ?_, h⟩
          rw [hw]; have hle' := he ▸ hle; simp [hle', he]
        · refine BoolCase.yes (by simp [he]) ?_
          conv => whnf
          repeat (first | (refine Conf.mk (by kernel_rfl) ?_; conv => whnf) | (refine SeqOk.go ?_; conv => whnf))
          refine AtIdx.ofMap hi' rfl ?_
          conv => whnf
          repeat (first | (refine Conf.mk (by kernel_rfl) ?_; conv => whnf) | (refine SeqOk.go ?_; conv => whnf))
          refine .mk (by simp [encS]) (by simp; omega) ?_
          conv => whnf
          repeat (first | (refine Conf.mk (by kernel_rfl) ?_; conv => whnf) | (refine SeqOk.go ?_; conv => whnf))
          refine Into.mono (Into.to [2] [(7, dInt (i + 1 : Nat)), (6, dBool false), (5, .row 0), (0, .dat (.list (l.map encS))), (1, .dat (.str s))] [(0, .rows 9 1 ((out ++ [l[i]]).map encS) true)] ⟨.same (congrArg dInt (wrap_up (by omega))), (by first | exact .same rfl | exact .kb _), .same rfl, .same rfl, .same rfl, trivial⟩ ⟨⟨rfl, rfl, rfl, by simp [encS]⟩, trivial⟩ rfl rfl) fun s' h => ⟨m - 1, by omega, i + 1, out ++ [l[i]], false, by omega, by first | omega | (simp; omega), ?_, h⟩
          rw [hw]; simp [hle, he]
      · refine BoolCase.yes hle ?_
        conv => whnf
        repeat (first | (refine Conf.mk (by kernel_rfl) ?_; conv => whnf) | (refine SeqOk.go ?_; conv => whnf))
        refine .mk (by simp [encS]) (by simp; omega) ?_
        conv => whnf
        repeat (first | (refine Conf.mk (by kernel_rfl) ?_; conv => whnf) | (refine SeqOk.go ?_; conv => whnf))
        refine AtIdx.ofMap hi' rfl ?_
        conv => whnf
        repeat (first | (refine Conf.mk (by kernel_rfl) ?_; conv => whnf) | (refine SeqOk.go ?_; conv => whnf))
        by_cases he : l[i] = s
        · refine BoolCase.no (by simp [he]) ?_
          conv => whnf
          repeat (first | (refine Conf.mk (by kernel_rfl) ?_; conv => whnf) | (refine SeqOk.go ?_; conv => whnf))
          refine Into.mono (Into.to [2] [(7, dInt (i + 1 : Nat)), (6, dBool true), (5, .row 0), (0, .dat (.list (l.map encS))), (1, .dat (.str s))] [(0, .rows 9 1 ((out ++ [s]).map encS) true)] ⟨.same (congrArg dInt (wrap_up (by omega))), (by first | exact .same rfl | exact .kb _), .same rfl, .same rfl, .same rfl, trivial⟩ ⟨⟨rfl, rfl, rfl, by simp [encS]⟩, trivial⟩ rfl rfl) fun s' h => ⟨m - 1, by omega, i + 1, out ++ [s], true, by omega, by first | omega | (simp; omega), ?_, h⟩
          rw [hw]; have hle' := he ▸ hle; simp [hle', he]
        · refine BoolCase.yes (by simp [he]) ?_
          conv => whnf
          repeat (first | (refine Conf.mk (by kernel_rfl) ?_; conv => whnf) | (refine SeqOk.go ?_; conv => whnf))
          refine AtIdx.ofMap hi' rfl ?_
          conv => whnf
          repeat (first | (refine Conf.mk (by kernel_rfl) ?_; conv => whnf) | (refine SeqOk.go ?_; conv => whnf))
          refine .mk (by simp [encS]) (by simp; omega) ?_
          conv => whnf
          repeat (first | (refine Conf.mk (by kernel_rfl) ?_; conv => whnf) | (refine SeqOk.go ?_; conv => whnf))
          refine Into.mono (Into.to [4] [(7, dInt (i + 1 : Nat)), (6, dBool true), (5, .row 0), (0, .dat (.list (l.map encS))), (1, .dat (.str s))] [(0, .rows 9 1 ((out ++ [s] ++ [l[i]]).map encS) true)] ⟨.same (congrArg dInt (wrap_up (by omega))), (by first | exact .same rfl | exact .kb _), .same rfl, .same rfl, .same rfl, trivial⟩ ⟨⟨rfl, rfl, rfl, by simp [encS]⟩, trivial⟩ rfl rfl) fun s' h => ⟨m - 1, by omega, i + 1, out ++ [s] ++ [l[i]], true, by omega, by first | omega | (simp; omega), ?_, h⟩
          rw [hw]; simp [hle, he]
    · conv => whnf
      repeat (first | (refine Conf.mk (by kernel_rfl) ?_; conv => whnf) | (refine SeqOk.go ?_; conv => whnf))
      refine BoolCase.no rfl ?_
      conv => whnf
      repeat (first | (refine Conf.mk (by kernel_rfl) ?_; conv => whnf) | (refine SeqOk.go ?_; conv => whnf))
      refine AtIdx.ofMap hi' rfl ?_
      conv => whnf
      repeat (first | (refine Conf.mk (by kernel_rfl) ?_; conv => whnf) | (refine SeqOk.go ?_; conv => whnf))
      by_cases he : l[i] = s
      · refine BoolCase.no (by simp [he]) ?_
        conv => whnf
        repeat (first | (refine Conf.mk (by kernel_rfl) ?_; conv => whnf) | (refine SeqOk.go ?_; conv => whnf))
        refine Into.mono (Into.to [0] [(7, dInt (i + 1 : Nat)), (6, dBool true), (5, .row 0), (0, .dat (.list (l.map encS))), (1, .dat (.str s))] [(0, .rows 9 1 ((out).map encS) true)] ⟨.same (congrArg dInt (wrap_up (by omega))), (by first | exact .same rfl | exact .kb _), .same rfl, .same rfl, .same rfl, trivial⟩ ⟨⟨rfl, rfl, rfl, by simp [encS]⟩, trivial⟩ rfl rfl) fun s' h => ⟨m - 1, by omega, i + 1, out, true, by omega, by first | omega | (simp; omega), ?_, h⟩
        rw [hw]; simp [Bool.true_or, he]
      · refine BoolCase.yes (by simp [he]) ?_
        conv => whnf
        repeat (first | (refine Conf.mk (by kernel_rfl) ?_; conv => whnf) | (refine SeqOk.go ?_; conv => whnf))
        refine AtIdx.ofMap hi' rfl ?_
        conv => whnf
        repeat (first | (refine Conf.mk (by kernel_rfl) ?_; conv => whnf) | (refine SeqOk.go ?_; conv => whnf))
        refine .mk (by simp [encS]) (by simp; omega) ?_
        conv => whnf
        repeat (first | (refine Conf.mk (by kernel_rfl) ?_; conv => whnf) | (refine SeqOk.go ?_; conv => whnf))
        refine Into.mono (Into.to [2] [(7, dInt (i + 1 : Nat)), (6, dBool true), (5, .row 0), (0, .dat (.list (l.map encS))), (1, .dat (.str s))] [(0, .rows 9 1 ((out ++ [l[i]]).map encS) true)] ⟨.same (congrArg dInt (wrap_up (by omega))), (by first | exact .same rfl | exact .kb _), .same rfl, .same rfl, .same rfl, trivial⟩ ⟨⟨rfl, rfl, rfl, by simp [encS]⟩, trivial⟩ rfl rfl) fun s' h => ⟨m - 1, by omega, i + 1, out ++ [l[i]], true, by omega, by first | omega | (simp; omega), ?_, h⟩
        rw [hw]; simp [Bool.true_or, he]
  · have hi' := ge_of_len h
    rw [List.drop_eq_nil_of_le hi'] at hw
    conv => whnf
    repeat (first | (refine Conf.mk (by kernel_rfl) ?_; conv => whnf) | (refine SeqOk.go ?_; conv => whnf))
    subst hQ1
    conv => whnf
    repeat (first | (refine Conf.mk (by kernel_rfl) ?_; conv => whnf) | (refine SeqOk.go ?_; conv => whnf))
    cases put
    · refine BoolCase.yes rfl ?_
      conv => whnf
      repeat (first | (refine Conf.mk (by kernel_rfl) ?_; conv => whnf) | (refine SeqOk.go ?_; conv => whnf))
      refine .mk (by simp [encS]) (by simp; omega) ?_
      conv => whnf
      repeat (first | (refine Conf.mk (by kernel_rfl) ?_; conv => whnf) | (refine SeqOk.go ?_; conv => whnf))
      exact Ret.to (by rw [hw]; simp [wtGo, encS])
    · refine BoolCase.no rfl ?_
      conv => whnf
      repeat (first | (refine Conf.mk (by kernel_rfl) ?_; conv => whnf) | (refine SeqOk.go ?_; conv => whnf))
      exact Ret.to (by rw [hw]; simp [wtGo, encS])
end Go.Proofs.YtlioojekjnigiaeGreat.AM.Fo
/- Reference: values of a key. -/
namespace Go.Proofs.YtlioojekjnigiaeGreat.AM.Fo
set_option linter.unusedVariables false
set_option linter.unusedSimpArgs false

set_option maxHeartbeats 0 in
theorem sameS_kb (a : List ByteArray) (h : a.length ≤ 140737488355327) : PCall Tryz.prog 15 [.dat (.list (a.map encS)), .dat (.list (a.map encS))] (.kb true) := by
  refine PCall.kb ?_
  refine pcall_cut tab_all tab_mixed Tryz.func15 (by kernel_rfl) Tryz.ntmps15 rfl ?_
  conv => whnf
  conv => whnf
  repeat (first | (refine Conf.mk (by kernel_rfl) ?_; conv => whnf) | (refine SeqOk.go ?_; conv => whnf))
  refine BoolCase.no (by simp) ?_
  conv => whnf
  repeat (first | (refine Conf.mk (by kernel_rfl) ?_; conv => whnf) | (refine SeqOk.go ?_; conv => whnf))
  refine LoopOk.hide fun Q1 hQ1 => ?_
  refine LoopOk.mk (fun m s => ∃ i, i + m = a.length ∧ s = ⟨[(5, dInt i), (0, .dat (.list (a.map encS))), (1, .dat (.list (a.map encS)))], 0, []⟩) a.length (Into.mono (Into.to [] [(5, dInt (0 : Nat)), (0, .dat (.list (a.map encS))), (1, .dat (.list (a.map encS)))] [] (by repeat (first | exact trivial | refine ⟨.same (congrArg dInt (wrap_up (by omega))), ?_⟩ | refine ⟨.same rfl, ?_⟩ | refine ⟨.any _, ?_⟩)) trivial rfl rfl) fun s' h => ⟨0, by omega, h⟩) ?_
  rintro m s ⟨i, him, rfl⟩
  conv => whnf
  repeat (first | (refine Conf.mk (by kernel_rfl) ?_; conv => whnf) | (refine SeqOk.go ?_; conv => whnf))
  refine ⟨fun h => ?_, fun h => ?_⟩
  · have hi' := lt_of_len h
    conv => whnf
    repeat (first | (refine Conf.mk (by kernel_rfl) ?_; conv => whnf) | (refine SeqOk.go ?_; conv => whnf))
    refine AtIdx.ofMap hi' rfl ?_
    conv => whnf
    repeat (first | (refine Conf.mk (by kernel_rfl) ?_; conv => whnf) | (refine SeqOk.go ?_; conv => whnf))
    refine AtIdx.ofMap hi' rfl ?_
    conv => whnf
    repeat (first | (refine Conf.mk (by kernel_rfl) ?_; conv => whnf) | (refine SeqOk.go ?_; conv => whnf))
    refine BoolCase.no (by simp) ?_
    conv => whnf
    repeat (first | (refine Conf.mk (by kernel_rfl) ?_; conv => whnf) | (refine SeqOk.go ?_; conv => whnf))
    exact Into.mono (Into.to [] [(5, dInt (i + 1 : Nat)), (0, .dat (.list (a.map encS))), (1, .dat (.list (a.map encS)))] [] (by repeat (first | exact trivial | refine ⟨.same (congrArg dInt (wrap_up (by omega))), ?_⟩ | refine ⟨.same rfl, ?_⟩ | refine ⟨.any _, ?_⟩)) trivial rfl rfl) fun s' h => ⟨m - 1, by omega, i + 1, by omega, h⟩
  · conv => whnf
    repeat (first | (refine Conf.mk (by kernel_rfl) ?_; conv => whnf) | (refine SeqOk.go ?_; conv => whnf))
    subst hQ1
    conv => whnf
    exact Ret.bool rfl
set_option maxHeartbeats 0 in
theorem sameMap_kb (a : List PairD) (h : a.length ≤ 140737488355327) (hv : ∀ p ∈ a, p.vals.length ≤ 140737488355327) : PCall Tryz.prog 14 [.dat (.list (a.map PairD.enc)), .dat (.list (a.map PairD.enc))] (.kb true) := by
  refine PCall.kb ?_
  refine pcall_cut tab_all tab_mixed Tryz.func14 (by kernel_rfl) Tryz.ntmps14 rfl ?_
  conv => whnf
  conv => whnf
  repeat (first | (refine Conf.mk (by kernel_rfl) ?_; conv => whnf) | (refine SeqOk.go ?_; conv => whnf))
  refine BoolCase.no (by simp) ?_
  conv => whnf
  repeat (first | (refine Conf.mk (by kernel_rfl) ?_; conv => whnf) | (refine SeqOk.go ?_; conv => whnf))
  refine LoopOk.hide fun Q1 hQ1 => ?_
  refine LoopOk.mk (fun m s => ∃ i, i + m = a.length ∧ s = ⟨[(5, dInt i), (0, .dat (.list (a.map PairD.enc))), (1, .dat (.list (a.map PairD.enc)))], 0, []⟩) a.length (Into.mono (Into.to [] [(5, dInt (0 : Nat)), (0, .dat (.list (a.map PairD.enc))), (1, .dat (.list (a.map PairD.enc)))] [] (by repeat (first | exact trivial | refine ⟨.same (congrArg dInt (wrap_up (by omega))), ?_⟩ | refine ⟨.same rfl, ?_⟩ | refine ⟨.any _, ?_⟩)) trivial rfl rfl) fun s' h => ⟨0, by omega, h⟩) ?_
  rintro m s ⟨i, him, rfl⟩
  conv => whnf
  repeat (first | (refine Conf.mk (by kernel_rfl) ?_; conv => whnf) | (refine SeqOk.go ?_; conv => whnf))
  refine ⟨fun h => ?_, fun h => ?_⟩
  · have hi' := lt_of_len h
    conv => whnf
    repeat (first | (refine Conf.mk (by kernel_rfl) ?_; conv => whnf) | (refine SeqOk.go ?_; conv => whnf))
    refine AtIdx.ofMap hi' rfl ?_
    conv => whnf
    repeat (first | (refine Conf.mk (by kernel_rfl) ?_; conv => whnf) | (refine SeqOk.go ?_; conv => whnf))
    refine AtIdx.ofMap hi' rfl ?_
    conv => whnf
    repeat (first | (refine Conf.mk (by kernel_rfl) ?_; conv => whnf) | (refine SeqOk.go ?_; conv => whnf))
    refine BoolCase.no (by simp) ?_
    conv => whnf
    repeat (first | (refine Conf.mk (by kernel_rfl) ?_; conv => whnf) | (refine SeqOk.go ?_; conv => whnf))
    refine AtIdx.ofMap hi' rfl ?_
    conv => whnf
    repeat (first | (refine Conf.mk (by kernel_rfl) ?_; conv => whnf) | (refine SeqOk.go ?_; conv => whnf))
    refine AtIdx.ofMap hi' rfl ?_
    conv => whnf
    repeat (first | (refine Conf.mk (by kernel_rfl) ?_; conv => whnf) | (refine SeqOk.go ?_; conv => whnf))
    refine .look _ _ (sameS_kb a[i].vals (hv _ (List.getElem_mem hi'))) rfl rfl ?_
    conv => whnf
    repeat (first | (refine Conf.mk (by kernel_rfl) ?_; conv => whnf) | (refine SeqOk.go ?_; conv => whnf))
    exact Into.mono (Into.to [] [(5, dInt (i + 1 : Nat)), (0, .dat (.list (a.map PairD.enc))), (1, .dat (.list (a.map PairD.enc)))] [] (by repeat (first | exact trivial | refine ⟨.same (congrArg dInt (wrap_up (by omega))), ?_⟩ | refine ⟨.same rfl, ?_⟩ | refine ⟨.any _, ?_⟩)) trivial rfl rfl) fun s' h => ⟨m - 1, by omega, i + 1, by omega, h⟩
  · conv => whnf
    repeat (first | (refine Conf.mk (by kernel_rfl) ?_; conv => whnf) | (refine SeqOk.go ?_; conv => whnf))
    subst hQ1
    conv => whnf
    exact Ret.bool rfl
/-- Is an entry an op of a key, of some colors, that has a place in its past? -/
def hides (l : List Entry') (c : Int) (k : ByteArray) (i n : Nat) : Bool := match l[n]? with
  | some e => opKind e.text != 0 && (decide (opKey e.text = k) && (meets e.colors c && isIn (pastBs l n) i))
  | none => false
def hidTo (l : List Entry') (c : Int) (k : ByteArray) (i n : Nat) : Bool := (List.range n).any (hides l c k i)
theorem hidTo_up (l : List Entry') (c : Int) (k : ByteArray) (i n : Nat) : hidTo l c k i (n + 1) = (hidTo l c k i n || hides l c k i n) := by
  unfold hidTo
  rw [List.range_succ, List.any_append]
  simp
/-- Does a value stand? -/
def valAt (l : List Entry') (c : Int) (k : ByteArray) (i : Nat) : Option ByteArray := match l[i]? with
  | some e => if opKind e.text = 1 ∧ opKey e.text = k ∧ meets e.colors c = true ∧ hidTo l c k i l.length = false then some (opVal e.text) else none
  | none => none
def valsTo (l : List Entry') (c : Int) (k : ByteArray) : Nat → List ByteArray
  | 0 => []
  | i + 1 => match valAt l c k i with
    | some v => withT (valsTo l c k i) v
    | none => valsTo l c k i
def valsOf (l : List Entry') (c : Int) (k : ByteArray) : List ByteArray := valsTo l c k l.length
theorem wtGo_len (s : ByteArray) : ∀ (l : List ByteArray) (b : Bool), (wtGo s l b).length ≤ l.length + if b = true then 0 else 1
  | [], b => by unfold wtGo; split <;> simp
  | x :: t, b => by
    unfold wtGo
    have := wtGo_len s t (b || leS s x)
    rw [List.length_append, List.length_append, List.length_cons]
    have h2 : (if x = s then ([] : List ByteArray) else [x]).length ≤ 1 := by split <;> simp
    generalize (if x = s then ([] : List ByteArray) else [x]).length = z at *
    cases b
    · cases h : leS s x
      · rw [h] at this
        rw [if_neg (fun k => absurd k.2 (by decide))]
        simp only [Bool.or_false, Bool.false_eq_true, if_false, List.length_nil] at this ⊢
        omega
      · rw [h] at this
        rw [if_pos ⟨rfl, rfl⟩]
        simp only [Bool.or_true, Bool.false_eq_true, if_true, if_false, List.length_singleton] at this ⊢
        omega
    · rw [if_neg (fun k => absurd k.1 (by decide))]
      simp only [Bool.true_or, if_true, List.length_nil] at this ⊢
      omega
theorem withT_len (l : List ByteArray) (s : ByteArray) : (withT l s).length ≤ l.length + 1 := wtGo_len s l false
theorem valsTo_len (l : List Entry') (c : Int) (k : ByteArray) : ∀ i, (valsTo l c k i).length ≤ i
  | 0 => Nat.le_refl _
  | i + 1 => by
    unfold valsTo
    have := valsTo_len l c k i
    split
    · rename_i v _
      have := withT_len (valsTo l c k i) v
      omega
    · omega
end Go.Proofs.YtlioojekjnigiaeGreat.AM.Fo
/- Reference: values of a key, the walk. -/
namespace Go.Proofs.YtlioojekjnigiaeGreat.AM.Fo
set_option linter.unusedVariables false
set_option linter.unusedSimpArgs false

theorem valsTo_no {l : List Entry'} {c : Int} {k : ByteArray} {i : Nat} (h : valAt l c k i = none) : valsTo l c k (i + 1) = valsTo l c k i := by
  show (match valAt l c k i with | some v => withT (valsTo l c k i) v | none => valsTo l c k i) = _
  rw [h]
theorem valsTo_yes {l : List Entry'} {c : Int} {k v : ByteArray} {i : Nat} (h : valAt l c k i = some v) : valsTo l c k (i + 1) = withT (valsTo l c k i) v := by
  show (match valAt l c k i with | some v => withT (valsTo l c k i) v | none => valsTo l c k i) = _
  rw [h]
theorem hides_at {l : List Entry'} {c : Int} {k : ByteArray} {i n : Nat} (h : n < l.length) : hides l c k i n = (opKind l[n].text != 0 && (decide (opKey l[n].text = k) && (meets l[n].colors c && isIn (pastBs l n) i))) := by
  unfold hides
  rw [List.getElem?_eq_getElem h]
set_option maxHeartbeats 0 in
theorem valuesOf_ok (l : List Entry') (hr : Right l) (c : Int) (k : ByteArray) : PCall Tryz.prog 11 [.dat (.list (l.map Entry'.enc)), dInt c, .dat (.str k)] (.dat (.list ((valsOf l c k).map encS))) := by
  have hlen := hr.len
  have htx : ∀ e ∈ l, e.text.size ≤ 140737488355327 := fun e he => by have := (six_of (hr.mem he)).1; omega
  refine pcall_cut tab_all tab_mixed Tryz.func11 (by kernel_rfl) Tryz.ntmps11 rfl ?_
  conv => whnf
  conv => whnf
  repeat (first | (refine Conf.mk (by kernel_rfl) ?_; conv => whnf) | (refine SeqOk.go ?_; conv => whnf))
  refine LoopOk.hide fun Q1 hQ1 => ?_
  refine LoopOk.mk (fun m st => ∃ i, i + m = l.length ∧ st = ⟨[(8, dInt i), (7, .dat (.list ((valsTo l c k i).map encS))), (0, .dat (.list (l.map Entry'.enc))), (1, dInt c), (2, .dat (.str k))], 0, []⟩) l.length (Into.mono (Into.to [] [(8, dInt (0 : Nat)), (7, .dat (.list ((valsTo l c k 0).map encS))), (0, .dat (.list (l.map Entry'.enc))), (1, dInt c), (2, .dat (.str k))] [] ⟨.same rfl, .data rfl, .same rfl, .same rfl, .same rfl, trivial⟩ trivial rfl rfl) fun s' h => ⟨0, by omega, h⟩) ?_
  rintro m st ⟨i, hi, rfl⟩
  have hvl := valsTo_len l c k i
  conv => whnf
  repeat (first | (refine Conf.mk (by kernel_rfl) ?_; conv => whnf) | (refine SeqOk.go ?_; conv => whnf))
  refine ⟨fun h => ?_, fun h => ?_⟩
  · have hi' := lt_of_len h
    conv => whnf
    repeat (first | (refine Conf.mk (by kernel_rfl) ?_; conv => whnf) | (refine SeqOk.go ?_; conv => whnf))
    refine AtIdx.ofMap hi' rfl ?_
    conv => whnf
    repeat (first | (refine Conf.mk (by kernel_rfl) ?_; conv => whnf) | (refine SeqOk.go ?_; conv => whnf))
    refine .data _ _ (opOf_ok l[i].text (htx _ (List.getElem_mem hi'))) rfl ?_
    conv => whnf
    repeat (first | (refine Conf.mk (by kernel_rfl) ?_; conv => whnf) | (refine SeqOk.go ?_; conv => whnf))
    by_cases h1 : opKind l[i].text = 1
    · refine BoolCase.no (by simp [h1]) ?_
      conv => whnf
      repeat (first | (refine Conf.mk (by kernel_rfl) ?_; conv => whnf) | (refine SeqOk.go ?_; conv => whnf))
      by_cases h2 : opKey l[i].text = k
      · refine BoolCase.no (by simp [h2]) ?_
        conv => whnf
        repeat (first | (refine Conf.mk (by kernel_rfl) ?_; conv => whnf) | (refine SeqOk.go ?_; conv => whnf))
        refine AtIdx.ofMap hi' rfl ?_
        conv => whnf
        repeat (first | (refine Conf.mk (by kernel_rfl) ?_; conv => whnf) | (refine SeqOk.go ?_; conv => whnf))
        refine .look _ _ (meets_ok _ _) rfl rfl ?_
        conv => whnf
        repeat (first | (refine Conf.mk (by kernel_rfl) ?_; conv => whnf) | (refine SeqOk.go ?_; conv => whnf))
        cases h3 : meets l[i].colors c
        · have hno : valAt l c k i = none := by unfold valAt; rw [List.getElem?_eq_getElem hi']; exact if_neg fun h => by rw [h3] at h; exact absurd h.2.2.1 (by decide)
          refine BoolCase.yes rfl ?_
          conv => whnf
          repeat (first | (refine Conf.mk (by kernel_rfl) ?_; conv => whnf) | (refine SeqOk.go ?_; conv => whnf))
          refine Into.mono (Into.to [] [(8, dInt (i + 1 : Nat)), (7, .dat (.list ((valsTo l c k (i + 1)).map encS))), (0, .dat (.list (l.map Entry'.enc))), (1, dInt c), (2, .dat (.str k))] [] ⟨.same (congrArg dInt (wrap_up (by omega))), .same (by rw [valsTo_no hno]; rfl), .same rfl, .same rfl, .same rfl, trivial⟩ trivial rfl rfl) fun s' h => ⟨m - 1, by omega, i + 1, by omega, h⟩
        · refine BoolCase.no rfl ?_
          conv => whnf
          repeat (first | (refine Conf.mk (by kernel_rfl) ?_; conv => whnf) | (refine SeqOk.go ?_; conv => whnf))
          refine LoopOk.hide fun Q2 hQ2 => ?_
          refine LoopOk.mk (fun m2 st => ∃ n, n + m2 = l.length ∧ st = ⟨[(13, dInt n), (12, dBool (!hidTo l c k i n)), (8, dInt i), (7, .dat (.list ((valsTo l c k i).map encS))), (11, .dat (.str (opVal l[i].text))), (0, .dat (.list (l.map Entry'.enc))), (1, dInt c), (2, .dat (.str k))], 0, []⟩) l.length (Into.mono (Into.to [] [(13, dInt (0 : Nat)), (12, dBool (!hidTo l c k i 0)), (8, dInt i), (7, .dat (.list ((valsTo l c k i).map encS))), (11, .dat (.str (opVal l[i].text))), (0, .dat (.list (l.map Entry'.enc))), (1, dInt c), (2, .dat (.str k))] [] ⟨.same rfl, .kb _, .same rfl, .same rfl, .same rfl, .same rfl, .same rfl, .same rfl, trivial⟩ trivial rfl rfl) fun s' h => ⟨0, by omega, h⟩) ?_
          rintro m2 st ⟨n, hn, rfl⟩
          have hup := hidTo_up l c k i n
          conv => whnf
          repeat (first | (refine Conf.mk (by kernel_rfl) ?_; conv => whnf) | (refine SeqOk.go ?_; conv => whnf))
          refine ⟨fun h => ?_, fun h => ?_⟩
          · have hn' := lt_of_len h
            rw [hides_at hn'] at hup
            conv => whnf
            repeat (first | (refine Conf.mk (by kernel_rfl) ?_; conv => whnf) | (refine SeqOk.go ?_; conv => whnf))
            refine AtIdx.ofMap hn' rfl ?_
            conv => whnf
            repeat (first | (refine Conf.mk (by kernel_rfl) ?_; conv => whnf) | (refine SeqOk.go ?_; conv => whnf))
            refine .data _ _ (opOf_ok l[n].text (htx _ (List.getElem_mem hn'))) rfl ?_
            conv => whnf
            repeat (first | (refine Conf.mk (by kernel_rfl) ?_; conv => whnf) | (refine SeqOk.go ?_; conv => whnf))
            by_cases g1 : opKind l[n].text = 0
            · have hno2 : (opKind l[n].text != 0 && (decide (opKey l[n].text = k) && (meets l[n].colors c && isIn (pastBs l n) i))) = false := by simp [g1]
              refine BoolCase.no (by simp [g1]) ?_
              conv => whnf
              repeat (first | (refine Conf.mk (by kernel_rfl) ?_; conv => whnf) | (refine SeqOk.go ?_; conv => whnf))
              refine Into.mono (Into.to [] [(13, dInt (n + 1 : Nat)), (12, dBool (!hidTo l c k i (n + 1))), (8, dInt i), (7, .dat (.list ((valsTo l c k i).map encS))), (11, .dat (.str (opVal l[i].text))), (0, .dat (.list (l.map Entry'.enc))), (1, dInt c), (2, .dat (.str k))] [] ⟨.same (congrArg dInt (wrap_up (by omega))), .same (by rw [hup, hno2, Bool.or_false]; rfl), .same rfl, .same rfl, .same rfl, .same rfl, .same rfl, .same rfl, trivial⟩ trivial rfl rfl) fun s' h => ⟨m2 - 1, by omega, n + 1, by omega, h⟩
            · refine BoolCase.yes (by simp [g1]) ?_
              conv => whnf
              repeat (first | (refine Conf.mk (by kernel_rfl) ?_; conv => whnf) | (refine SeqOk.go ?_; conv => whnf))
              by_cases g2 : opKey l[n].text = k
              · refine BoolCase.yes (by simp [g2]) ?_
                conv => whnf
                repeat (first | (refine Conf.mk (by kernel_rfl) ?_; conv => whnf) | (refine SeqOk.go ?_; conv => whnf))
                refine AtIdx.ofMap hn' rfl ?_
                conv => whnf
                repeat (first | (refine Conf.mk (by kernel_rfl) ?_; conv => whnf) | (refine SeqOk.go ?_; conv => whnf))
                refine .look _ _ (meets_ok _ _) rfl rfl ?_
                conv => whnf
                repeat (first | (refine Conf.mk (by kernel_rfl) ?_; conv => whnf) | (refine SeqOk.go ?_; conv => whnf))
                cases g3 : meets l[n].colors c
                · have hno2 : (opKind l[n].text != 0 && (decide (opKey l[n].text = k) && (meets l[n].colors c && isIn (pastBs l n) i))) = false := by simp [g3]
                  refine BoolCase.no rfl ?_
                  conv => whnf
                  repeat (first | (refine Conf.mk (by kernel_rfl) ?_; conv => whnf) | (refine SeqOk.go ?_; conv => whnf))
                  refine Into.mono (Into.to [] [(13, dInt (n + 1 : Nat)), (12, dBool (!hidTo l c k i (n + 1))), (8, dInt i), (7, .dat (.list ((valsTo l c k i).map encS))), (11, .dat (.str (opVal l[i].text))), (0, .dat (.list (l.map Entry'.enc))), (1, dInt c), (2, .dat (.str k))] [] ⟨.same (congrArg dInt (wrap_up (by omega))), .same (by rw [hup, hno2, Bool.or_false]; rfl), .same rfl, .same rfl, .same rfl, .same rfl, .same rfl, .same rfl, trivial⟩ trivial rfl rfl) fun s' h => ⟨m2 - 1, by omega, n + 1, by omega, h⟩
                · refine BoolCase.yes rfl ?_
                  conv => whnf
                  repeat (first | (refine Conf.mk (by kernel_rfl) ?_; conv => whnf) | (refine SeqOk.go ?_; conv => whnf))
                  refine .data _ _ (pastOfB_ok l hr n hn') rfl ?_
                  conv => whnf
                  repeat (first | (refine Conf.mk (by kernel_rfl) ?_; conv => whnf) | (refine SeqOk.go ?_; conv => whnf))
                  have hpl : i < (pastBs l n).length := by unfold pastBs; rw [pastB_length]; exact hi'
                  have hin : isIn (pastBs l n) i = (pastBs l n)[i] := by unfold isIn; rw [List.getElem?_eq_getElem hpl]; rfl
                  refine AtIdx.ofMap hpl rfl ?_
                  conv => whnf
                  repeat (first | (refine Conf.mk (by kernel_rfl) ?_; conv => whnf) | (refine SeqOk.go ?_; conv => whnf))
                  cases g4 : (pastBs l n)[i]
                  · have hno2 : (opKind l[n].text != 0 && (decide (opKey l[n].text = k) && (meets l[n].colors c && isIn (pastBs l n) i))) = false := by simp [hin, g4]
                    refine BoolCase.no rfl ?_
                    conv => whnf
                    repeat (first | (refine Conf.mk (by kernel_rfl) ?_; conv => whnf) | (refine SeqOk.go ?_; conv => whnf))
                    refine Into.mono (Into.to [] [(13, dInt (n + 1 : Nat)), (12, dBool (!hidTo l c k i (n + 1))), (8, dInt i), (7, .dat (.list ((valsTo l c k i).map encS))), (11, .dat (.str (opVal l[i].text))), (0, .dat (.list (l.map Entry'.enc))), (1, dInt c), (2, .dat (.str k))] [] ⟨.same (congrArg dInt (wrap_up (by omega))), .same (by rw [hup, hno2, Bool.or_false]; rfl), .same rfl, .same rfl, .same rfl, .same rfl, .same rfl, .same rfl, trivial⟩ trivial rfl rfl) fun s' h => ⟨m2 - 1, by omega, n + 1, by omega, h⟩
                  · have hyes : hidTo l c k i (n + 1) = true := by rw [hup, hin, g4, g3]; simp [g1, g2]
                    refine BoolCase.yes rfl ?_
                    conv => whnf
                    repeat (first | (refine Conf.mk (by kernel_rfl) ?_; conv => whnf) | (refine SeqOk.go ?_; conv => whnf))
                    refine Into.mono (Into.to [] [(13, dInt (n + 1 : Nat)), (12, dBool (!hidTo l c k i (n + 1))), (8, dInt i), (7, .dat (.list ((valsTo l c k i).map encS))), (11, .dat (.str (opVal l[i].text))), (0, .dat (.list (l.map Entry'.enc))), (1, dInt c), (2, .dat (.str k))] [] ⟨.same (congrArg dInt (wrap_up (by omega))), (by rw [hyes]; first | exact .same rfl | exact .kb _), .same rfl, .same rfl, .same rfl, .same rfl, .same rfl, .same rfl, trivial⟩ trivial rfl rfl) fun s' h => ⟨m2 - 1, by omega, n + 1, by omega, h⟩
              · have hno2 : (opKind l[n].text != 0 && (decide (opKey l[n].text = k) && (meets l[n].colors c && isIn (pastBs l n) i))) = false := by simp [g2]
                refine BoolCase.no (by simp [g2]) ?_
                conv => whnf
                repeat (first | (refine Conf.mk (by kernel_rfl) ?_; conv => whnf) | (refine SeqOk.go ?_; conv => whnf))
                refine Into.mono (Into.to [] [(13, dInt (n + 1 : Nat)), (12, dBool (!hidTo l c k i (n + 1))), (8, dInt i), (7, .dat (.list ((valsTo l c k i).map encS))), (11, .dat (.str (opVal l[i].text))), (0, .dat (.list (l.map Entry'.enc))), (1, dInt c), (2, .dat (.str k))] [] ⟨.same (congrArg dInt (wrap_up (by omega))), .same (by rw [hup, hno2, Bool.or_false]; rfl), .same rfl, .same rfl, .same rfl, .same rfl, .same rfl, .same rfl, trivial⟩ trivial rfl rfl) fun s' h => ⟨m2 - 1, by omega, n + 1, by omega, h⟩
          · have hn' := ge_of_len h
            obtain rfl : n = l.length := by omega
            conv => whnf
            repeat (first | (refine Conf.mk (by kernel_rfl) ?_; conv => whnf) | (refine SeqOk.go ?_; conv => whnf))
            subst hQ2
            conv => whnf
            conv => whnf
            repeat (first | (refine Conf.mk (by kernel_rfl) ?_; conv => whnf) | (refine SeqOk.go ?_; conv => whnf))
            cases g5 : hidTo l c k i l.length
            · have hyes : valAt l c k i = some (opVal l[i].text) := by unfold valAt; rw [List.getElem?_eq_getElem hi']; exact if_pos ⟨h1, h2, h3, g5⟩
              refine BoolCase.yes rfl ?_
              conv => whnf
              repeat (first | (refine Conf.mk (by kernel_rfl) ?_; conv => whnf) | (refine SeqOk.go ?_; conv => whnf))
              refine .data _ _ (withText_ok (valsTo l c k i) (opVal l[i].text) (by omega)) rfl ?_
              conv => whnf
              repeat (first | (refine Conf.mk (by kernel_rfl) ?_; conv => whnf) | (refine SeqOk.go ?_; conv => whnf))
              refine Into.mono (Into.to [] [(8, dInt (i + 1 : Nat)), (7, .dat (.list ((valsTo l c k (i + 1)).map encS))), (0, .dat (.list (l.map Entry'.enc))), (1, dInt c), (2, .dat (.str k))] [] ⟨.same (congrArg dInt (wrap_up (by omega))), .same (by rw [valsTo_yes hyes]; rfl), .same rfl, .same rfl, .same rfl, trivial⟩ trivial rfl rfl) fun s' h => ⟨m - 1, by omega, i + 1, by omega, h⟩
            · have hno : valAt l c k i = none := by unfold valAt; rw [List.getElem?_eq_getElem hi']; exact if_neg fun h => by rw [g5] at h; exact absurd h.2.2.2 (by decide)
              refine BoolCase.no rfl ?_
              conv => whnf
              repeat (first | (refine Conf.mk (by kernel_rfl) ?_; conv => whnf) | (refine SeqOk.go ?_; conv => whnf))
              refine Into.mono (Into.to [] [(8, dInt (i + 1 : Nat)), (7, .dat (.list ((valsTo l c k (i + 1)).map encS))), (0, .dat (.list (l.map Entry'.enc))), (1, dInt c), (2, .dat (.str k))] [] ⟨.same (congrArg dInt (wrap_up (by omega))), .same (by rw [valsTo_no hno]; rfl), .same rfl, .same rfl, .same rfl, trivial⟩ trivial rfl rfl) fun s' h => ⟨m - 1, by omega, i + 1, by omega, h⟩
      · have hno : valAt l c k i = none := by unfold valAt; rw [List.getElem?_eq_getElem hi']; exact if_neg fun h => h2 h.2.1
        refine BoolCase.yes (by simp [h2]) ?_
        conv => whnf
        repeat (first | (refine Conf.mk (by kernel_rfl) ?_; conv => whnf) | (refine SeqOk.go ?_; conv => whnf))
        refine Into.mono (Into.to [] [(8, dInt (i + 1 : Nat)), (7, .dat (.list ((valsTo l c k (i + 1)).map encS))), (0, .dat (.list (l.map Entry'.enc))), (1, dInt c), (2, .dat (.str k))] [] ⟨.same (congrArg dInt (wrap_up (by omega))), .same (by rw [valsTo_no hno]; rfl), .same rfl, .same rfl, .same rfl, trivial⟩ trivial rfl rfl) fun s' h => ⟨m - 1, by omega, i + 1, by omega, h⟩
    · have hno : valAt l c k i = none := by unfold valAt; rw [List.getElem?_eq_getElem hi']; exact if_neg fun h => h1 h.1
      refine BoolCase.yes (by simp [h1]) ?_
      conv => whnf
      repeat (first | (refine Conf.mk (by kernel_rfl) ?_; conv => whnf) | (refine SeqOk.go ?_; conv => whnf))
      refine Into.mono (Into.to [] [(8, dInt (i + 1 : Nat)), (7, .dat (.list ((valsTo l c k (i + 1)).map encS))), (0, .dat (.list (l.map Entry'.enc))), (1, dInt c), (2, .dat (.str k))] [] ⟨.same (congrArg dInt (wrap_up (by omega))), .same (by rw [valsTo_no hno]; rfl), .same rfl, .same rfl, .same rfl, trivial⟩ trivial rfl rfl) fun s' h => ⟨m - 1, by omega, i + 1, by omega, h⟩
  · have hi' := ge_of_len h
    obtain rfl : i = l.length := by omega
    conv => whnf
    repeat (first | (refine Conf.mk (by kernel_rfl) ?_; conv => whnf) | (refine SeqOk.go ?_; conv => whnf))
    subst hQ1
    conv => whnf
    exact Ret.to rfl
end Go.Proofs.YtlioojekjnigiaeGreat.AM.Fo
/- Reference: the map. -/
namespace Go.Proofs.YtlioojekjnigiaeGreat.AM.Fo
set_option linter.unusedVariables false
set_option linter.unusedSimpArgs false
def keysTo (l : List Entry') : Nat → List ByteArray
  | 0 => []
  | i + 1 => match l[i]? with
    | some e => if opKind e.text = 1 then withT (keysTo l i) (opKey e.text) else keysTo l i
    | none => keysTo l i
theorem keysTo_up {l : List Entry'} {i : Nat} (h : i < l.length) : keysTo l (i + 1) = if opKind l[i].text = 1 then withT (keysTo l i) (opKey l[i].text) else keysTo l i := by
  show (match l[i]? with | some e => if opKind e.text = 1 then withT (keysTo l i) (opKey e.text) else keysTo l i | none => keysTo l i) = _
  rw [List.getElem?_eq_getElem h]
theorem keysTo_len (l : List Entry') : ∀ i, (keysTo l i).length ≤ i
  | 0 => Nat.le_refl _
  | i + 1 => by
    unfold keysTo
    have := keysTo_len l i
    split
    · rename_i e _
      have := withT_len (keysTo l i) (opKey e.text)
      split <;> omega
    · omega
def keysOf (l : List Entry') : List ByteArray := keysTo l l.length
def pairAt (l : List Entry') (c : Int) (k : ByteArray) : Option PairD := if 0 < (valsOf l c k).length then some ⟨k, valsOf l c k⟩ else none
def mapOf (l : List Entry') (c : Int) : List PairD := (keysOf l).filterMap (pairAt l c)
def mapTo (l : List Entry') (c : Int) (j : Nat) : List PairD := ((keysOf l).take j).filterMap (pairAt l c)
theorem mapTo_up {l : List Entry'} {c : Int} {j : Nat} (h : j < (keysOf l).length) : mapTo l c (j + 1) = mapTo l c j ++ (match pairAt l c (keysOf l)[j] with | some p => [p] | none => []) := by
  unfold mapTo
  rw [List.take_add_one, List.getElem?_eq_getElem h, List.filterMap_append]
  congr 1
  show List.filterMap _ [_] = _
  cases h2 : pairAt l c (keysOf l)[j] <;> simp [h2]
theorem mapTo_len (l : List Entry') (c : Int) (j : Nat) : (mapTo l c j).length ≤ j := by
  unfold mapTo
  exact Nat.le_trans (List.length_filterMap_le _ _) (by simp; omega)
set_option maxHeartbeats 0 in
theorem mapOf_ok (l : List Entry') (hr : Right l) (c : Int) : PCall Tryz.prog 10 [.dat (.list (l.map Entry'.enc)), dInt c] (.dat (.list ((mapOf l c).map PairD.enc))) := by
  have hlen := hr.len
  have htx : ∀ e ∈ l, e.text.size ≤ 140737488355327 := fun e he => by have := (six_of (hr.mem he)).1; omega
  have hkl : (keysOf l).length ≤ l.length := keysTo_len l _
  refine pcall_cut tab_all tab_mixed Tryz.func10 (by kernel_rfl) Tryz.ntmps10 rfl ?_
  conv => whnf
  conv => whnf
  repeat (first | (refine Conf.mk (by kernel_rfl) ?_; conv => whnf) | (refine SeqOk.go ?_; conv => whnf))
  refine LoopOk.hide fun Q1 hQ1 => ?_
  refine LoopOk.mk (fun m st => ∃ i, i + m = l.length ∧ st = ⟨[(6, dInt i), (5, .dat (.list ((keysTo l i).map encS))), (0, .dat (.list (l.map Entry'.enc))), (1, dInt c)], 0, []⟩) l.length (Into.mono (Into.to [] [(6, dInt (0 : Nat)), (5, .dat (.list ((keysTo l 0).map encS))), (0, .dat (.list (l.map Entry'.enc))), (1, dInt c)] [] ⟨.same rfl, .data rfl, .same rfl, .same rfl, trivial⟩ trivial rfl rfl) fun s' h => ⟨0, by omega, h⟩) ?_
  rintro m st ⟨i, hi, rfl⟩
  have hvl := keysTo_len l i
  conv => whnf
  repeat (first | (refine Conf.mk (by kernel_rfl) ?_; conv => whnf) | (refine SeqOk.go ?_; conv => whnf))
  refine ⟨fun h => ?_, fun h => ?_⟩
  · have hi' := lt_of_len h
    have hup := keysTo_up hi'
    conv => whnf
    repeat (first | (refine Conf.mk (by kernel_rfl) ?_; conv => whnf) | (refine SeqOk.go ?_; conv => whnf))
    refine AtIdx.ofMap hi' rfl ?_
    conv => whnf
    repeat (first | (refine Conf.mk (by kernel_rfl) ?_; conv => whnf) | (refine SeqOk.go ?_; conv => whnf))
    refine .data _ _ (opOf_ok l[i].text (htx _ (List.getElem_mem hi'))) rfl ?_
    conv => whnf
    repeat (first | (refine Conf.mk (by kernel_rfl) ?_; conv => whnf) | (refine SeqOk.go ?_; conv => whnf))
    by_cases h1 : opKind l[i].text = 1
    · rw [if_pos h1] at hup
      refine BoolCase.yes (by simp [h1]) ?_
      conv => whnf
      repeat (first | (refine Conf.mk (by kernel_rfl) ?_; conv => whnf) | (refine SeqOk.go ?_; conv => whnf))
      refine .data _ _ (withText_ok (keysTo l i) (opKey l[i].text) (by omega)) rfl ?_
      conv => whnf
      repeat (first | (refine Conf.mk (by kernel_rfl) ?_; conv => whnf) | (refine SeqOk.go ?_; conv => whnf))
      refine Into.mono (Into.to [] [(6, dInt (i + 1 : Nat)), (5, .dat (.list ((keysTo l (i + 1)).map encS))), (0, .dat (.list (l.map Entry'.enc))), (1, dInt c)] [] ⟨.same (congrArg dInt (wrap_up (by omega))), .same (by rw [hup]; rfl), .same rfl, .same rfl, trivial⟩ trivial rfl rfl) fun s' h => ⟨m - 1, by omega, i + 1, by omega, h⟩
    · rw [if_neg h1] at hup
      refine BoolCase.no (by simp [h1]) ?_
      conv => whnf
      repeat (first | (refine Conf.mk (by kernel_rfl) ?_; conv => whnf) | (refine SeqOk.go ?_; conv => whnf))
      refine Into.mono (Into.to [] [(6, dInt (i + 1 : Nat)), (5, .dat (.list ((keysTo l (i + 1)).map encS))), (0, .dat (.list (l.map Entry'.enc))), (1, dInt c)] [] ⟨.same (congrArg dInt (wrap_up (by omega))), .same (by rw [hup]; rfl), .same rfl, .same rfl, trivial⟩ trivial rfl rfl) fun s' h => ⟨m - 1, by omega, i + 1, by omega, h⟩
  · have hi' := ge_of_len h
    obtain rfl : i = l.length := by omega
    conv => whnf
    repeat (first | (refine Conf.mk (by kernel_rfl) ?_; conv => whnf) | (refine SeqOk.go ?_; conv => whnf))
    subst hQ1
    conv => whnf
    conv => whnf
    repeat (first | (refine Conf.mk (by kernel_rfl) ?_; conv => whnf) | (refine SeqOk.go ?_; conv => whnf))
    refine LoopOk.hide fun Q2 hQ2 => ?_
    refine LoopOk.mk (fun m st => ∃ j, j + m = (keysOf l).length ∧ st = ⟨[(11, dInt j), (10, .row 0), (5, .dat (.list ((keysOf l).map encS))), (0, .dat (.list (l.map Entry'.enc))), (1, dInt c)], 1, [(0, .rows 60 2 ((mapTo l c j).map PairD.enc) true)]⟩) (keysOf l).length ((Into.row 10 60 2 rfl).trans fun s' hs' => by
      subst hs'
      exact Into.mono (Into.to [0] [(11, dInt (0 : Nat)), (10, .row 0), (5, .dat (.list ((keysOf l).map encS))), (0, .dat (.list (l.map Entry'.enc))), (1, dInt c)] [(0, .rows 60 2 ((mapTo l c 0).map PairD.enc) true)] (by repeat (first | exact trivial | refine ⟨.same (congrArg dInt (wrap_up (by omega))), ?_⟩ | refine ⟨.same rfl, ?_⟩ | refine ⟨.any _, ?_⟩)) ⟨⟨rfl, rfl, rfl, rfl⟩, trivial⟩ rfl rfl) fun s' h => ⟨0, by omega, h⟩) ?_
    rintro m st ⟨j, hj, rfl⟩
    have hml := mapTo_len l c j
    conv => whnf
    repeat (first | (refine Conf.mk (by kernel_rfl) ?_; conv => whnf) | (refine SeqOk.go ?_; conv => whnf))
    refine ⟨fun h => ?_, fun h => ?_⟩
    · have hj' := lt_of_len h
      have hup := mapTo_up (l := l) (c := c) hj'
      conv => whnf
      repeat (first | (refine Conf.mk (by kernel_rfl) ?_; conv => whnf) | (refine SeqOk.go ?_; conv => whnf))
      refine AtIdx.ofMap hj' rfl ?_
      conv => whnf
      repeat (first | (refine Conf.mk (by kernel_rfl) ?_; conv => whnf) | (refine SeqOk.go ?_; conv => whnf))
      refine .data _ _ (valuesOf_ok l hr c (keysOf l)[j]) rfl ?_
      conv => whnf
      repeat (first | (refine Conf.mk (by kernel_rfl) ?_; conv => whnf) | (refine SeqOk.go ?_; conv => whnf))
      by_cases h1 : 0 < (valsOf l c (keysOf l)[j]).length
      · have hp : pairAt l c (keysOf l)[j] = some ⟨(keysOf l)[j], valsOf l c (keysOf l)[j]⟩ := by unfold pairAt; rw [if_pos h1]
        rw [hp] at hup
        refine BoolCase.yes (by simp; omega) ?_
        conv => whnf
        repeat (first | (refine Conf.mk (by kernel_rfl) ?_; conv => whnf) | (refine SeqOk.go ?_; conv => whnf))
        refine AtIdx.ofMap hj' rfl ?_
        conv => whnf
        repeat (first | (refine Conf.mk (by kernel_rfl) ?_; conv => whnf) | (refine SeqOk.go ?_; conv => whnf))
        refine .mk (by simp) (by simp; omega) ?_
        conv => whnf
        repeat (first | (refine Conf.mk (by kernel_rfl) ?_; conv => whnf) | (refine SeqOk.go ?_; conv => whnf))
        refine Into.mono (Into.to [2] [(11, dInt (j + 1 : Nat)), (10, .row 0), (5, .dat (.list ((keysOf l).map encS))), (0, .dat (.list (l.map Entry'.enc))), (1, dInt c)] [(0, .rows 60 2 ((mapTo l c (j + 1)).map PairD.enc) true)] (by repeat (first | exact trivial | refine ⟨.same (congrArg dInt (wrap_up (by omega))), ?_⟩ | refine ⟨.same rfl, ?_⟩ | refine ⟨.any _, ?_⟩)) ⟨⟨rfl, rfl, rfl, by rw [hup, List.map_append]; rfl⟩, trivial⟩ rfl rfl) fun s' h => ⟨m - 1, by omega, j + 1, by omega, h⟩
      · have hp : pairAt l c (keysOf l)[j] = none := by unfold pairAt; rw [if_neg h1]
        rw [hp, List.append_nil] at hup
        have h0 : (valsOf l c (keysOf l)[j]).length = 0 := by omega
        refine BoolCase.no (by rw [List.length_map, h0]; rfl) ?_
        conv => whnf
        repeat (first | (refine Conf.mk (by kernel_rfl) ?_; conv => whnf) | (refine SeqOk.go ?_; conv => whnf))
        refine Into.mono (Into.to [0] [(11, dInt (j + 1 : Nat)), (10, .row 0), (5, .dat (.list ((keysOf l).map encS))), (0, .dat (.list (l.map Entry'.enc))), (1, dInt c)] [(0, .rows 60 2 ((mapTo l c (j + 1)).map PairD.enc) true)] (by repeat (first | exact trivial | refine ⟨.same (congrArg dInt (wrap_up (by omega))), ?_⟩ | refine ⟨.same rfl, ?_⟩ | refine ⟨.any _, ?_⟩)) ⟨⟨rfl, rfl, rfl, by rw [hup]⟩, trivial⟩ rfl rfl) fun s' h => ⟨m - 1, by omega, j + 1, by omega, h⟩
    · have hj' := ge_of_len h
      have hme : mapTo l c j = mapOf l c := by unfold mapTo mapOf; rw [List.take_of_length_le hj']
      rw [hme]
      conv => whnf
      repeat (first | (refine Conf.mk (by kernel_rfl) ?_; conv => whnf) | (refine SeqOk.go ?_; conv => whnf))
      subst hQ2
      conv => whnf
      exact Ret.to rfl
end Go.Proofs.YtlioojekjnigiaeGreat.AM.Fo
/- Pairs, plainly: the program's are the reference's. -/
namespace Go.Proofs.YtlioojekjnigiaeGreat.AM.Fo
set_option linter.unusedVariables false
set_option linter.unusedSimpArgs false

/-- One text ahead of another one. -/
def Bef (a b : ByteArray) : Prop := a.toList < b.toList
theorem toList_inj {a b : ByteArray} (h : a.toList = b.toList) : a = b := by
  rw [Lib.toList_data, Lib.toList_data] at h
  exact ByteArray.ext (Array.toList_inj.1 h)
theorem bef_irrefl (a : ByteArray) : ¬ Bef a a := List.lt_irrefl _
theorem bef_trans {a b c : ByteArray} (h : Bef a b) (k : Bef b c) : Bef a c := List.lt_trans h k
theorem bef_tri (a b : ByteArray) : Bef a b ∨ a = b ∨ Bef b a := by
  rcases str_tri a b with h | h | h
  · exact .inl h
  · exact .inr (.inl (toList_inj h))
  · exact .inr (.inr h)
theorem leS_iff {a b : ByteArray} : leS a b = true ↔ Bef a b ∨ a = b := by
  unfold leS
  rw [Bool.or_eq_true, slt_iff, decide_eq_true_eq]
  rfl
theorem leS_not {a b : ByteArray} (h : leS a b = false) : Bef b a := by
  rcases bef_tri a b with k | k | k
  · exact absurd (leS_iff.2 (.inl k)) (by simp [h])
  · exact absurd (leS_iff.2 (.inr k)) (by simp [h])
  · exact k
theorem mem_wtGo (s : ByteArray) : ∀ (l : List ByteArray) (put : Bool) (x : ByteArray), x ∈ wtGo s l put ↔ (x ∈ l ∧ x ≠ s) ∨ (x = s ∧ put = false)
  | [], put, x => by cases put <;> simp [wtGo]
  | y :: t, put, x => by
    unfold wtGo
    rw [List.mem_append, List.mem_append, mem_wtGo s t]
    cases put <;> cases h : leS s y <;> by_cases hy : y = s <;> by_cases hx : x = s <;> simp [h, hy, hx] <;> first | exact fun e => hy e.symm | (subst hy; simp_all [leS_iff])
theorem wtGo_true (s : ByteArray) {l : List ByteArray} (h : l.Pairwise Bef) : (wtGo s l true).Pairwise Bef := by
  induction l with
  | nil => unfold wtGo; simp
  | cons y t ih =>
    rw [List.pairwise_cons] at h
    unfold wtGo
    rw [if_neg (fun k => absurd k.1 (by decide)), List.nil_append, Bool.true_or]
    by_cases hy : y = s
    · rw [if_pos hy]; exact ih h.2
    · rw [if_neg hy, List.singleton_append, List.pairwise_cons]
      refine ⟨fun x hx => ?_, ih h.2⟩
      rcases (mem_wtGo s t true x).1 hx with k | k
      · exact h.1 x k.1
      · exact absurd k.2 (by decide)
theorem wtGo_false (s : ByteArray) {l : List ByteArray} (h : l.Pairwise Bef) : (wtGo s l false).Pairwise Bef := by
  induction l with
  | nil => unfold wtGo; simp
  | cons y t ih =>
    have h0 := h
    rw [List.pairwise_cons] at h
    unfold wtGo
    cases hle : leS s y
    · have hys := leS_not hle
      have hy : y ≠ s := fun k => bef_irrefl s (by rw [k] at hys; exact hys)
      rw [if_neg (fun k => absurd k.2 (by decide)), List.nil_append, Bool.false_or, if_neg hy, List.singleton_append, List.pairwise_cons]
      refine ⟨fun x hx => ?_, ih h.2⟩
      rcases (mem_wtGo s t false x).1 hx with k | k
      · exact h.1 x k.1
      · rw [k.1]; exact hys
    · rw [if_pos ⟨rfl, rfl⟩, Bool.false_or, List.append_assoc, List.singleton_append, List.pairwise_cons]
      have hst := leS_iff.1 hle
      have e : (if y = s then [] else [y]) ++ wtGo s t true = wtGo s (y :: t) true := by
        show _ = ((if true = false ∧ leS s y = true then [s] else []) ++ if y = s then [] else [y]) ++ wtGo s t (true || leS s y)
        have c : ¬ (true = false ∧ leS s y = true) := fun k => absurd k.1 (by decide)
        rw [if_neg c, List.nil_append, Bool.true_or]
      rw [e]
      refine ⟨fun x hx => ?_, wtGo_true s h0⟩
      rcases (mem_wtGo s (y :: t) true x).1 hx with k | k
      · have hxy : x = y ∨ Bef y x := by
          rcases List.mem_cons.1 k.1 with k1 | k1
          · exact .inl k1
          · exact .inr (h.1 x k1)
        rcases hst with a | a
        · rcases hxy with b | b
          · rw [b]; exact a
          · exact bef_trans a b
        · rcases hxy with b | b
          · exact absurd (b.trans a.symm) k.2
          · rw [a]; exact b
      · exact absurd k.2 (by decide)
theorem mem_withT {l : List ByteArray} {s x : ByteArray} : x ∈ withT l s ↔ x ∈ l ∨ x = s := by
  unfold withT
  rw [mem_wtGo]
  by_cases h : x = s <;> simp [h]
theorem withT_up {l : List ByteArray} (s : ByteArray) (h : l.Pairwise Bef) : (withT l s).Pairwise Bef := wtGo_false s h
/-- Rising lists of the same members are one. -/
theorem up_ext : ∀ {l k : List ByteArray}, l.Pairwise Bef → k.Pairwise Bef → (∀ x, x ∈ l ↔ x ∈ k) → l = k
  | [], [], _, _, _ => rfl
  | [], b :: k, _, _, h => absurd ((h b).2 (by simp)) (by simp)
  | a :: l, [], _, _, h => absurd ((h a).1 (by simp)) (by simp)
  | a :: l, b :: k, hl, hk, h => by
    rw [List.pairwise_cons] at hl hk
    have hab : a = b := by
      rcases List.mem_cons.1 ((h a).1 (by simp)) with e | e
      · exact e
      · rcases List.mem_cons.1 ((h b).2 (by simp)) with e2 | e2
        · exact e2.symm
        · exact absurd (bef_trans (hl.1 b e2) (hk.1 a e)) (bef_irrefl a)
    subst hab
    rw [up_ext hl.2 hk.2 fun x => ?_]
    constructor
    · intro hx
      rcases List.mem_cons.1 ((h x).1 (by simp [hx])) with e | e
      · subst e; exact absurd (hl.1 x hx) (bef_irrefl x)
      · exact e
    · intro hx
      rcases List.mem_cons.1 ((h x).2 (by simp [hx])) with e | e
      · subst e; exact absurd (hk.1 x hx) (bef_irrefl x)
      · exact e
/-- Pairs as they must be: keys rising, each with values, rising. -/
structure Canon (ps : List PairD) : Prop where
  keys : ps.Pairwise (fun p q => Bef p.key q.key)
  vals : ∀ p ∈ ps, p.vals.Pairwise Bef ∧ p.vals ≠ []
def Has (ps : List PairD) (k v : ByteArray) : Prop := ∃ p ∈ ps, p.key = k ∧ v ∈ p.vals
theorem canon_ext : ∀ {ps qs : List PairD}, Canon ps → Canon qs → (∀ k v, Has ps k v ↔ Has qs k v) → ps = qs
  | [], [], _, _, _ => rfl
  | [], q :: qs, _, hq, h => by
    obtain ⟨v, hv⟩ := List.exists_mem_of_ne_nil _ (hq.vals q (by simp)).2
    obtain ⟨p, hp, _⟩ := (h q.key v).2 ⟨q, by simp, rfl, hv⟩
    simp at hp
  | p :: ps, [], hp, _, h => by
    obtain ⟨v, hv⟩ := List.exists_mem_of_ne_nil _ (hp.vals p (by simp)).2
    obtain ⟨q, hq, _⟩ := (h p.key v).1 ⟨p, by simp, rfl, hv⟩
    simp at hq
  | p :: ps, q :: qs, hp, hq, h => by
    have hpk := List.pairwise_cons.1 hp.keys
    have hqk := List.pairwise_cons.1 hq.keys
    have hk : p.key = q.key := by
      obtain ⟨v, hv⟩ := List.exists_mem_of_ne_nil _ (hp.vals p (by simp)).2
      obtain ⟨u, hu⟩ := List.exists_mem_of_ne_nil _ (hq.vals q (by simp)).2
      obtain ⟨q', hq', e1, _⟩ := (h p.key v).1 ⟨p, by simp, rfl, hv⟩
      obtain ⟨p', hp', e2, _⟩ := (h q.key u).2 ⟨q, by simp, rfl, hu⟩
      rcases List.mem_cons.1 hq' with a | a
      · rw [← e1, a]
      · rcases List.mem_cons.1 hp' with b | b
        · rw [← e2, b]
        · have c1 := hqk.1 q' a
          have c2 := hpk.1 p' b
          rw [e1] at c1
          rw [e2] at c2
          exact absurd (bef_trans c1 c2) (bef_irrefl _)
    have hrest : ∀ k v, Has ps k v ↔ Has qs k v := by
      intro k v
      constructor
      · rintro ⟨x, hx, e, hv⟩
        obtain ⟨y, hy, e', hv'⟩ := (h k v).1 ⟨x, by simp [hx], e, hv⟩
        rcases List.mem_cons.1 hy with a | a
        · have := hpk.1 x hx
          rw [hk, e, ← e', a] at this
          exact absurd this (bef_irrefl _)
        · exact ⟨y, a, e', hv'⟩
      · rintro ⟨x, hx, e, hv⟩
        obtain ⟨y, hy, e', hv'⟩ := (h k v).2 ⟨x, by simp [hx], e, hv⟩
        rcases List.mem_cons.1 hy with a | a
        · have := hqk.1 x hx
          rw [← hk, e, ← e', a] at this
          exact absurd this (bef_irrefl _)
        · exact ⟨y, a, e', hv'⟩
    have hvals : p.vals = q.vals := by
      refine up_ext (hp.vals p (by simp)).1 (hq.vals q (by simp)).1 fun v => ?_
      constructor
      · intro hv
        obtain ⟨y, hy, e, hv'⟩ := (h p.key v).1 ⟨p, by simp, rfl, hv⟩
        rcases List.mem_cons.1 hy with a | a
        · rw [← a]; exact hv'
        · have := hqk.1 y a
          rw [e, hk] at this
          exact absurd this (bef_irrefl _)
      · intro hv
        obtain ⟨y, hy, e, hv'⟩ := (h q.key v).2 ⟨q, by simp, rfl, hv⟩
        rcases List.mem_cons.1 hy with a | a
        · rw [← a]; exact hv'
        · have := hpk.1 y a
          rw [e, hk] at this
          exact absurd this (bef_irrefl _)
    have hpq : p = q := by cases p; cases q; simp_all
    rw [hpq, canon_ext ⟨hpk.2, fun x hx => hp.vals x (by simp [hx])⟩ ⟨hqk.2, fun x hx => hq.vals x (by simp [hx])⟩ hrest]
end Go.Proofs.YtlioojekjnigiaeGreat.AM.Fo
/- The program's map is the reference's. -/
namespace Go.Proofs.YtlioojekjnigiaeGreat.AM.Fo
set_option linter.unusedVariables false
set_option linter.unusedSimpArgs false

/-- Ops in order: none behind is ahead. -/
def Ups (os : List OpD) : Prop := os.Pairwise fun a b => ¬ OpLt b.key b.val a.key a.val
theorem not_lt {k v k' v' : ByteArray} (h : ¬ OpLt k v k' v') : Bef k' k ∨ (k' = k ∧ (Bef v' v ∨ v' = v)) := by
  rcases opLt_tri k v k' v' with a | ⟨a, b⟩ | a
  · exact absurd a h
  · exact .inr ⟨toList_inj a.symm, .inr (toList_inj b.symm)⟩
  · rcases a with a | ⟨a, b⟩
    · exact .inl a
    · exact .inr ⟨toList_inj a, .inl b⟩
theorem mem_one {v x : ByteArray} (h : v ∈ [x]) : v = x := by simpa using h
structure Inv (os : List OpD) (s : PS) : Prop where
  canon : Canon (flatS s)
  has : ∀ k v, Has (flatS s) k v ↔ ∃ o ∈ os, o.key = k ∧ o.val = v
theorem inv_step {os : List OpD} {s : PS} {o : OpD} (h : Inv os s) (ho : ∀ x ∈ os, ¬ OpLt o.key o.val x.key x.val) : Inv (os ++ [o]) (addS s o.key o.val) := by
  have hmem : ∀ k v, (∃ x ∈ os ++ [o], x.key = k ∧ x.val = v) ↔ (∃ x ∈ os, x.key = k ∧ x.val = v) ∨ (o.key = k ∧ o.val = v) := by
    intro k v
    constructor
    · rintro ⟨x, hx, e⟩
      rcases List.mem_append.1 hx with a | a
      · exact .inl ⟨x, a, e⟩
      · obtain rfl : x = o := by simpa using a
        exact .inr e
    · rintro (⟨x, hx, e⟩ | e)
      · exact ⟨x, List.mem_append_left _ hx, e⟩
      · exact ⟨o, by simp, e⟩
  match s, h with
  | none, h =>
    have hn : ∀ k v, ¬ ∃ x ∈ os, x.key = k ∧ x.val = v := fun k v e => by
      obtain ⟨p, hp, _⟩ := (h.has k v).2 e
      simp [flatS] at hp
    refine ⟨⟨by simp [addS, flatS], by simp [addS, flatS]⟩, fun k v => ?_⟩
    rw [hmem]
    constructor
    · rintro ⟨p, hp, e1, e2⟩
      obtain rfl : p = ⟨o.key, [o.val]⟩ := by simpa [addS, flatS] using hp
      exact .inr ⟨e1, (mem_one e2).symm⟩
    · rintro (e | ⟨e1, e2⟩)
      · exact absurd e (hn k v)
      · exact ⟨⟨o.key, [o.val]⟩, by simp [addS, flatS], e1, by simp [e2]⟩
  | some (d, p), h =>
    have hc := h.canon
    have hpm : p ∈ d ++ [p] := by simp
    rw [addS_some]
    by_cases hk : p.key = o.key
    · rw [if_pos hk]
      by_cases hv : p.vals.any (isS o.val) = true
      · rw [if_pos hv]
        have hvm : o.val ∈ p.vals := by
          obtain ⟨x, hx, e⟩ := List.any_eq_true.1 hv
          have : o.val = x := of_decide_eq_true e
          rw [this]; exact hx
        refine ⟨hc, fun k v => ?_⟩
        rw [hmem, ← h.has]
        constructor
        · exact .inl
        · rintro (e | ⟨e1, e2⟩)
          · exact e
          · exact ⟨p, hpm, hk.trans e1, e2 ▸ hvm⟩
      · rw [if_neg hv]
        have hvn : o.val ∉ p.vals := fun hm => hv (List.any_eq_true.2 ⟨o.val, hm, decide_eq_true rfl⟩)
        have hq : ∀ q ∈ d, Bef q.key p.key := by
          intro q hq
          have := hc.keys
          simp only [flatS, List.pairwise_append] at this
          exact this.2.2 q hq p (by simp)
        have hbef : ∀ u ∈ p.vals, Bef u o.val := by
          intro u hu
          obtain ⟨x, hx, e1, e2⟩ := (h.has p.key u).1 ⟨p, hpm, rfl, hu⟩
          rcases not_lt (ho x hx) with a | ⟨a, b⟩
          · rw [e1, hk] at a; exact absurd a (bef_irrefl _)
          · rw [e2] at b
            rcases b with b | b
            · exact b
            · rw [b] at hu; exact absurd hu hvn
        refine ⟨⟨?_, ?_⟩, fun k v => ?_⟩
        · have := hc.keys
          simp only [flatS, List.pairwise_append] at this ⊢
          refine ⟨this.1, by simp, fun a ha b hb => ?_⟩
          obtain rfl : b = ⟨o.key, p.vals ++ [o.val]⟩ := by simpa using hb
          show Bef a.key o.key
          rw [← hk]
          exact hq a ha
        · intro q hq
          simp only [flatS, List.mem_append, List.mem_singleton] at hq
          rcases hq with hq | rfl
          · exact hc.vals q (by simp [flatS, hq])
          · refine ⟨?_, by simp⟩
            rw [List.pairwise_append]
            exact ⟨(hc.vals p hpm).1, by simp, fun a ha b hb => by
              have e : b = o.val := by simpa using hb
              rw [e]; exact hbef a ha⟩
        · rw [hmem, ← h.has]
          constructor
          · rintro ⟨q, hq, e1, e2⟩
            simp only [flatS, List.mem_append, List.mem_singleton] at hq
            rcases hq with hq | rfl
            · exact .inl ⟨q, by simp [flatS, hq], e1, e2⟩
            · rcases List.mem_append.1 e2 with e2 | e2
              · exact .inl ⟨p, hpm, hk.trans e1, e2⟩
              · exact .inr ⟨e1, (mem_one e2).symm⟩
          · rintro (⟨q, hq, e1, e2⟩ | ⟨e1, e2⟩)
            · simp only [flatS, List.mem_append, List.mem_singleton] at hq
              rcases hq with hq | rfl
              · exact ⟨q, by simp [flatS, hq], e1, e2⟩
              · exact ⟨⟨o.key, q.vals ++ [o.val]⟩, by simp [flatS], hk.symm.trans e1, by simp [e2]⟩
            · exact ⟨⟨o.key, p.vals ++ [o.val]⟩, by simp [flatS], e1, by simp [e2]⟩
    · rw [if_neg hk]
      have hpo : Bef p.key o.key := by
        obtain ⟨v, hv⟩ := List.exists_mem_of_ne_nil _ (hc.vals p hpm).2
        obtain ⟨x, hx, e1, e2⟩ := (h.has p.key v).1 ⟨p, hpm, rfl, hv⟩
        rcases not_lt (ho x hx) with a | ⟨a, b⟩
        · rw [e1] at a; exact a
        · exact absurd (e1.symm.trans a) hk
      refine ⟨⟨?_, ?_⟩, fun k v => ?_⟩
      · have hck : (d ++ [p]).Pairwise (fun p q => Bef p.key q.key) := hc.keys
        simp only [flatS]
        rw [List.pairwise_append]
        refine ⟨hck, by simp, fun a ha b hb => ?_⟩
        obtain rfl : b = ⟨o.key, [o.val]⟩ := by simpa using hb
        show Bef a.key o.key
        rcases List.mem_append.1 ha with e | e
        · rw [List.pairwise_append] at hck
          exact bef_trans (hck.2.2 a e p (by simp)) hpo
        · obtain rfl : a = p := by simpa using e
          exact hpo
      · intro q hq
        simp only [flatS, List.mem_append, List.mem_singleton] at hq
        rcases hq with (hq | rfl) | rfl
        · exact hc.vals q (by simp [flatS, hq])
        · exact hc.vals q hpm
        · simp
      · rw [hmem, ← h.has]
        constructor
        · rintro ⟨q, hq, e1, e2⟩
          rcases List.mem_append.1 hq with hq | hq
          · exact .inl ⟨q, hq, e1, e2⟩
          · obtain rfl : q = ⟨o.key, [o.val]⟩ := by simpa using hq
            exact .inr ⟨e1, (mem_one e2).symm⟩
        · rintro (⟨q, hq, e1, e2⟩ | ⟨e1, e2⟩)
          · exact ⟨q, List.mem_append_left _ hq, e1, e2⟩
          · exact ⟨⟨o.key, [o.val]⟩, by simp [flatS], e1, by simp [e2]⟩
theorem inv_all {os : List OpD} (h : Ups os) : Inv os (pairsS os) := by
  suffices H : ∀ r : List OpD, Ups r.reverse → Inv r.reverse (pairsS r.reverse) by
    have := H os.reverse (by rw [List.reverse_reverse]; exact h)
    rw [List.reverse_reverse] at this
    exact this
  intro r
  induction r with
  | nil => intro _; exact ⟨⟨by simp [pairsS, flatS], by simp [pairsS, flatS]⟩, fun k v => ⟨fun ⟨p, hp, _⟩ => by simp [pairsS, flatS] at hp, fun ⟨o, ho, _⟩ => by simp at ho⟩⟩
  | cons o r ih =>
    intro h
    rw [List.reverse_cons] at h ⊢
    unfold Ups at h
    rw [List.pairwise_append] at h
    rw [pairsS_snoc]
    exact inv_step (ih h.1) fun x hx => h.2.2 x hx o (by simp)
end Go.Proofs.YtlioojekjnigiaeGreat.AM.Fo
/- The program's map is the reference's: the same members. -/
namespace Go.Proofs.YtlioojekjnigiaeGreat.AM.Fo
set_option linter.unusedVariables false
set_option linter.unusedSimpArgs false

theorem keysTo_up' (l : List Entry') : ∀ i, (keysTo l i).Pairwise Bef
  | 0 => by unfold keysTo; simp
  | i + 1 => by
    unfold keysTo
    have := keysTo_up' l i
    split
    · split
      · exact withT_up _ this
      · exact this
    · exact this
theorem mem_keysTo (l : List Entry') (k : ByteArray) : ∀ i, i ≤ l.length → (k ∈ keysTo l i ↔ ∃ e ∈ l.take i, opKind e.text = 1 ∧ opKey e.text = k)
  | 0, _ => by simp [keysTo]
  | i + 1, hi => by
    have ih := mem_keysTo l k i (by omega)
    have hi' : i < l.length := by omega
    have htk : l.take (i + 1) = l.take i ++ [l[i]] := by rw [List.take_add_one, List.getElem?_eq_getElem hi']; rfl
    rw [keysTo_up hi', htk]
    by_cases h1 : opKind l[i].text = 1
    · rw [if_pos h1, mem_withT, ih]
      constructor
      · rintro (⟨e, he, h⟩ | h)
        · exact ⟨e, List.mem_append_left _ he, h⟩
        · exact ⟨l[i], List.mem_append_right _ (List.mem_singleton.2 rfl), h1, h.symm⟩
      · rintro ⟨e, he, h⟩
        rcases List.mem_append.1 he with a | a
        · exact .inl ⟨e, a, h⟩
        · obtain rfl : e = l[i] := by simpa using a
          exact .inr h.2.symm
    · rw [if_neg h1, ih]
      constructor
      · rintro ⟨e, he, h⟩
        exact ⟨e, List.mem_append_left _ he, h⟩
      · rintro ⟨e, he, h⟩
        rcases List.mem_append.1 he with a | a
        · exact ⟨e, a, h⟩
        · obtain rfl : e = l[i] := by simpa using a
          exact absurd h.1 h1
theorem valsTo_up (l : List Entry') (c : Int) (k : ByteArray) : ∀ i, (valsTo l c k i).Pairwise Bef
  | 0 => by unfold valsTo; simp
  | i + 1 => by
    unfold valsTo
    have := valsTo_up l c k i
    split
    · exact withT_up _ this
    · exact this
theorem mem_valsTo (l : List Entry') (c : Int) (k v : ByteArray) : ∀ i, v ∈ valsTo l c k i ↔ ∃ j, j < i ∧ valAt l c k j = some v
  | 0 => by simp [valsTo]
  | i + 1 => by
    have ih := mem_valsTo l c k v i
    cases h : valAt l c k i with
    | none =>
      rw [valsTo_no h, ih]
      constructor
      · rintro ⟨j, hj, e⟩; exact ⟨j, by omega, e⟩
      · rintro ⟨j, hj, e⟩
        by_cases hji : j = i
        · rw [hji, h] at e; cases e
        · exact ⟨j, by omega, e⟩
    | some u =>
      rw [valsTo_yes h, mem_withT, ih]
      constructor
      · rintro (⟨j, hj, e⟩ | e)
        · exact ⟨j, by omega, e⟩
        · exact ⟨i, by omega, by rw [h, e]⟩
      · rintro ⟨j, hj, e⟩
        by_cases hji : j = i
        · rw [hji, h] at e
          exact .inr (Option.some.inj e).symm
        · exact .inl ⟨j, by omega, e⟩
theorem valAt_some {l : List Entry'} {c : Int} {k v : ByteArray} {i : Nat} : valAt l c k i = some v ↔ ∃ h : i < l.length, opKind l[i].text = 1 ∧ opKey l[i].text = k ∧ meets l[i].colors c = true ∧ hidTo l c k i l.length = false ∧ opVal l[i].text = v := by
  unfold valAt
  by_cases hi : i < l.length
  · rw [List.getElem?_eq_getElem hi]
    show (if _ then _ else _) = _ ↔ _
    by_cases h : opKind l[i].text = 1 ∧ opKey l[i].text = k ∧ meets l[i].colors c = true ∧ hidTo l c k i l.length = false
    · rw [if_pos h]
      exact ⟨fun e => ⟨hi, h.1, h.2.1, h.2.2.1, h.2.2.2, Option.some.inj e⟩, fun ⟨_, e⟩ => by rw [e.2.2.2.2]⟩
    · rw [if_neg h]
      exact ⟨fun e => (by cases e), fun ⟨_, e⟩ => absurd ⟨e.1, e.2.1, e.2.2.1, e.2.2.2.1⟩ h⟩
  · rw [List.getElem?_eq_none (by omega)]
    exact ⟨fun e => (by cases e), fun ⟨h, _⟩ => absurd h hi⟩
theorem mapOf_canon (l : List Entry') (c : Int) : Canon (mapOf l c) := by
  refine ⟨?_, fun p hp => ?_⟩
  · unfold mapOf
    refine List.Pairwise.filterMap (pairAt l c) ?_ (keysTo_up' l l.length)
    intro a b hab p hp q hq
    unfold pairAt at hp hq
    split at hp
    · split at hq
      · cases hp; cases hq; exact hab
      · cases hq
    · cases hp
  · unfold mapOf at hp
    obtain ⟨k, hk, e⟩ := List.mem_filterMap.1 hp
    unfold pairAt at e
    split at e
    · rename_i h
      cases e
      exact ⟨valsTo_up l c k _, List.ne_nil_of_length_pos h⟩
    · cases e
theorem has_mapOf {l : List Entry'} {c : Int} {k v : ByteArray} : Has (mapOf l c) k v ↔ v ∈ valsOf l c k := by
  constructor
  · rintro ⟨p, hp, e1, e2⟩
    unfold mapOf at hp
    obtain ⟨k', hk, e⟩ := List.mem_filterMap.1 hp
    unfold pairAt at e
    split at e
    · cases e
      have e1 : k' = k := e1
      rw [← e1]
      exact e2
    · cases e
  · intro hv
    have hv' := hv
    unfold valsOf at hv'
    obtain ⟨j, hj, e⟩ := (mem_valsTo l c k v l.length).1 hv'
    obtain ⟨hjl, a1, a2, _⟩ := valAt_some.1 e
    have hk : k ∈ keysOf l := by
      unfold keysOf
      rw [mem_keysTo l k l.length (Nat.le_refl _), List.take_length]
      exact ⟨l[j], List.getElem_mem hjl, a1, a2⟩
    refine ⟨⟨k, valsOf l c k⟩, ?_, rfl, hv⟩
    unfold mapOf
    refine List.mem_filterMap.2 ⟨k, hk, ?_⟩
    unfold pairAt
    rw [if_pos (List.length_pos_of_mem hv)]
theorem opErr_zero {s : ByteArray} : opErr s = 0 ↔ opKind s ≠ 0 := by
  unfold opErr
  by_cases h : opKind s = 0
  · rw [if_pos h]; simp [h]
  · rw [if_neg h]; simp [h]
theorem takes_iff {l : List Entry'} (hr : Right l) {c : Int} (hc : 1 ≤ c ∧ c ≤ 7) {e : Entry'} (he : e ∈ l) : takes c e = true ↔ opKind e.text ≠ 0 ∧ meets e.colors c = true := by
  unfold takes
  rw [Bool.and_eq_true, meets_bothOf (hr.colors he) hc, ← opErr_zero]
  simp
theorem pastAns_in {l : List Entry'} (hr : Right l) {f : Entry'} (hf : f ∈ l) {x : Id} : x ∈ pastAns l f.id ↔ Anc l f.id x := by
  have h0 : pastErr l f.id = 0 := by
    unfold pastErr
    rw [if_pos (right_iff.2 hr), if_pos (any_isThe.2 ⟨f, hf, rfl⟩)]
  unfold pastAns
  rw [if_pos h0, mem_pastOfId hr]
theorem hidTo_iff {l : List Entry'} {c : Int} {k : ByteArray} {i : Nat} : hidTo l c k i l.length = false ↔ ∀ n (h : n < l.length), ¬ (opKind l[n].text ≠ 0 ∧ opKey l[n].text = k ∧ meets l[n].colors c = true ∧ isIn (pastBs l n) i = true) := by
  unfold hidTo
  rw [List.any_eq_false]
  constructor
  · intro h n hn hx
    refine h n (List.mem_range.2 hn) ?_
    rw [hides_at hn, hx.2.2.1, hx.2.2.2]
    simp [hx.1, hx.2.1]
  · intro h n hn hx
    have hn := List.mem_range.1 hn
    rw [hides_at hn] at hx
    simp only [Bool.and_eq_true, decide_eq_true_eq, bne_iff_ne] at hx
    exact h n hn ⟨hx.1, hx.2.1, hx.2.2.1, hx.2.2.2⟩
theorem stands_iff {l : List Entry'} (hr : Right l) {c : Int} (hc : 1 ≤ c ∧ c ≤ 7) {i : Nat} (hi : i < l.length) : stands (opsL l c l) (opD l l[i]) = true ↔ opKind l[i].text = 1 ∧ hidTo l c (opKey l[i].text) i l.length = false := by
  unfold stands
  rw [Bool.and_eq_true, decide_eq_true_eq, Bool.not_eq_true', hidTo_iff]
  refine and_congr Iff.rfl ?_
  rw [List.any_eq_false]
  constructor
  · intro h n hn ⟨a1, a2, a3, a4⟩
    have hm : l[n] ∈ l := List.getElem_mem hn
    refine h (opD l l[n]) ?_ ?_
    · unfold opsL
      exact List.mem_map.2 ⟨l[n], List.mem_filter.2 ⟨hm, (takes_iff hr hc hm).2 ⟨a1, a3⟩⟩, rfl⟩
    · unfold behind
      rw [Bool.and_eq_true]
      refine ⟨decide_eq_true a2, ?_⟩
      rw [any_isId2]
      exact (pastAns_in hr hm).2 ((pastBs_iff hr hn hi).1 a4)
  · intro h x hx hb
    unfold opsL at hx
    obtain ⟨f, hf, rfl⟩ := List.mem_map.1 hx
    obtain ⟨hm, ht⟩ := List.mem_filter.1 hf
    obtain ⟨n, hn, rfl⟩ := List.mem_iff_getElem.1 hm
    have ht := (takes_iff hr hc hm).1 ht
    unfold behind at hb
    rw [Bool.and_eq_true] at hb
    have hb2 := hb.2
    rw [any_isId2] at hb2
    exact h n hn ⟨ht.1, of_decide_eq_true hb.1, ht.2, (pastBs_iff hr hn hi).2 ((pastAns_in hr hm).1 hb2)⟩
theorem mapIs {l : List Entry'} (hr : Right l) {c : Int} (hc : 1 ≤ c ∧ c ≤ 7) : MapIs l c (mapOf l c) := by
  refine ⟨fun l' hs => ?_⟩
  have hi := inv_all (os := keptOps (opsL l c l) l') (List.Pairwise.filter _ hs.2)
  refine canon_ext hi.canon (mapOf_canon l c) fun k v => ?_
  rw [hi.has, has_mapOf]
  unfold valsOf
  rw [mem_valsTo]
  constructor
  · rintro ⟨o, ho, e1, e2⟩
    unfold keptOps at ho
    obtain ⟨ho, hst⟩ := List.mem_filter.1 ho
    have ho := hs.1.mem_iff.1 ho
    unfold opsL at ho
    obtain ⟨f, hf, rfl⟩ := List.mem_map.1 ho
    obtain ⟨hm, ht⟩ := List.mem_filter.1 hf
    obtain ⟨n, hn, rfl⟩ := List.mem_iff_getElem.1 hm
    have ht := (takes_iff hr hc hm).1 ht
    obtain ⟨g1, g2⟩ := (stands_iff hr hc hn).1 hst
    have e1 : opKey l[n].text = k := e1
    rw [e1] at g2
    exact ⟨n, hn, valAt_some.2 ⟨hn, g1, e1, ht.2, g2, e2⟩⟩
  · rintro ⟨n, hn, e⟩
    obtain ⟨hn, g1, g2, g3, g4, g5⟩ := valAt_some.1 e
    have hm : l[n] ∈ l := List.getElem_mem hn
    refine ⟨opD l l[n], ?_, g2, g5⟩
    unfold keptOps
    refine List.mem_filter.2 ⟨hs.1.mem_iff.2 ?_, (stands_iff hr hc hn).2 ⟨g1, by rw [g2]; exact g4⟩⟩
    unfold opsL
    exact List.mem_map.2 ⟨l[n], List.mem_filter.2 ⟨hm, (takes_iff hr hc hm).2 ⟨by rw [g1]; decide, g3⟩⟩, rfl⟩
theorem valuesIn_mapOf (l : List Entry') (c : Int) (k : ByteArray) : valuesIn (mapOf l c) k = valsOf l c k := by
  unfold valuesIn
  cases h : (mapOf l c).find? (fun p => decide (p.key = k)) with
  | some p =>
    have hk : p.key = k := of_decide_eq_true (List.find?_some (p := fun p : PairD => decide (p.key = k)) h)
    have hm := List.mem_of_find?_eq_some h
    unfold mapOf at hm
    obtain ⟨k', _, e⟩ := List.mem_filterMap.1 hm
    unfold pairAt at e
    split at e
    · cases e
      have hk : k' = k := hk
      rw [← hk]
    · cases e
  | none =>
    show [] = _
    cases hv : valsOf l c k with
    | nil => rfl
    | cons v t =>
      obtain ⟨p, hp, e1, e2⟩ := has_mapOf.2 (show v ∈ valsOf l c k by rw [hv]; simp)
      exact absurd (decide_eq_true e1) (List.find?_eq_none.1 h p hp)
end Go.Proofs.YtlioojekjnigiaeGreat.AM.Fo
/- The law of maps: what must be in any case. -/
namespace Go.Proofs.YtlioojekjnigiaeGreat.AM.Fo
set_option linter.unusedVariables false
set_option linter.unusedSimpArgs false

def tA : ByteArray := ⟨#[97]⟩
def tB : ByteArray := ⟨#[98]⟩
def tY : ByteArray := ⟨#[121]⟩
def tZ : ByteArray := ⟨#[122]⟩
def tPut : ByteArray := ⟨#[112, 117, 116, 32, 97, 98, 32, 99, 49]⟩
def tBad : ByteArray := ⟨#[112, 117, 116, 32, 97, 98]⟩
theorem some_map : mapOf someLog 3 = [⟨tA, [tY]⟩, ⟨tB, [tZ]⟩] := by kernel_rfl
theorem some_col : colErr someLog 3 = 0 := by kernel_rfl
theorem some_get : getErr someLog 3 tA = 0 := by kernel_rfl
theorem op_put : OpAns tPut = .tup [dInt 1, .dat (.str ⟨#[97, 98]⟩), .dat (.str ⟨#[99, 49]⟩), dInt 0] := by kernel_rfl
theorem op_bad : OpAns tBad = .tup [dInt 0, .dat (.str ⟨#[]⟩), .dat (.str ⟨#[]⟩), dInt 1] := by kernel_rfl
theorem mapIs' (l : List Entry') (c : Int) : colErr l c = 0 → MapIs l c (mapOf l c) := fun h => mapIs (colErr_ok h).1 (colErr_ok h).2
theorem mapOf_len (l : List Entry') (c : Int) : (mapOf l c).length ≤ l.length := by
  unfold mapOf
  exact Nat.le_trans (List.length_filterMap_le _ _) (keysTo_len l _)
set_option maxHeartbeats 0 in
theorem foldBegun_ok : PCall Tryz.prog 13 [] (dBool true) := by
  have hm := map_ok someLog someLog_ok 3 (mapOf someLog 3) (mapIs' someLog 3)
  have hg := get_ok someLog someLog_ok 3 (mapOf someLog 3) (by rw [some_map]; decide) (mapIs' someLog 3) tA
  have e1 : mapAns someLog 3 (mapOf someLog 3) = [⟨tA, [tY]⟩, ⟨tB, [tZ]⟩] := by unfold mapAns; rw [some_col, if_pos rfl, some_map]
  have e2 : getAns someLog 3 (mapOf someLog 3) tA = [tY] := by unfold getAns; rw [some_get, if_pos rfl, some_map]; rfl
  have hp := op_ok tPut (by decide)
  have hb := op_ok tBad (by decide)
  rw [e1, some_col] at hm
  rw [e2, some_get] at hg
  rw [op_put] at hp
  rw [op_bad] at hb
  refine pcall_intro tab_all tab_mixed Tryz.func13 (by kernel_rfl) Tryz.ntmps13 rfl ?_
  conv => whnf
  refine .data _ _ entries_ok rfl ?_
  conv => whnf
  repeat (first | (refine Conf.mk (by kernel_rfl) ?_; conv => whnf) | (refine SeqOk.go ?_; conv => whnf))
  refine .data _ _ hm rfl ?_
  conv => whnf
  repeat (first | (refine Conf.mk (by kernel_rfl) ?_; conv => whnf) | (refine SeqOk.go ?_; conv => whnf))
  refine .data _ _ entries_ok rfl ?_
  conv => whnf
  repeat (first | (refine Conf.mk (by kernel_rfl) ?_; conv => whnf) | (refine SeqOk.go ?_; conv => whnf))
  refine .data _ _ hg rfl ?_
  conv => whnf
  repeat (first | (refine Conf.mk (by kernel_rfl) ?_; conv => whnf) | (refine SeqOk.go ?_; conv => whnf))
  refine .data _ _ hp rfl ?_
  conv => whnf
  repeat (first | (refine Conf.mk (by kernel_rfl) ?_; conv => whnf) | (refine SeqOk.go ?_; conv => whnf))
  refine .data _ _ hb rfl ?_
  conv => whnf
  repeat (first | (refine Conf.mk (by kernel_rfl) ?_; conv => whnf) | (refine SeqOk.go ?_; conv => whnf))
  refine BoolCase.yes rfl ?_
  conv => whnf
  repeat (first | (refine Conf.mk (by kernel_rfl) ?_; conv => whnf) | (refine SeqOk.go ?_; conv => whnf))
  refine BoolCase.yes rfl ?_
  conv => whnf
  repeat (first | (refine Conf.mk (by kernel_rfl) ?_; conv => whnf) | (refine SeqOk.go ?_; conv => whnf))
  refine BoolCase.yes rfl ?_
  conv => whnf
  repeat (first | (refine Conf.mk (by kernel_rfl) ?_; conv => whnf) | (refine SeqOk.go ?_; conv => whnf))
  refine BoolCase.yes rfl ?_
  conv => whnf
  repeat (first | (refine Conf.mk (by kernel_rfl) ?_; conv => whnf) | (refine SeqOk.go ?_; conv => whnf))
  refine BoolCase.yes rfl ?_
  conv => whnf
  repeat (first | (refine Conf.mk (by kernel_rfl) ?_; conv => whnf) | (refine SeqOk.go ?_; conv => whnf))
  refine AtIdx.ofMap (enc := PairD.enc) (l := [⟨tA, [tY]⟩, ⟨tB, [tZ]⟩]) (i := 1) (by decide) rfl ?_
  conv => whnf
  repeat (first | (refine Conf.mk (by kernel_rfl) ?_; conv => whnf) | (refine SeqOk.go ?_; conv => whnf))
  refine BoolCase.yes rfl ?_
  conv => whnf
  repeat (first | (refine Conf.mk (by kernel_rfl) ?_; conv => whnf) | (refine SeqOk.go ?_; conv => whnf))
  refine .look _ _ (sameS_kb [tY] (by decide)) rfl rfl ?_
  conv => whnf
  repeat (first | (refine Conf.mk (by kernel_rfl) ?_; conv => whnf) | (refine SeqOk.go ?_; conv => whnf))
  refine BoolCase.yes rfl ?_
  conv => whnf
  repeat (first | (refine Conf.mk (by kernel_rfl) ?_; conv => whnf) | (refine SeqOk.go ?_; conv => whnf))
  refine BoolCase.yes rfl ?_
  conv => whnf
  repeat (first | (refine Conf.mk (by kernel_rfl) ?_; conv => whnf) | (refine SeqOk.go ?_; conv => whnf))
  exact Ret.to rfl
end Go.Proofs.YtlioojekjnigiaeGreat.AM.Fo
/- The law of maps. -/
namespace Go.Proofs.YtlioojekjnigiaeGreat.AM.Fo
set_option linter.unusedVariables false
set_option linter.unusedSimpArgs false

theorem valsOf_len (l : List Entry') (c : Int) (k : ByteArray) : (valsOf l c k).length ≤ l.length := valsTo_len l c k _
theorem mapOf_vals {l : List Entry'} {c : Int} {p : PairD} (h : p ∈ mapOf l c) : p.vals.length ≤ l.length := by
  unfold mapOf at h
  obtain ⟨k, _, e⟩ := List.mem_filterMap.1 h
  unfold pairAt at e
  split at e
  · cases e; exact valsOf_len l c k
  · cases e
set_option maxHeartbeats 0 in
theorem ft_bad (l : List Entry') (hl : LogOk l) (c : Int) (k t : ByteArray) (hk : k.size ≤ 140737488355327) (ht : t.size ≤ 140737488355327) (h1 : logErr l ≠ 0) : PCall Tryz.prog 3 [.dat (.list (l.map Entry'.enc)), dInt c, .dat (.str k), .dat (.str t)] (dBool true) := by
  have hlen0 := hl.len
  have hvl := valsOf_len l c k
  have hml := mapOf_len l c
  have hmv := fun p (h : p ∈ mapOf l c) => mapOf_vals h
  have hbeg := foldBegun_ok.kb
  have hop := op_ok t (by omega)
  have hof := opOf_ok t ht
  have hwd := refIsWord_ok k hk
  have hcl := checkLog_ok l hl
  have he0 : opKind t = 0 → opErr t = 1 := fun h => by unfold opErr; rw [if_pos h]
  have he1 : opKind t ≠ 0 → opErr t = 0 := fun h => by unfold opErr; rw [if_neg h]
  have e1 : colErr l c = logErr l := by unfold colErr; rw [if_neg h1]
  have e2 : getErr l c k = logErr l := by unfold getErr; rw [e1, if_neg h1]
  have hm := map_ok l hl c [] (fun h => absurd (e1 ▸ h) h1)
  have hg := get_ok l hl c [] (by simp) (fun h => absurd (e1 ▸ h) h1) k
  have a1 : mapAns l c [] = [] := by unfold mapAns; split <;> rfl
  have a2 : getAns l c [] k = [] := by unfold getAns; rw [e2, if_neg h1]
  rw [a1, e1] at hm
  rw [a2, e2] at hg
  have hsm := sameMap_kb [] (by simp) (by simp)
  have hsv := sameS_kb [] (by simp)
  refine pcall_cut tab_all tab_mixed Tryz.func3 (by kernel_rfl) Tryz.ntmps3 rfl ?_
  conv => whnf
  conv => whnf
  repeat (first | (refine Conf.mk (by kernel_rfl) ?_; conv => whnf) | (refine SeqOk.go ?_; conv => whnf))
  try simp only
  refine .data _ _ hm rfl ?_
  conv => whnf
  repeat (first | (refine Conf.mk (by kernel_rfl) ?_; conv => whnf) | (refine SeqOk.go ?_; conv => whnf))
  try simp only
  refine .data _ _ hg rfl ?_
  conv => whnf
  repeat (first | (refine Conf.mk (by kernel_rfl) ?_; conv => whnf) | (refine SeqOk.go ?_; conv => whnf))
  try simp only
  refine .data _ _ hop rfl ?_
  conv => whnf
  repeat (first | (refine Conf.mk (by kernel_rfl) ?_; conv => whnf) | (refine SeqOk.go ?_; conv => whnf))
  try simp only
  refine .data _ _ hcl rfl ?_
  conv => whnf
  repeat (first | (refine Conf.mk (by kernel_rfl) ?_; conv => whnf) | (refine SeqOk.go ?_; conv => whnf))
  try simp only
  refine BoolCase.no (by simp [h1]) ?_
  conv => whnf
  repeat (first | (refine Conf.mk (by kernel_rfl) ?_; conv => whnf) | (refine SeqOk.go ?_; conv => whnf))
  refine BoolCase.no (by simp [h1]) ?_
  conv => whnf
  repeat (first | (refine Conf.mk (by kernel_rfl) ?_; conv => whnf) | (refine SeqOk.go ?_; conv => whnf))
  refine BoolCase.no (by simp [h1]) ?_
  conv => whnf
  repeat (first | (refine Conf.mk (by kernel_rfl) ?_; conv => whnf) | (refine SeqOk.go ?_; conv => whnf))
  refine BoolCase.no (by simp [h1]) ?_
  conv => whnf
  repeat (first | (refine Conf.mk (by kernel_rfl) ?_; conv => whnf) | (refine SeqOk.go ?_; conv => whnf))
  refine .data _ _ hof rfl ?_
  conv => whnf
  repeat (first | (refine Conf.mk (by kernel_rfl) ?_; conv => whnf) | (refine SeqOk.go ?_; conv => whnf))
  try simp only
  by_cases hkd : opKind t = 0
  · have ho := he0 hkd
    refine BoolCase.yes (by simp [hkd]) ?_
    conv => whnf
    repeat (first | (refine Conf.mk (by kernel_rfl) ?_; conv => whnf) | (refine SeqOk.go ?_; conv => whnf))
    try simp only
    refine .look _ _ hbeg rfl rfl ?_
    conv => whnf
    repeat (first | (refine Conf.mk (by kernel_rfl) ?_; conv => whnf) | (refine SeqOk.go ?_; conv => whnf))
    refine BoolCase.yes (by simp) ?_
    conv => whnf
    repeat (first | (refine Conf.mk (by kernel_rfl) ?_; conv => whnf) | (refine SeqOk.go ?_; conv => whnf))
    try simp only
    refine .look _ _ hsm rfl rfl ?_
    conv => whnf
    repeat (first | (refine Conf.mk (by kernel_rfl) ?_; conv => whnf) | (refine SeqOk.go ?_; conv => whnf))
    refine BoolCase.yes (by simp) ?_
    conv => whnf
    repeat (first | (refine Conf.mk (by kernel_rfl) ?_; conv => whnf) | (refine SeqOk.go ?_; conv => whnf))
    try simp only
    refine .look _ _ hsv rfl rfl ?_
    conv => whnf
    repeat (first | (refine Conf.mk (by kernel_rfl) ?_; conv => whnf) | (refine SeqOk.go ?_; conv => whnf))
    refine BoolCase.yes (by simp [ho]) ?_
    conv => whnf
    repeat (first | (refine Conf.mk (by kernel_rfl) ?_; conv => whnf) | (refine SeqOk.go ?_; conv => whnf))
    try simp only
    refine BoolCase.yes (by simp) ?_
    conv => whnf
    repeat (first | (refine Conf.mk (by kernel_rfl) ?_; conv => whnf) | (refine SeqOk.go ?_; conv => whnf))
    refine BoolCase.yes (by simp) ?_
    conv => whnf
    repeat (first | (refine Conf.mk (by kernel_rfl) ?_; conv => whnf) | (refine SeqOk.go ?_; conv => whnf))
    try simp only
    exact Ret.bool (by simp)
  · have ho := he1 hkd
    refine BoolCase.no (by simp [hkd]) ?_
    conv => whnf
    repeat (first | (refine Conf.mk (by kernel_rfl) ?_; conv => whnf) | (refine SeqOk.go ?_; conv => whnf))
    try simp only
    refine .look _ _ hbeg rfl rfl ?_
    conv => whnf
    repeat (first | (refine Conf.mk (by kernel_rfl) ?_; conv => whnf) | (refine SeqOk.go ?_; conv => whnf))
    refine BoolCase.yes (by simp) ?_
    conv => whnf
    repeat (first | (refine Conf.mk (by kernel_rfl) ?_; conv => whnf) | (refine SeqOk.go ?_; conv => whnf))
    try simp only
    refine .look _ _ hsm rfl rfl ?_
    conv => whnf
    repeat (first | (refine Conf.mk (by kernel_rfl) ?_; conv => whnf) | (refine SeqOk.go ?_; conv => whnf))
    refine BoolCase.yes (by simp) ?_
    conv => whnf
    repeat (first | (refine Conf.mk (by kernel_rfl) ?_; conv => whnf) | (refine SeqOk.go ?_; conv => whnf))
    try simp only
    refine .look _ _ hsv rfl rfl ?_
    conv => whnf
    repeat (first | (refine Conf.mk (by kernel_rfl) ?_; conv => whnf) | (refine SeqOk.go ?_; conv => whnf))
    refine BoolCase.yes (by simp [ho]) ?_
    conv => whnf
    repeat (first | (refine Conf.mk (by kernel_rfl) ?_; conv => whnf) | (refine SeqOk.go ?_; conv => whnf))
    try simp only
    refine BoolCase.yes (by simp) ?_
    conv => whnf
    repeat (first | (refine Conf.mk (by kernel_rfl) ?_; conv => whnf) | (refine SeqOk.go ?_; conv => whnf))
    refine BoolCase.yes (by simp) ?_
    conv => whnf
    repeat (first | (refine Conf.mk (by kernel_rfl) ?_; conv => whnf) | (refine SeqOk.go ?_; conv => whnf))
    try simp only
    exact Ret.bool (by simp)
set_option maxHeartbeats 0 in
theorem ft_range (l : List Entry') (hl : LogOk l) (c : Int) (k t : ByteArray) (hk : k.size ≤ 140737488355327) (ht : t.size ≤ 140737488355327) (h1 : logErr l = 0) (hc : c < 1 ∨ 7 < c) : PCall Tryz.prog 3 [.dat (.list (l.map Entry'.enc)), dInt c, .dat (.str k), .dat (.str t)] (dBool true) := by
  have hlen0 := hl.len
  have hvl := valsOf_len l c k
  have hml := mapOf_len l c
  have hmv := fun p (h : p ∈ mapOf l c) => mapOf_vals h
  have hbeg := foldBegun_ok.kb
  have hop := op_ok t (by omega)
  have hof := opOf_ok t ht
  have hwd := refIsWord_ok k hk
  have hcl := checkLog_ok l hl
  have he0 : opKind t = 0 → opErr t = 1 := fun h => by unfold opErr; rw [if_pos h]
  have he1 : opKind t ≠ 0 → opErr t = 0 := fun h => by unfold opErr; rw [if_neg h]
  have hr := right_iff.1 h1
  have hll := hr.len
  have hmo := mapOf_ok l hr c
  have hvo := valuesOf_ok l hr c k
  rw [h1] at hcl
  have e1 : colErr l c = 3 := by unfold colErr; rw [if_pos h1, if_pos hc]
  have e2 : getErr l c k = 3 := by unfold getErr; rw [e1]; rfl
  have hm := map_ok l hl c [] (fun h => by rw [e1] at h; cases h)
  have hg := get_ok l hl c [] (by simp) (fun h => by rw [e1] at h; cases h) k
  have a1 : mapAns l c [] = [] := by unfold mapAns; split <;> rfl
  have a2 : getAns l c [] k = [] := by unfold getAns; rw [e2]; rfl
  rw [a1, e1] at hm
  rw [a2, e2] at hg
  have hsm := sameMap_kb [] (by simp) (by simp)
  have hsv := sameS_kb [] (by simp)
  refine pcall_cut tab_all tab_mixed Tryz.func3 (by kernel_rfl) Tryz.ntmps3 rfl ?_
  conv => whnf
  conv => whnf
  repeat (first | (refine Conf.mk (by kernel_rfl) ?_; conv => whnf) | (refine SeqOk.go ?_; conv => whnf))
  try simp only
  refine .data _ _ hm rfl ?_
  conv => whnf
  repeat (first | (refine Conf.mk (by kernel_rfl) ?_; conv => whnf) | (refine SeqOk.go ?_; conv => whnf))
  try simp only
  refine .data _ _ hg rfl ?_
  conv => whnf
  repeat (first | (refine Conf.mk (by kernel_rfl) ?_; conv => whnf) | (refine SeqOk.go ?_; conv => whnf))
  try simp only
  refine .data _ _ hop rfl ?_
  conv => whnf
  repeat (first | (refine Conf.mk (by kernel_rfl) ?_; conv => whnf) | (refine SeqOk.go ?_; conv => whnf))
  try simp only
  refine .data _ _ hcl rfl ?_
  conv => whnf
  repeat (first | (refine Conf.mk (by kernel_rfl) ?_; conv => whnf) | (refine SeqOk.go ?_; conv => whnf))
  try simp only
  refine BoolCase.yes rfl ?_
  conv => whnf
  repeat (first | (refine Conf.mk (by kernel_rfl) ?_; conv => whnf) | (refine SeqOk.go ?_; conv => whnf))
  by_cases hc1 : c < 1
  · refine BoolCase.yes (decide_eq_true hc1) ?_
    conv => whnf
    repeat (first | (refine Conf.mk (by kernel_rfl) ?_; conv => whnf) | (refine SeqOk.go ?_; conv => whnf))
    refine BoolCase.no rfl ?_
    conv => whnf
    repeat (first | (refine Conf.mk (by kernel_rfl) ?_; conv => whnf) | (refine SeqOk.go ?_; conv => whnf))
    refine BoolCase.no rfl ?_
    conv => whnf
    repeat (first | (refine Conf.mk (by kernel_rfl) ?_; conv => whnf) | (refine SeqOk.go ?_; conv => whnf))
    refine BoolCase.no rfl ?_
    conv => whnf
    repeat (first | (refine Conf.mk (by kernel_rfl) ?_; conv => whnf) | (refine SeqOk.go ?_; conv => whnf))
    refine .data _ _ hof rfl ?_
    conv => whnf
    repeat (first | (refine Conf.mk (by kernel_rfl) ?_; conv => whnf) | (refine SeqOk.go ?_; conv => whnf))
    try simp only
    by_cases hkd : opKind t = 0
    · have ho := he0 hkd
      refine BoolCase.yes (by simp [hkd]) ?_
      conv => whnf
      repeat (first | (refine Conf.mk (by kernel_rfl) ?_; conv => whnf) | (refine SeqOk.go ?_; conv => whnf))
      try simp only
      refine .look _ _ hbeg rfl rfl ?_
      conv => whnf
      repeat (first | (refine Conf.mk (by kernel_rfl) ?_; conv => whnf) | (refine SeqOk.go ?_; conv => whnf))
      refine BoolCase.yes (by simp) ?_
      conv => whnf
      repeat (first | (refine Conf.mk (by kernel_rfl) ?_; conv => whnf) | (refine SeqOk.go ?_; conv => whnf))
      try simp only
      refine .look _ _ hsm rfl rfl ?_
      conv => whnf
      repeat (first | (refine Conf.mk (by kernel_rfl) ?_; conv => whnf) | (refine SeqOk.go ?_; conv => whnf))
      refine BoolCase.yes (by simp) ?_
      conv => whnf
      repeat (first | (refine Conf.mk (by kernel_rfl) ?_; conv => whnf) | (refine SeqOk.go ?_; conv => whnf))
      try simp only
      refine .look _ _ hsv rfl rfl ?_
      conv => whnf
      repeat (first | (refine Conf.mk (by kernel_rfl) ?_; conv => whnf) | (refine SeqOk.go ?_; conv => whnf))
      refine BoolCase.yes (by simp [ho]) ?_
      conv => whnf
      repeat (first | (refine Conf.mk (by kernel_rfl) ?_; conv => whnf) | (refine SeqOk.go ?_; conv => whnf))
      try simp only
      refine BoolCase.yes (by simp) ?_
      conv => whnf
      repeat (first | (refine Conf.mk (by kernel_rfl) ?_; conv => whnf) | (refine SeqOk.go ?_; conv => whnf))
      refine BoolCase.yes (by simp) ?_
      conv => whnf
      repeat (first | (refine Conf.mk (by kernel_rfl) ?_; conv => whnf) | (refine SeqOk.go ?_; conv => whnf))
      try simp only
      exact Ret.bool (by simp)
    · have ho := he1 hkd
      refine BoolCase.no (by simp [hkd]) ?_
      conv => whnf
      repeat (first | (refine Conf.mk (by kernel_rfl) ?_; conv => whnf) | (refine SeqOk.go ?_; conv => whnf))
      try simp only
      refine .look _ _ hbeg rfl rfl ?_
      conv => whnf
      repeat (first | (refine Conf.mk (by kernel_rfl) ?_; conv => whnf) | (refine SeqOk.go ?_; conv => whnf))
      refine BoolCase.yes (by simp) ?_
      conv => whnf
      repeat (first | (refine Conf.mk (by kernel_rfl) ?_; conv => whnf) | (refine SeqOk.go ?_; conv => whnf))
      try simp only
      refine .look _ _ hsm rfl rfl ?_
      conv => whnf
      repeat (first | (refine Conf.mk (by kernel_rfl) ?_; conv => whnf) | (refine SeqOk.go ?_; conv => whnf))
      refine BoolCase.yes (by simp) ?_
      conv => whnf
      repeat (first | (refine Conf.mk (by kernel_rfl) ?_; conv => whnf) | (refine SeqOk.go ?_; conv => whnf))
      try simp only
      refine .look _ _ hsv rfl rfl ?_
      conv => whnf
      repeat (first | (refine Conf.mk (by kernel_rfl) ?_; conv => whnf) | (refine SeqOk.go ?_; conv => whnf))
      refine BoolCase.yes (by simp [ho]) ?_
      conv => whnf
      repeat (first | (refine Conf.mk (by kernel_rfl) ?_; conv => whnf) | (refine SeqOk.go ?_; conv => whnf))
      try simp only
      refine BoolCase.yes (by simp) ?_
      conv => whnf
      repeat (first | (refine Conf.mk (by kernel_rfl) ?_; conv => whnf) | (refine SeqOk.go ?_; conv => whnf))
      refine BoolCase.yes (by simp) ?_
      conv => whnf
      repeat (first | (refine Conf.mk (by kernel_rfl) ?_; conv => whnf) | (refine SeqOk.go ?_; conv => whnf))
      try simp only
      exact Ret.bool (by simp)
  · refine BoolCase.no (decide_eq_false hc1) ?_
    conv => whnf
    repeat (first | (refine Conf.mk (by kernel_rfl) ?_; conv => whnf) | (refine SeqOk.go ?_; conv => whnf))
    refine BoolCase.yes (by simp; omega) ?_
    conv => whnf
    repeat (first | (refine Conf.mk (by kernel_rfl) ?_; conv => whnf) | (refine SeqOk.go ?_; conv => whnf))
    refine BoolCase.no rfl ?_
    conv => whnf
    repeat (first | (refine Conf.mk (by kernel_rfl) ?_; conv => whnf) | (refine SeqOk.go ?_; conv => whnf))
    refine BoolCase.no rfl ?_
    conv => whnf
    repeat (first | (refine Conf.mk (by kernel_rfl) ?_; conv => whnf) | (refine SeqOk.go ?_; conv => whnf))
    refine BoolCase.no rfl ?_
    conv => whnf
    repeat (first | (refine Conf.mk (by kernel_rfl) ?_; conv => whnf) | (refine SeqOk.go ?_; conv => whnf))
    refine .data _ _ hof rfl ?_
    conv => whnf
    repeat (first | (refine Conf.mk (by kernel_rfl) ?_; conv => whnf) | (refine SeqOk.go ?_; conv => whnf))
    try simp only
    by_cases hkd : opKind t = 0
    · have ho := he0 hkd
      refine BoolCase.yes (by simp [hkd]) ?_
      conv => whnf
      repeat (first | (refine Conf.mk (by kernel_rfl) ?_; conv => whnf) | (refine SeqOk.go ?_; conv => whnf))
      try simp only
      refine .look _ _ hbeg rfl rfl ?_
      conv => whnf
      repeat (first | (refine Conf.mk (by kernel_rfl) ?_; conv => whnf) | (refine SeqOk.go ?_; conv => whnf))
      refine BoolCase.yes (by simp) ?_
      conv => whnf
      repeat (first | (refine Conf.mk (by kernel_rfl) ?_; conv => whnf) | (refine SeqOk.go ?_; conv => whnf))
      try simp only
      refine .look _ _ hsm rfl rfl ?_
      conv => whnf
      repeat (first | (refine Conf.mk (by kernel_rfl) ?_; conv => whnf) | (refine SeqOk.go ?_; conv => whnf))
      refine BoolCase.yes (by simp) ?_
      conv => whnf
      repeat (first | (refine Conf.mk (by kernel_rfl) ?_; conv => whnf) | (refine SeqOk.go ?_; conv => whnf))
      try simp only
      refine .look _ _ hsv rfl rfl ?_
      conv => whnf
      repeat (first | (refine Conf.mk (by kernel_rfl) ?_; conv => whnf) | (refine SeqOk.go ?_; conv => whnf))
      refine BoolCase.yes (by simp [ho]) ?_
      conv => whnf
      repeat (first | (refine Conf.mk (by kernel_rfl) ?_; conv => whnf) | (refine SeqOk.go ?_; conv => whnf))
      try simp only
      refine BoolCase.yes (by simp) ?_
      conv => whnf
      repeat (first | (refine Conf.mk (by kernel_rfl) ?_; conv => whnf) | (refine SeqOk.go ?_; conv => whnf))
      refine BoolCase.yes (by simp) ?_
      conv => whnf
      repeat (first | (refine Conf.mk (by kernel_rfl) ?_; conv => whnf) | (refine SeqOk.go ?_; conv => whnf))
      try simp only
      exact Ret.bool (by simp)
    · have ho := he1 hkd
      refine BoolCase.no (by simp [hkd]) ?_
      conv => whnf
      repeat (first | (refine Conf.mk (by kernel_rfl) ?_; conv => whnf) | (refine SeqOk.go ?_; conv => whnf))
      try simp only
      refine .look _ _ hbeg rfl rfl ?_
      conv => whnf
      repeat (first | (refine Conf.mk (by kernel_rfl) ?_; conv => whnf) | (refine SeqOk.go ?_; conv => whnf))
      refine BoolCase.yes (by simp) ?_
      conv => whnf
      repeat (first | (refine Conf.mk (by kernel_rfl) ?_; conv => whnf) | (refine SeqOk.go ?_; conv => whnf))
      try simp only
      refine .look _ _ hsm rfl rfl ?_
      conv => whnf
      repeat (first | (refine Conf.mk (by kernel_rfl) ?_; conv => whnf) | (refine SeqOk.go ?_; conv => whnf))
      refine BoolCase.yes (by simp) ?_
      conv => whnf
      repeat (first | (refine Conf.mk (by kernel_rfl) ?_; conv => whnf) | (refine SeqOk.go ?_; conv => whnf))
      try simp only
      refine .look _ _ hsv rfl rfl ?_
      conv => whnf
      repeat (first | (refine Conf.mk (by kernel_rfl) ?_; conv => whnf) | (refine SeqOk.go ?_; conv => whnf))
      refine BoolCase.yes (by simp [ho]) ?_
      conv => whnf
      repeat (first | (refine Conf.mk (by kernel_rfl) ?_; conv => whnf) | (refine SeqOk.go ?_; conv => whnf))
      try simp only
      refine BoolCase.yes (by simp) ?_
      conv => whnf
      repeat (first | (refine Conf.mk (by kernel_rfl) ?_; conv => whnf) | (refine SeqOk.go ?_; conv => whnf))
      refine BoolCase.yes (by simp) ?_
      conv => whnf
      repeat (first | (refine Conf.mk (by kernel_rfl) ?_; conv => whnf) | (refine SeqOk.go ?_; conv => whnf))
      try simp only
      exact Ret.bool (by simp)
set_option maxHeartbeats 0 in
theorem ft_key (l : List Entry') (hl : LogOk l) (c : Int) (k t : ByteArray) (hk : k.size ≤ 140737488355327) (ht : t.size ≤ 140737488355327) (h1 : logErr l = 0) (hc : ¬ (c < 1 ∨ 7 < c)) (hw : isW k = false) : PCall Tryz.prog 3 [.dat (.list (l.map Entry'.enc)), dInt c, .dat (.str k), .dat (.str t)] (dBool true) := by
  have hlen0 := hl.len
  have hvl := valsOf_len l c k
  have hml := mapOf_len l c
  have hmv := fun p (h : p ∈ mapOf l c) => mapOf_vals h
  have hbeg := foldBegun_ok.kb
  have hop := op_ok t (by omega)
  have hof := opOf_ok t ht
  have hwd := refIsWord_ok k hk
  have hcl := checkLog_ok l hl
  have he0 : opKind t = 0 → opErr t = 1 := fun h => by unfold opErr; rw [if_pos h]
  have he1 : opKind t ≠ 0 → opErr t = 0 := fun h => by unfold opErr; rw [if_neg h]
  have hr := right_iff.1 h1
  have hll := hr.len
  have hmo := mapOf_ok l hr c
  have hvo := valuesOf_ok l hr c k
  rw [h1] at hcl
  have e1 : colErr l c = 0 := by unfold colErr; rw [if_pos h1, if_neg hc]
  have hm := map_ok l hl c (mapOf l c) (mapIs' l c)
  have hg := get_ok l hl c (mapOf l c) (by omega) (mapIs' l c) k
  have a1 : mapAns l c (mapOf l c) = mapOf l c := by unfold mapAns; rw [if_pos e1]
  rw [a1, e1] at hm
  have hsm := sameMap_kb (mapOf l c) (by omega) (fun p hp => by have := hmv p hp; omega)
  have e2 : getErr l c k = 1 := by unfold getErr; rw [if_pos e1, hw]; rfl
  have a2 : getAns l c (mapOf l c) k = [] := by unfold getAns; rw [e2]; rfl
  rw [a2, e2] at hg
  have hsv := sameS_kb [] (by simp)
  refine pcall_cut tab_all tab_mixed Tryz.func3 (by kernel_rfl) Tryz.ntmps3 rfl ?_
  conv => whnf
  conv => whnf
  repeat (first | (refine Conf.mk (by kernel_rfl) ?_; conv => whnf) | (refine SeqOk.go ?_; conv => whnf))
  try simp only
  refine .data _ _ hm rfl ?_
  conv => whnf
  repeat (first | (refine Conf.mk (by kernel_rfl) ?_; conv => whnf) | (refine SeqOk.go ?_; conv => whnf))
  try simp only
  refine .data _ _ hg rfl ?_
  conv => whnf
  repeat (first | (refine Conf.mk (by kernel_rfl) ?_; conv => whnf) | (refine SeqOk.go ?_; conv => whnf))
  try simp only
  refine .data _ _ hop rfl ?_
  conv => whnf
  repeat (first | (refine Conf.mk (by kernel_rfl) ?_; conv => whnf) | (refine SeqOk.go ?_; conv => whnf))
  try simp only
  refine .data _ _ hcl rfl ?_
  conv => whnf
  repeat (first | (refine Conf.mk (by kernel_rfl) ?_; conv => whnf) | (refine SeqOk.go ?_; conv => whnf))
  try simp only
  refine BoolCase.yes rfl ?_
  conv => whnf
  repeat (first | (refine Conf.mk (by kernel_rfl) ?_; conv => whnf) | (refine SeqOk.go ?_; conv => whnf))
  refine BoolCase.no (decide_eq_false (by omega)) ?_
  conv => whnf
  repeat (first | (refine Conf.mk (by kernel_rfl) ?_; conv => whnf) | (refine SeqOk.go ?_; conv => whnf))
  refine BoolCase.no (decide_eq_false (by omega)) ?_
  conv => whnf
  repeat (first | (refine Conf.mk (by kernel_rfl) ?_; conv => whnf) | (refine SeqOk.go ?_; conv => whnf))
  refine BoolCase.yes rfl ?_
  conv => whnf
  repeat (first | (refine Conf.mk (by kernel_rfl) ?_; conv => whnf) | (refine SeqOk.go ?_; conv => whnf))
  refine .look _ _ (hw ▸ hwd).kb rfl rfl ?_
  conv => whnf
  repeat (first | (refine Conf.mk (by kernel_rfl) ?_; conv => whnf) | (refine SeqOk.go ?_; conv => whnf))
  refine BoolCase.yes rfl ?_
  conv => whnf
  repeat (first | (refine Conf.mk (by kernel_rfl) ?_; conv => whnf) | (refine SeqOk.go ?_; conv => whnf))
  refine .data _ _ hmo rfl ?_
  conv => whnf
  repeat (first | (refine Conf.mk (by kernel_rfl) ?_; conv => whnf) | (refine SeqOk.go ?_; conv => whnf))
  refine BoolCase.no rfl ?_
  conv => whnf
  repeat (first | (refine Conf.mk (by kernel_rfl) ?_; conv => whnf) | (refine SeqOk.go ?_; conv => whnf))
  refine .data _ _ hof rfl ?_
  conv => whnf
  repeat (first | (refine Conf.mk (by kernel_rfl) ?_; conv => whnf) | (refine SeqOk.go ?_; conv => whnf))
  try simp only
  by_cases hkd : opKind t = 0
  · have ho := he0 hkd
    refine BoolCase.yes (by simp [hkd]) ?_
    conv => whnf
    repeat (first | (refine Conf.mk (by kernel_rfl) ?_; conv => whnf) | (refine SeqOk.go ?_; conv => whnf))
    try simp only
    refine .look _ _ hbeg rfl rfl ?_
    conv => whnf
    repeat (first | (refine Conf.mk (by kernel_rfl) ?_; conv => whnf) | (refine SeqOk.go ?_; conv => whnf))
    refine BoolCase.yes (by simp) ?_
    conv => whnf
    repeat (first | (refine Conf.mk (by kernel_rfl) ?_; conv => whnf) | (refine SeqOk.go ?_; conv => whnf))
    try simp only
    refine .look _ _ hsm rfl rfl ?_
    conv => whnf
    repeat (first | (refine Conf.mk (by kernel_rfl) ?_; conv => whnf) | (refine SeqOk.go ?_; conv => whnf))
    refine BoolCase.yes (by simp) ?_
    conv => whnf
    repeat (first | (refine Conf.mk (by kernel_rfl) ?_; conv => whnf) | (refine SeqOk.go ?_; conv => whnf))
    try simp only
    refine .look _ _ hsv rfl rfl ?_
    conv => whnf
    repeat (first | (refine Conf.mk (by kernel_rfl) ?_; conv => whnf) | (refine SeqOk.go ?_; conv => whnf))
    refine BoolCase.yes (by simp [ho]) ?_
    conv => whnf
    repeat (first | (refine Conf.mk (by kernel_rfl) ?_; conv => whnf) | (refine SeqOk.go ?_; conv => whnf))
    try simp only
    refine BoolCase.yes (by simp) ?_
    conv => whnf
    repeat (first | (refine Conf.mk (by kernel_rfl) ?_; conv => whnf) | (refine SeqOk.go ?_; conv => whnf))
    refine BoolCase.yes (by simp) ?_
    conv => whnf
    repeat (first | (refine Conf.mk (by kernel_rfl) ?_; conv => whnf) | (refine SeqOk.go ?_; conv => whnf))
    try simp only
    exact Ret.bool (by simp)
  · have ho := he1 hkd
    refine BoolCase.no (by simp [hkd]) ?_
    conv => whnf
    repeat (first | (refine Conf.mk (by kernel_rfl) ?_; conv => whnf) | (refine SeqOk.go ?_; conv => whnf))
    try simp only
    refine .look _ _ hbeg rfl rfl ?_
    conv => whnf
    repeat (first | (refine Conf.mk (by kernel_rfl) ?_; conv => whnf) | (refine SeqOk.go ?_; conv => whnf))
    refine BoolCase.yes (by simp) ?_
    conv => whnf
    repeat (first | (refine Conf.mk (by kernel_rfl) ?_; conv => whnf) | (refine SeqOk.go ?_; conv => whnf))
    try simp only
    refine .look _ _ hsm rfl rfl ?_
    conv => whnf
    repeat (first | (refine Conf.mk (by kernel_rfl) ?_; conv => whnf) | (refine SeqOk.go ?_; conv => whnf))
    refine BoolCase.yes (by simp) ?_
    conv => whnf
    repeat (first | (refine Conf.mk (by kernel_rfl) ?_; conv => whnf) | (refine SeqOk.go ?_; conv => whnf))
    try simp only
    refine .look _ _ hsv rfl rfl ?_
    conv => whnf
    repeat (first | (refine Conf.mk (by kernel_rfl) ?_; conv => whnf) | (refine SeqOk.go ?_; conv => whnf))
    refine BoolCase.yes (by simp [ho]) ?_
    conv => whnf
    repeat (first | (refine Conf.mk (by kernel_rfl) ?_; conv => whnf) | (refine SeqOk.go ?_; conv => whnf))
    try simp only
    refine BoolCase.yes (by simp) ?_
    conv => whnf
    repeat (first | (refine Conf.mk (by kernel_rfl) ?_; conv => whnf) | (refine SeqOk.go ?_; conv => whnf))
    refine BoolCase.yes (by simp) ?_
    conv => whnf
    repeat (first | (refine Conf.mk (by kernel_rfl) ?_; conv => whnf) | (refine SeqOk.go ?_; conv => whnf))
    try simp only
    exact Ret.bool (by simp)
set_option maxHeartbeats 0 in
theorem ft_all (l : List Entry') (hl : LogOk l) (c : Int) (k t : ByteArray) (hk : k.size ≤ 140737488355327) (ht : t.size ≤ 140737488355327) (h1 : logErr l = 0) (hc : ¬ (c < 1 ∨ 7 < c)) (hw : isW k = true) : PCall Tryz.prog 3 [.dat (.list (l.map Entry'.enc)), dInt c, .dat (.str k), .dat (.str t)] (dBool true) := by
  have hlen0 := hl.len
  have hvl := valsOf_len l c k
  have hml := mapOf_len l c
  have hmv := fun p (h : p ∈ mapOf l c) => mapOf_vals h
  have hbeg := foldBegun_ok.kb
  have hop := op_ok t (by omega)
  have hof := opOf_ok t ht
  have hwd := refIsWord_ok k hk
  have hcl := checkLog_ok l hl
  have he0 : opKind t = 0 → opErr t = 1 := fun h => by unfold opErr; rw [if_pos h]
  have he1 : opKind t ≠ 0 → opErr t = 0 := fun h => by unfold opErr; rw [if_neg h]
  have hr := right_iff.1 h1
  have hll := hr.len
  have hmo := mapOf_ok l hr c
  have hvo := valuesOf_ok l hr c k
  rw [h1] at hcl
  have e1 : colErr l c = 0 := by unfold colErr; rw [if_pos h1, if_neg hc]
  have hm := map_ok l hl c (mapOf l c) (mapIs' l c)
  have hg := get_ok l hl c (mapOf l c) (by omega) (mapIs' l c) k
  have a1 : mapAns l c (mapOf l c) = mapOf l c := by unfold mapAns; rw [if_pos e1]
  rw [a1, e1] at hm
  have hsm := sameMap_kb (mapOf l c) (by omega) (fun p hp => by have := hmv p hp; omega)
  have e2 : getErr l c k = 0 := by unfold getErr; rw [if_pos e1, hw]; rfl
  have a2 : getAns l c (mapOf l c) k = valsOf l c k := by unfold getAns; rw [if_pos e2, valuesIn_mapOf]
  rw [a2, e2] at hg
  have hsv := sameS_kb (valsOf l c k) (by omega)
  refine pcall_cut tab_all tab_mixed Tryz.func3 (by kernel_rfl) Tryz.ntmps3 rfl ?_
  conv => whnf
  conv => whnf
  repeat (first | (refine Conf.mk (by kernel_rfl) ?_; conv => whnf) | (refine SeqOk.go ?_; conv => whnf))
  try simp only
  refine .data _ _ hm rfl ?_
  conv => whnf
  repeat (first | (refine Conf.mk (by kernel_rfl) ?_; conv => whnf) | (refine SeqOk.go ?_; conv => whnf))
  try simp only
  refine .data _ _ hg rfl ?_
  conv => whnf
  repeat (first | (refine Conf.mk (by kernel_rfl) ?_; conv => whnf) | (refine SeqOk.go ?_; conv => whnf))
  try simp only
  refine .data _ _ hop rfl ?_
  conv => whnf
  repeat (first | (refine Conf.mk (by kernel_rfl) ?_; conv => whnf) | (refine SeqOk.go ?_; conv => whnf))
  try simp only
  refine .data _ _ hcl rfl ?_
  conv => whnf
  repeat (first | (refine Conf.mk (by kernel_rfl) ?_; conv => whnf) | (refine SeqOk.go ?_; conv => whnf))
  try simp only
  refine BoolCase.yes rfl ?_
  conv => whnf
  repeat (first | (refine Conf.mk (by kernel_rfl) ?_; conv => whnf) | (refine SeqOk.go ?_; conv => whnf))
  refine BoolCase.no (decide_eq_false (by omega)) ?_
  conv => whnf
  repeat (first | (refine Conf.mk (by kernel_rfl) ?_; conv => whnf) | (refine SeqOk.go ?_; conv => whnf))
  refine BoolCase.no (decide_eq_false (by omega)) ?_
  conv => whnf
  repeat (first | (refine Conf.mk (by kernel_rfl) ?_; conv => whnf) | (refine SeqOk.go ?_; conv => whnf))
  refine BoolCase.yes rfl ?_
  conv => whnf
  repeat (first | (refine Conf.mk (by kernel_rfl) ?_; conv => whnf) | (refine SeqOk.go ?_; conv => whnf))
  refine .look _ _ (hw ▸ hwd).kb rfl rfl ?_
  conv => whnf
  repeat (first | (refine Conf.mk (by kernel_rfl) ?_; conv => whnf) | (refine SeqOk.go ?_; conv => whnf))
  refine BoolCase.yes rfl ?_
  conv => whnf
  repeat (first | (refine Conf.mk (by kernel_rfl) ?_; conv => whnf) | (refine SeqOk.go ?_; conv => whnf))
  refine .data _ _ hmo rfl ?_
  conv => whnf
  repeat (first | (refine Conf.mk (by kernel_rfl) ?_; conv => whnf) | (refine SeqOk.go ?_; conv => whnf))
  refine BoolCase.yes rfl ?_
  conv => whnf
  repeat (first | (refine Conf.mk (by kernel_rfl) ?_; conv => whnf) | (refine SeqOk.go ?_; conv => whnf))
  refine .data _ _ hvo rfl ?_
  conv => whnf
  repeat (first | (refine Conf.mk (by kernel_rfl) ?_; conv => whnf) | (refine SeqOk.go ?_; conv => whnf))
  refine .data _ _ hof rfl ?_
  conv => whnf
  repeat (first | (refine Conf.mk (by kernel_rfl) ?_; conv => whnf) | (refine SeqOk.go ?_; conv => whnf))
  try simp only
  by_cases hkd : opKind t = 0
  · have ho := he0 hkd
    refine BoolCase.yes (by simp [hkd]) ?_
    conv => whnf
    repeat (first | (refine Conf.mk (by kernel_rfl) ?_; conv => whnf) | (refine SeqOk.go ?_; conv => whnf))
    try simp only
    refine .look _ _ hbeg rfl rfl ?_
    conv => whnf
    repeat (first | (refine Conf.mk (by kernel_rfl) ?_; conv => whnf) | (refine SeqOk.go ?_; conv => whnf))
    refine BoolCase.yes (by simp) ?_
    conv => whnf
    repeat (first | (refine Conf.mk (by kernel_rfl) ?_; conv => whnf) | (refine SeqOk.go ?_; conv => whnf))
    try simp only
    refine .look _ _ hsm rfl rfl ?_
    conv => whnf
    repeat (first | (refine Conf.mk (by kernel_rfl) ?_; conv => whnf) | (refine SeqOk.go ?_; conv => whnf))
    refine BoolCase.yes (by simp) ?_
    conv => whnf
    repeat (first | (refine Conf.mk (by kernel_rfl) ?_; conv => whnf) | (refine SeqOk.go ?_; conv => whnf))
    try simp only
    refine .look _ _ hsv rfl rfl ?_
    conv => whnf
    repeat (first | (refine Conf.mk (by kernel_rfl) ?_; conv => whnf) | (refine SeqOk.go ?_; conv => whnf))
    refine BoolCase.yes (by simp [ho]) ?_
    conv => whnf
    repeat (first | (refine Conf.mk (by kernel_rfl) ?_; conv => whnf) | (refine SeqOk.go ?_; conv => whnf))
    try simp only
    refine BoolCase.yes (by simp) ?_
    conv => whnf
    repeat (first | (refine Conf.mk (by kernel_rfl) ?_; conv => whnf) | (refine SeqOk.go ?_; conv => whnf))
    refine BoolCase.yes (by simp) ?_
    conv => whnf
    repeat (first | (refine Conf.mk (by kernel_rfl) ?_; conv => whnf) | (refine SeqOk.go ?_; conv => whnf))
    try simp only
    exact Ret.bool (by simp)
  · have ho := he1 hkd
    refine BoolCase.no (by simp [hkd]) ?_
    conv => whnf
    repeat (first | (refine Conf.mk (by kernel_rfl) ?_; conv => whnf) | (refine SeqOk.go ?_; conv => whnf))
    try simp only
    refine .look _ _ hbeg rfl rfl ?_
    conv => whnf
    repeat (first | (refine Conf.mk (by kernel_rfl) ?_; conv => whnf) | (refine SeqOk.go ?_; conv => whnf))
    refine BoolCase.yes (by simp) ?_
    conv => whnf
    repeat (first | (refine Conf.mk (by kernel_rfl) ?_; conv => whnf) | (refine SeqOk.go ?_; conv => whnf))
    try simp only
    refine .look _ _ hsm rfl rfl ?_
    conv => whnf
    repeat (first | (refine Conf.mk (by kernel_rfl) ?_; conv => whnf) | (refine SeqOk.go ?_; conv => whnf))
    refine BoolCase.yes (by simp) ?_
    conv => whnf
    repeat (first | (refine Conf.mk (by kernel_rfl) ?_; conv => whnf) | (refine SeqOk.go ?_; conv => whnf))
    try simp only
    refine .look _ _ hsv rfl rfl ?_
    conv => whnf
    repeat (first | (refine Conf.mk (by kernel_rfl) ?_; conv => whnf) | (refine SeqOk.go ?_; conv => whnf))
    refine BoolCase.yes (by simp [ho]) ?_
    conv => whnf
    repeat (first | (refine Conf.mk (by kernel_rfl) ?_; conv => whnf) | (refine SeqOk.go ?_; conv => whnf))
    try simp only
    refine BoolCase.yes (by simp) ?_
    conv => whnf
    repeat (first | (refine Conf.mk (by kernel_rfl) ?_; conv => whnf) | (refine SeqOk.go ?_; conv => whnf))
    refine BoolCase.yes (by simp) ?_
    conv => whnf
    repeat (first | (refine Conf.mk (by kernel_rfl) ?_; conv => whnf) | (refine SeqOk.go ?_; conv => whnf))
    try simp only
    exact Ret.bool (by simp)
set_option maxHeartbeats 0 in
theorem foldTells_ok (l : List Entry') (hl : LogOk l) (c : Int) (k t : ByteArray) (hk : k.size ≤ 140737488355327) (ht : t.size ≤ 140737488355327) : PCall Tryz.prog 3 [.dat (.list (l.map Entry'.enc)), dInt c, .dat (.str k), .dat (.str t)] (dBool true) := by
  by_cases h1 : logErr l = 0
  · by_cases hc : c < 1 ∨ 7 < c
    · exact ft_range l hl c k t hk ht h1 hc
    · cases hw : isW k
      · exact ft_key l hl c k t hk ht h1 hc hw
      · exact ft_all l hl c k t hk ht h1 hc hw
  · exact ft_bad l hl c k t hk ht h1
end Go.Proofs.YtlioojekjnigiaeGreat.AM.Fo
/- Logs: what the document says of them, called. -/
namespace Go.Proofs.YtlioojekjnigiaeGreat.AM
set_option linter.unusedVariables false
set_option linter.unusedSimpArgs false

end Go.Proofs.YtlioojekjnigiaeGreat.AM
/- Logs: pasts of what is past. -/
namespace Go.Proofs.YtlioojekjnigiaeGreat.AM
set_option linter.unusedVariables false
set_option linter.unusedSimpArgs false

theorem past_in {l : List Entry'} (hr : Right l) {x : Id} (h : ∃ e ∈ l, e.id = x) : PCall Tryz.prog 42 [.dat (.list (l.map Entry'.enc)), x.arg] (.tup [.dat (.list ((pastOfId l x).map Id.enc)), dInt 0]) := by
  have he : pastErr l x = 0 := by unfold pastErr; rw [if_pos (right_iff.2 hr), if_pos (any_isThe.2 h)]
  have ha : pastAns l x = pastOfId l x := by unfold pastAns; rw [if_pos he]
  have := past_ok l hr.logOk x
  rwa [he, ha] at this
theorem pastOfId_len {l : List Entry'} (hr : Right l) (x : Id) : (pastOfId l x).length ≤ 240 := by
  have := pastFold_len (isThe x) fun e he => hr.six he
  have := hr.len
  unfold pastOfId
  rw [sortIds_len]
  omega
theorem checkRight {l : List Entry'} (hr : Right l) : PCall Tryz.prog 18 [.dat (.list (l.map Entry'.enc))] (dInt 0) := by
  have := dagCheck_ok l hr.logOk
  rwa [right_iff.2 hr] at this
theorem lt_of_cast {i n : Nat} (h : decide ((i : Int) < (n : Int)) = true) : i < n := by simpa using h
theorem ge_of_cast {i n : Nat} (h : decide ((i : Int) < (n : Int)) = false) : n ≤ i := by simpa using h
theorem lt_of_len {α : Type} {enc : α → List D} {l : List α} {i : Nat} (h : decide ((i : Int) < ((l.map enc).length : Int)) = true) : i < l.length := by simpa using h
theorem ge_of_len {α : Type} {enc : α → List D} {l : List α} {i : Nat} (h : decide ((i : Int) < ((l.map enc).length : Int)) = false) : l.length ≤ i := by simpa using h
end Go.Proofs.YtlioojekjnigiaeGreat.AM
/- Logs: their beginnings. -/
namespace Go.Proofs.YtlioojekjnigiaeGreat.AM
set_option linter.unusedVariables false
set_option linter.unusedSimpArgs false

theorem cnt_all {l : List Entry'} (h : ∀ e ∈ l, e.id.r = 0 ∨ e.id.r = 1) : cnt 0 l + cnt 1 l = l.length := by
  induction l with
  | nil => rfl
  | cons e t ih =>
    have := ih fun x hx => h x (by simp [hx])
    unfold cnt at *
    rw [List.countP_cons, List.countP_cons, List.length_cons]
    rcases h e (by simp) with h1 | h1 <;> simp [h1] <;> omega
theorem cnt_mono (r : Int) {l : List Entry'} {i n : Nat} (h : i ≤ n) : cnt r (l.take i) ≤ cnt r (l.take n) := by
  unfold cnt
  exact (List.take_sublist_take_left h).countP_le
/-- Pasts in a beginning are as in the whole. -/
theorem past_part {l : List Entry'} (hr : Right l) {n i : Nat} (hi : i < n) (hil : i < l.length) : pastOfId (l.take n) l[i].id = pastOfId l l[i].id := by
  have hrt := hr.take n
  refine sorted_ext (pastOfId_sorted _ _) (pastOfId_sorted _ _) fun y => ?_
  rw [mem_pastOfId hrt, mem_pastOfId hr]
  refine ⟨fun h => h.mono fun e he => List.mem_of_mem_take he, fun h => ?_⟩
  obtain ⟨j, hj, _, _, h5⟩ := h.ahead hr i hil rfl
  exact h5.mono fun e he => (List.take_subset_take_left l (by omega)) he
end Go.Proofs.YtlioojekjnigiaeGreat.AM
/- Plain: sites. -/
namespace Go.Proofs.YtlioojekjnigiaeGreat.AM
set_option linter.unusedVariables false
set_option linter.unusedSimpArgs false

structure Site' where
  region : Int
  log : List Entry'
  waits : List Entry'
/-- May an entry stand right behind a log? -/
def readyP (l : List Entry') (e : Entry') : Bool := decide (e.id.n = (cnt e.id.r l : Int) + 1) && e.links.all fun x => l.any (isThe x)
def settleN : Nat → List Entry' → List Entry' → List Entry' × List Entry'
  | 0, l, w => (l, w)
  | n + 1, l, w => match isIdx (readyP l) w 0 with
    | none => (l, w)
    | some i => match w[i]? with
      | none => (l, w)
      | some e => settleN n (l ++ [e]) (w.eraseIdx i)
def settle (l w : List Entry') : List Entry' × List Entry' := settleN w.length l w
theorem isIdx_first {α : Type} {p : α → Bool} : ∀ {l : List α} {i j : Nat}, isIdx p l i = some j → ∀ k (hk : k < l.length), i + k < j → p l[k] = false
  | [], i, j, h, k, hk, _ => by simp at hk
  | a :: t, i, j, h, k, hk, hkj => by
    unfold isIdx at h
    split at h
    · obtain rfl : i = j := by simpa using h
      omega
    · rename_i hp
      match k with
      | 0 => simpa using hp
      | k + 1 => exact isIdx_first h k (by simpa using hk) (by omega)
theorem settle_none {l w : List Entry'} (h : isIdx (readyP l) w 0 = none) : settle l w = (l, w) := by
  unfold settle
  cases w with
  | nil => rfl
  | cons e t => simp only [List.length_cons, settleN, h]
theorem settle_some {l w : List Entry'} {i : Nat} (h : isIdx (readyP l) w 0 = some i) (hi : i < w.length) : settle l w = settle (l ++ [w[i]]) (w.eraseIdx i) := by
  unfold settle
  rw [List.length_eraseIdx_of_lt hi]
  obtain ⟨n, hn⟩ : ∃ n, w.length = n + 1 := ⟨w.length - 1, by omega⟩
  rw [hn]
  simp only [settleN, h, List.getElem?_eq_getElem hi, Nat.add_sub_cancel]
theorem readyP_behind {l : List Entry'} {e : Entry'} (he : e.err = 0) (hn : ∀ x ∈ l, x.id ≠ e.id) (h : readyP l e = true) : Behind l e := by
  unfold readyP at h
  rw [Bool.and_eq_true, decide_eq_true_eq, List.all_eq_true] at h
  exact ⟨he, hn, h.1, fun y hy => any_isThe.1 (h.2 y hy)⟩
/-- Numbers of a region of a right log: 1, 2, .. -/
theorem Right.num_le {l : List Entry'} (hr : Right l) {e : Entry'} (he : e ∈ l) : 1 ≤ e.id.n ∧ e.id.n ≤ (cnt e.id.r l : Int) := by
  obtain ⟨i, hi, rfl⟩ := List.getElem_of_mem he
  have h1 := (hr.get hi).num
  have h2 := cnt_succ l[i].id.r hi
  simp only [beq_self_eq_true, if_true] at h2
  have h3 : cnt l[i].id.r (l.take (i + 1)) ≤ cnt l[i].id.r l := (List.take_sublist (i + 1) l).countP_le
  omega
theorem Right.cnt_twenty {l : List Entry'} (hr : Right l) (r : Int) : cnt r l ≤ 20 := by
  rcases Nat.eq_zero_or_pos (cnt r l) with h | h
  · omega
  · -- the last of that region
    have key : ∀ k, k ≤ l.length → 0 < cnt r (l.take k) → ∃ e ∈ l, e.id.r = r ∧ e.id.n = (cnt r (l.take k) : Int) := by
      intro k
      induction k with
      | zero => intro _ h; simp [cnt] at h
      | succ k ih =>
        intro hk hc
        have hs := cnt_succ r (l := l) (i := k) hk
        by_cases hx : l[k].id.r = r
        · rw [if_pos (by simp [hx])] at hs
          refine ⟨l[k], List.getElem_mem hk, hx, ?_⟩
          have := (hr.get hk).num
          rw [hx] at this
          omega
        · rw [if_neg (by simp [hx])] at hs
          obtain ⟨e, he, h1, h2⟩ := ih (by omega) (by omega)
          exact ⟨e, he, h1, by omega⟩
    obtain ⟨e, he, h1, h2⟩ := key l.length (Nat.le_refl _) (by rw [List.take_of_length_le (Nat.le_refl _)]; exact h)
    rw [List.take_of_length_le (Nat.le_refl _)] at h2
    have hok := hr.ok he
    simp [Id.ok] at hok
    omega
/-- A right log with one more. -/
theorem Right.snoc {l : List Entry'} (hr : Right l) {e : Entry'} (h : Behind l e) : Right (l ++ [e]) := by
  have hat : ∀ a x b, l ++ [e] = a ++ x :: b → Behind a x := fun a x b hh => by
    rcases List.append_eq_append_iff.1 hh with ⟨c, h1, h2⟩ | ⟨c, h1, h2⟩
    · cases c with
      | nil =>
        simp only [List.append_nil, List.nil_append, List.cons.injEq] at h1 h2
        rw [h1, ← h2.1]; exact h
      | cons y c =>
        simp at h2
    · cases c with
      | nil =>
        simp only [List.append_nil, List.nil_append, List.cons.injEq] at h1 h2
        rw [← h1, h2.1]; exact h
      | cons y c =>
        simp only [List.cons_append, List.cons.injEq] at h2
        obtain ⟨rfl, _⟩ := h2
        exact hr.at' a x c h1
  refine ⟨?_, hat⟩
  have hok := ok_of_err h.err
  simp [Id.ok] at hok
  have h0 := cnt_all (l := l ++ [e]) fun x hx => by
    rcases List.mem_append.1 hx with hx | hx
    · exact hr.regs x hx
    · have : x = e := by simpa using hx
      rw [this]; exact r_of_ok (ok_of_err h.err)
  have a0 := hr.cnt_twenty 0
  have a1 := hr.cnt_twenty 1
  have hnum := h.num
  have s0 : cnt 0 (l ++ [e]) = cnt 0 l + if e.id.r == 0 then 1 else 0 := by simp [cnt, List.countP_append, List.countP_cons]
  have s1 : cnt 1 (l ++ [e]) = cnt 1 l + if e.id.r == 1 then 1 else 0 := by simp [cnt, List.countP_append, List.countP_cons]
  rcases r_of_ok (ok_of_err h.err) with hr0 | hr0
  · rw [hr0] at hnum s0 s1
    simp at s0 s1
    omega
  · rw [hr0] at hnum s0 s1
    simp at s0 s1
    omega
end Go.Proofs.YtlioojekjnigiaeGreat.AM
/- Logs: pasts of one that is a row of one's own. -/
namespace Go.Proofs.YtlioojekjnigiaeGreat.AM
set_option linter.unusedVariables false
set_option linter.unusedSimpArgs false
set_option maxHeartbeats 0 in
theorem pastOfOwn_ok {cl : Nat} {p : Entry' → Bool} (c : Int) (l : List Entry') (hl : l.length ≤ 40) (h6 : ∀ e ∈ l, e.links.length ≤ 6) (hcl : ∀ e ∈ l, PCall Tryz.prog cl [e.arg, .dat (.ptr [.int .i64 c])] (dBool (p e))) :
    ECall Tryz.prog 68 [.row 0, .fn (.func cl) [] [.ptr 1 0]] [(0, .rows 48 5 (l.map Entry'.enc) true), (1, .vars 3 1 [dInt c] true)] 2 (.dat (.list ((sortIds (pastFold p l)).map Id.enc))) [(0, .rows 48 5 (l.map Entry'.enc) true), (1, .vars 3 1 [dInt c] true)] 0 := by
  refine acall_intro tab_all tab_mixed Tryz.func68 (by kernel_rfl) Tryz.ntmps68 rfl ?_
  conv => whnf
  refine LoopOk.hide fun Q1 hQ1 => ?_
  refine LoopOk.mk (fun m s => ∃ k, k + m = l.length ∧ s = ⟨[(6, dInt ((l.length : Int) - 1 - k)), (0, .row 0), (1, .fn (.func cl) [] [.ptr 1 0]), (5, .row 2)], 3, [(0, .rows 48 5 (l.map Entry'.enc) true), (1, .vars 3 1 [dInt c] true), (2, .rows 45 2 ((pastFold p (l.drop (l.length - k))).map Id.enc) true)]⟩) l.length ((Into.row 5 45 2 rfl).trans fun s' hs' => by
    subst hs'
    exact Into.mono (Into.to [0, 1, 2] [(6, dInt ((l.length : Int) - 1 - (0 : Nat))), (0, .row 0), (1, .fn (.func cl) [] [.ptr 1 0]), (5, .row 2)] [(0, .rows 48 5 (l.map Entry'.enc) true), (1, .vars 3 1 [dInt c] true), (2, .rows 45 2 ((pastFold p (l.drop (l.length - 0))).map Id.enc) true)] ⟨.same (congrArg dInt (by rw [wrap_id (by simp; omega) (by simp; omega)]; simp)), .same rfl, .same rfl, .same rfl, trivial⟩ ⟨⟨rfl, rfl, rfl, rfl⟩, ⟨rfl, rfl, rfl, .same rfl, rfl, trivial⟩, ⟨rfl, rfl, rfl, by rw [List.drop_of_length_le (by omega)]; rfl⟩, trivial⟩ rfl rfl) fun s' h => ⟨0, by omega, h⟩) ?_
  rintro m s ⟨k, hk, rfl⟩
  conv => whnf
  repeat (first | (refine Conf.mk (by kernel_rfl) ?_; conv => whnf) | (refine SeqOk.go ?_; conv => whnf))
  refine ⟨fun h => ?_, fun h => ?_⟩
  · have hk' : k < l.length := by simp at h; omega
    have hsub : ((l.length : Int) - 1 - k) = ((l.length - 1 - k : Nat) : Int) := by omega
    have hlt : l.length - 1 - k < l.length := by omega
    have hfl := pastFold_len p (l := l.drop (l.length - k)) fun e he => h6 e (List.mem_of_mem_drop he)
    rw [List.length_drop] at hfl
    have hst : pastFold p (l.drop (l.length - (k + 1))) = if p l[l.length - 1 - k] || (pastFold p (l.drop (l.length - k))).any (isId2 l[l.length - 1 - k].id) then joinIds (pastFold p (l.drop (l.length - k))) l[l.length - 1 - k].links else pastFold p (l.drop (l.length - k)) := by
      rw [drop_last hk']
      rfl
    conv => whnf
    repeat (first | (refine Conf.mk (by kernel_rfl) ?_; conv => whnf) | (refine SeqOk.go ?_; conv => whnf))
    refine AtIdx.ofMap' _ hsub hlt rfl ?_
    conv => whnf
    repeat (first | (refine Conf.mk (by kernel_rfl) ?_; conv => whnf) | (refine SeqOk.go ?_; conv => whnf))
    refine .mk _ (by rw [List.getElem?_map, List.getElem?_eq_getElem hlt]; rfl) ?_
    conv => whnf
    repeat (first | (refine Conf.mk (by kernel_rfl) ?_; conv => whnf) | (refine SeqOk.go ?_; conv => whnf))
    refine .look _ _ (hcl _ (List.getElem_mem hlt)) rfl rfl ?_
    conv => whnf
    repeat (first | (refine Conf.mk (by kernel_rfl) ?_; conv => whnf) | (refine SeqOk.go ?_; conv => whnf))
    refine ⟨fun h3 => ?_, fun h3 => ?_⟩
    · have hc : (p l[l.length - 1 - k] || (pastFold p (l.drop (l.length - k))).any (isId2 l[l.length - 1 - k].id)) = true := by rw [h3]; rfl
      conv => whnf
      repeat (first | (refine Conf.mk (by kernel_rfl) ?_; conv => whnf) | (refine SeqOk.go ?_; conv => whnf))
      refine AtIdx.ofMap' _ hsub hlt rfl ?_
      conv => whnf
      repeat (first | (refine Conf.mk (by kernel_rfl) ?_; conv => whnf) | (refine SeqOk.go ?_; conv => whnf))
      refine .mk _ (by rw [List.getElem?_map, List.getElem?_eq_getElem hlt]; rfl) ?_
      conv => whnf
      repeat (first | (refine Conf.mk (by kernel_rfl) ?_; conv => whnf) | (refine SeqOk.go ?_; conv => whnf))
      refine .eff [2] _ _ _ _ 1 (join_ok _ _ (by omega) (by have := h6 _ (List.getElem_mem hlt); omega)) rfl rfl rfl rfl rfl ?_
      conv => whnf
      repeat (first | (refine Conf.mk (by kernel_rfl) ?_; conv => whnf) | (refine SeqOk.go ?_; conv => whnf))
      refine Into.mono (Into.to [0, 1, 3] [(6, dInt ((l.length : Int) - 1 - (k + 1 : Nat))), (0, .row 0), (1, .fn (.func cl) [] [.ptr 1 0]), (5, .row 2)] [(0, .rows 48 5 (l.map Entry'.enc) true), (1, .vars 3 1 [dInt c] true), (2, .rows 45 2 ((pastFold p (l.drop (l.length - (k + 1)))).map Id.enc) true)] ⟨.same (congrArg dInt (by rw [wrap_id (by omega) (by omega)]; omega)), .same rfl, .same rfl, .same rfl, trivial⟩ ⟨⟨rfl, rfl, rfl, rfl⟩, ⟨rfl, rfl, rfl, .same rfl, rfl, trivial⟩, ⟨rfl, rfl, rfl, ?_⟩, trivial⟩ rfl rfl) fun s' h => ⟨m - 1, by omega, k + 1, by omega, h⟩
      rw [hst, if_pos hc]
    · conv => whnf
      repeat (first | (refine Conf.mk (by kernel_rfl) ?_; conv => whnf) | (refine SeqOk.go ?_; conv => whnf))
      refine AtIdx.ofMap' _ hsub hlt rfl ?_
      conv => whnf
      repeat (first | (refine Conf.mk (by kernel_rfl) ?_; conv => whnf) | (refine SeqOk.go ?_; conv => whnf))
      refine .mk _ (by rw [List.getElem?_map, List.getElem?_eq_getElem hlt]; rfl) ?_
      conv => whnf
      repeat (first | (refine Conf.mk (by kernel_rfl) ?_; conv => whnf) | (refine SeqOk.go ?_; conv => whnf))
      refine .look _ _ (containsId_ok l[l.length - 1 - k].id (pastFold p (l.drop (l.length - k))) (by omega)) rfl rfl ?_
      conv => whnf
      repeat (first | (refine Conf.mk (by kernel_rfl) ?_; conv => whnf) | (refine SeqOk.go ?_; conv => whnf))
      refine ⟨fun h4 => ?_, fun h4 => ?_⟩
      · have hc : (p l[l.length - 1 - k] || (pastFold p (l.drop (l.length - k))).any (isId2 l[l.length - 1 - k].id)) = true := by rw [h3, h4]; rfl
        conv => whnf
        repeat (first | (refine Conf.mk (by kernel_rfl) ?_; conv => whnf) | (refine SeqOk.go ?_; conv => whnf))
        refine AtIdx.ofMap' _ hsub hlt rfl ?_
        conv => whnf
        repeat (first | (refine Conf.mk (by kernel_rfl) ?_; conv => whnf) | (refine SeqOk.go ?_; conv => whnf))
        refine .mk _ (by rw [List.getElem?_map, List.getElem?_eq_getElem hlt]; rfl) ?_
        conv => whnf
        repeat (first | (refine Conf.mk (by kernel_rfl) ?_; conv => whnf) | (refine SeqOk.go ?_; conv => whnf))
        refine .eff [2] _ _ _ _ 1 (join_ok _ _ (by omega) (by have := h6 _ (List.getElem_mem hlt); omega)) rfl rfl rfl rfl rfl ?_
        conv => whnf
        repeat (first | (refine Conf.mk (by kernel_rfl) ?_; conv => whnf) | (refine SeqOk.go ?_; conv => whnf))
        refine Into.mono (Into.to [0, 1, 3] [(6, dInt ((l.length : Int) - 1 - (k + 1 : Nat))), (0, .row 0), (1, .fn (.func cl) [] [.ptr 1 0]), (5, .row 2)] [(0, .rows 48 5 (l.map Entry'.enc) true), (1, .vars 3 1 [dInt c] true), (2, .rows 45 2 ((pastFold p (l.drop (l.length - (k + 1)))).map Id.enc) true)] ⟨.same (congrArg dInt (by rw [wrap_id (by omega) (by omega)]; omega)), .same rfl, .same rfl, .same rfl, trivial⟩ ⟨⟨rfl, rfl, rfl, rfl⟩, ⟨rfl, rfl, rfl, .same rfl, rfl, trivial⟩, ⟨rfl, rfl, rfl, ?_⟩, trivial⟩ rfl rfl) fun s' h => ⟨m - 1, by omega, k + 1, by omega, h⟩
        rw [hst, if_pos hc]
      · conv => whnf
        repeat (first | (refine Conf.mk (by kernel_rfl) ?_; conv => whnf) | (refine SeqOk.go ?_; conv => whnf))
        refine Into.mono (Into.to [0, 1, 2] [(6, dInt ((l.length : Int) - 1 - (k + 1 : Nat))), (0, .row 0), (1, .fn (.func cl) [] [.ptr 1 0]), (5, .row 2)] [(0, .rows 48 5 (l.map Entry'.enc) true), (1, .vars 3 1 [dInt c] true), (2, .rows 45 2 ((pastFold p (l.drop (l.length - (k + 1)))).map Id.enc) true)] ⟨.same (congrArg dInt (by rw [wrap_id (by omega) (by omega)]; omega)), .same rfl, .same rfl, .same rfl, trivial⟩ ⟨⟨rfl, rfl, rfl, rfl⟩, ⟨rfl, rfl, rfl, .same rfl, rfl, trivial⟩, ⟨rfl, rfl, rfl, ?_⟩, trivial⟩ rfl rfl) fun s' h => ⟨m - 1, by omega, k + 1, by omega, h⟩
        rw [hst, if_neg (by rw [h3, h4]; simp)]
  · have hk' : k = l.length := by simp at h; omega
    subst hk'
    conv => whnf
    repeat (first | (refine Conf.mk (by kernel_rfl) ?_; conv => whnf) | (refine SeqOk.go ?_; conv => whnf))
    subst hQ1
    conv => whnf
    have hfl := pastFold_len p h6
    rw [show l.length - l.length = 0 by omega, List.drop_zero]
    refine .eff [2] _ _ _ _ 0 (sortFunc_ok _ (by omega)) rfl rfl rfl rfl rfl ?_
    conv => whnf
    repeat (first | (refine Conf.mk (by kernel_rfl) ?_; conv => whnf) | (refine SeqOk.go ?_; conv => whnf))
    exact .mk [2] [0, 1] (.dat (.list ((sortIds (pastFold p l)).map Id.enc))) [(0, .rows 48 5 (l.map Entry'.enc) true), (1, .vars 3 1 [dInt c] true)] rfl (.data rfl) ⟨⟨rfl, rfl, rfl, rfl⟩, ⟨rfl, rfl, rfl, .same rfl, rfl, trivial⟩, trivial⟩ rfl rfl ⟨rfl, rfl, rfl⟩
set_option maxHeartbeats 0 in
theorem idsOfOwn_ok {cl : Nat} {p : Entry' → Bool} (c : Int) (past : List Id) (l : List Entry') (hl : l.length ≤ 40) (hcl : ∀ e ∈ l, PCall Tryz.prog cl [e.arg, .dat (.ptr [.fn (.func 110) [] [.ptr [.int .i64 c]]]), .dat (.ptr [.list (past.map Id.enc)])] (dBool (p e))) :
    ECall Tryz.prog 111 [.row 0, .fn (.func cl) [] [.ptr 2 0, .ptr 3 0]] [(0, .rows 48 5 (l.map Entry'.enc) true), (1, .vars 3 1 [dInt c] true), (2, .vars 110 1 [.fn (.func 110) [] [.ptr 1 0]] true), (3, .vars 46 1 [.dat (.list (past.map Id.enc))] true)] 4 (.dat (.list ((sortIds ((l.filter p).map (·.id))).map Id.enc))) [(0, .rows 48 5 (l.map Entry'.enc) true), (1, .vars 3 1 [dInt c] true), (2, .vars 110 1 [.fn (.func 110) [] [.ptr 1 0]] true), (3, .vars 46 1 [.dat (.list (past.map Id.enc))] true)] 0 := by
  refine acall_intro tab_all tab_mixed Tryz.func111 (by kernel_rfl) Tryz.ntmps111 rfl ?_
  conv => whnf
  refine LoopOk.hide fun Q1 hQ1 => ?_
  refine LoopOk.mk (fun m s => ∃ k, k + m = l.length ∧ s = ⟨[(10, dInt k), (9, dInt (l.map Entry'.enc).length), (8, .row 0), (1, .fn (.func cl) [] [.ptr 2 0, .ptr 3 0]), (5, .row 4)], 5, [(0, .rows 48 5 (l.map Entry'.enc) true), (1, .vars 3 1 [dInt c] true), (2, .vars 110 1 [.fn (.func 110) [] [.ptr 1 0]] true), (3, .vars 46 1 [.dat (.list (past.map Id.enc))] true), (4, .rows 45 2 ((((l.take k).filter p).map (·.id)).map Id.enc) true)]⟩) l.length ((Into.row 5 45 2 rfl).trans fun s' hs' => by
    subst hs'
    exact Into.mono (Into.to [0, 1, 2, 3, 4] [(10, dInt (0 : Nat)), (9, dInt (l.map Entry'.enc).length), (8, .row 0), (1, .fn (.func cl) [] [.ptr 2 0, .ptr 3 0]), (5, .row 4)] [(0, .rows 48 5 (l.map Entry'.enc) true), (1, .vars 3 1 [dInt c] true), (2, .vars 110 1 [.fn (.func 110) [] [.ptr 1 0]] true), (3, .vars 46 1 [.dat (.list (past.map Id.enc))] true), (4, .rows 45 2 ((((l.take 0).filter p).map (·.id)).map Id.enc) true)] (by repeat (first | exact trivial | refine ⟨.same (congrArg dInt (wrap_up (by omega))), ?_⟩ | refine ⟨.same rfl, ?_⟩ | refine ⟨.any _, ?_⟩)) ⟨⟨rfl, rfl, rfl, rfl⟩, ⟨rfl, rfl, rfl, .same rfl, rfl, trivial⟩, ⟨rfl, rfl, rfl, .same rfl, rfl, trivial⟩, ⟨rfl, rfl, rfl, .same rfl, rfl, trivial⟩, ⟨rfl, rfl, rfl, rfl⟩, trivial⟩ rfl rfl) fun s' h => ⟨0, by omega, h⟩) ?_
  rintro m s ⟨k, hk, rfl⟩
  conv => whnf
  repeat (first | (refine Conf.mk (by kernel_rfl) ?_; conv => whnf) | (refine SeqOk.go ?_; conv => whnf))
  refine ⟨fun h => ?_, fun h => ?_⟩
  · have hk' : k < l.length := by simpa using h
    have hst := filter_snoc p (List.getElem?_eq_getElem hk')
    have hfl := List.length_filter_le p (l.take k)
    rw [List.length_take] at hfl
    conv => whnf
    repeat (first | (refine Conf.mk (by kernel_rfl) ?_; conv => whnf) | (refine SeqOk.go ?_; conv => whnf))
    refine AtIdx.ofMap hk' rfl ?_
    conv => whnf
    repeat (first | (refine Conf.mk (by kernel_rfl) ?_; conv => whnf) | (refine SeqOk.go ?_; conv => whnf))
    refine .mk _ (by rw [List.getElem?_map, List.getElem?_eq_getElem hk']; rfl) ?_
    conv => whnf
    repeat (first | (refine Conf.mk (by kernel_rfl) ?_; conv => whnf) | (refine SeqOk.go ?_; conv => whnf))
    refine .look _ _ (hcl _ (List.getElem_mem hk')) rfl rfl ?_
    conv => whnf
    repeat (first | (refine Conf.mk (by kernel_rfl) ?_; conv => whnf) | (refine SeqOk.go ?_; conv => whnf))
    refine ⟨fun h3 => ?_, fun h3 => ?_⟩
    · rw [if_pos h3] at hst
      conv => whnf
      repeat (first | (refine Conf.mk (by kernel_rfl) ?_; conv => whnf) | (refine SeqOk.go ?_; conv => whnf))
      refine ⟨by simp [Id.enc], by simp; omega, ?_⟩
      conv => whnf
      repeat (first | (refine Conf.mk (by kernel_rfl) ?_; conv => whnf) | (refine SeqOk.go ?_; conv => whnf))
      refine Into.mono (Into.to [0, 1, 2, 3, 7] [(10, dInt (k + 1 : Nat)), (9, dInt (l.map Entry'.enc).length), (8, .row 0), (1, .fn (.func cl) [] [.ptr 2 0, .ptr 3 0]), (5, .row 4)] [(0, .rows 48 5 (l.map Entry'.enc) true), (1, .vars 3 1 [dInt c] true), (2, .vars 110 1 [.fn (.func 110) [] [.ptr 1 0]] true), (3, .vars 46 1 [.dat (.list (past.map Id.enc))] true), (4, .rows 45 2 ((((l.take (k + 1)).filter p).map (·.id)).map Id.enc) true)] (by repeat (first | exact trivial | refine ⟨.same (congrArg dInt (wrap_up (by omega))), ?_⟩ | refine ⟨.same rfl, ?_⟩ | refine ⟨.any _, ?_⟩)) ⟨⟨rfl, rfl, rfl, rfl⟩, ⟨rfl, rfl, rfl, .same rfl, rfl, trivial⟩, ⟨rfl, rfl, rfl, .same rfl, rfl, trivial⟩, ⟨rfl, rfl, rfl, .same rfl, rfl, trivial⟩, ⟨rfl, rfl, rfl, ?_⟩, trivial⟩ rfl rfl) fun s' h => ⟨m - 1, by omega, k + 1, by omega, h⟩
      rw [hst, List.map_append, List.map_append]
      rfl
    · rw [if_neg (by simp [h3]), List.append_nil] at hst
      conv => whnf
      repeat (first | (refine Conf.mk (by kernel_rfl) ?_; conv => whnf) | (refine SeqOk.go ?_; conv => whnf))
      refine Into.mono (Into.to [0, 1, 2, 3, 4] [(10, dInt (k + 1 : Nat)), (9, dInt (l.map Entry'.enc).length), (8, .row 0), (1, .fn (.func cl) [] [.ptr 2 0, .ptr 3 0]), (5, .row 4)] [(0, .rows 48 5 (l.map Entry'.enc) true), (1, .vars 3 1 [dInt c] true), (2, .vars 110 1 [.fn (.func 110) [] [.ptr 1 0]] true), (3, .vars 46 1 [.dat (.list (past.map Id.enc))] true), (4, .rows 45 2 ((((l.take (k + 1)).filter p).map (·.id)).map Id.enc) true)] (by repeat (first | exact trivial | refine ⟨.same (congrArg dInt (wrap_up (by omega))), ?_⟩ | refine ⟨.same rfl, ?_⟩ | refine ⟨.any _, ?_⟩)) ⟨⟨rfl, rfl, rfl, rfl⟩, ⟨rfl, rfl, rfl, .same rfl, rfl, trivial⟩, ⟨rfl, rfl, rfl, .same rfl, rfl, trivial⟩, ⟨rfl, rfl, rfl, .same rfl, rfl, trivial⟩, ⟨rfl, rfl, rfl, ?_⟩, trivial⟩ rfl rfl) fun s' h => ⟨m - 1, by omega, k + 1, by omega, h⟩
      rw [hst]
  · have hk' : l.length ≤ k := by simpa using h
    rw [List.take_of_length_le hk']
    conv => whnf
    repeat (first | (refine Conf.mk (by kernel_rfl) ?_; conv => whnf) | (refine SeqOk.go ?_; conv => whnf))
    subst hQ1
    conv => whnf
    have hfl := List.length_filter_le p l
    refine .eff [4] _ _ _ _ 0 (sortFunc_ok _ (by rw [List.length_map]; omega)) rfl rfl rfl rfl rfl ?_
    conv => whnf
    repeat (first | (refine Conf.mk (by kernel_rfl) ?_; conv => whnf) | (refine SeqOk.go ?_; conv => whnf))
    exact .mk [4] [0, 1, 2, 3] (.dat (.list ((sortIds ((l.filter p).map (·.id))).map Id.enc))) [(0, .rows 48 5 (l.map Entry'.enc) true), (1, .vars 3 1 [dInt c] true), (2, .vars 110 1 [.fn (.func 110) [] [.ptr 1 0]] true), (3, .vars 46 1 [.dat (.list (past.map Id.enc))] true)] rfl (.data rfl) ⟨⟨rfl, rfl, rfl, rfl⟩, ⟨rfl, rfl, rfl, .same rfl, rfl, trivial⟩, ⟨rfl, rfl, rfl, .same rfl, rfl, trivial⟩, ⟨rfl, rfl, rfl, .same rfl, rfl, trivial⟩, trivial⟩ rfl rfl ⟨rfl, rfl, rfl⟩
end Go.Proofs.YtlioojekjnigiaeGreat.AM
/- One more in the midst of a row of one's own, told as a call. -/
namespace Go.Proofs.YtlioojekjnigiaeGreat.AM
open Go.RowKit
set_option linter.unusedVariables false
set_option linter.unusedSimpArgs false

theorem get_two {e0 e1 : Entry} {h : Nat} : Heap.get [(0, e0), (1, e1)] h = if h = 0 then e0 else if h = 1 then e1 else .dead := by
  match h with
  | 0 => rfl
  | 1 => rfl
  | h + 2 => rfl
theorem get_three {e : Entry} {h : Nat} : Heap.get [(0, .dead), (1, .dead), (2, e)] h = if h = 2 then e else .dead := by
  match h with
  | 0 => rfl
  | 1 => rfl
  | 2 => rfl
  | h + 3 => rfl
/-- The cells of a row that is one's own. -/
theorem row_cells {k : Nat} {cur : Array Value} {es : List (List D)} {A : View} (hs : ∀ e ∈ es, e.length = k) (hle : es.length * k ≤ cur.size)
    (h6 : ∀ i e, es[i]? = some e → ∀ j d, e[j]? = some d → Rep A (cur.getD (i * k + j) undef) d) : ∀ u ∈ cur.toList.take (es.length * k), u.oneCell' = true := fun u hu => by
  obtain ⟨p, hp, rfl⟩ := List.mem_take_iff_getElem.1 hu
  have hp2 : p < es.length * k := by omega
  have hk0 : 0 < k := by
    rcases Nat.eq_zero_or_pos k with h | h
    · subst h; simp at hp2
    · exact h
  have hi : p / k < es.length := Nat.div_lt_of_lt_mul (by rw [Nat.mul_comm]; exact hp2)
  have hm : p % k < k := Nat.mod_lt _ hk0
  have hd : (es[p / k])[p % k]? = some ((es[p / k])[p % k]'(by rw [hs _ (List.getElem_mem hi)]; exact hm)) := List.getElem?_eq_getElem _
  have := (h6 (p / k) es[p / k] (List.getElem?_eq_getElem hi) (p % k) _ hd).one
  rw [Nat.mul_comm, Nat.div_add_mod] at this
  have hpc : p < cur.size := by omega
  rw [Array.getD_eq_getD_getElem?, Array.getElem?_eq_getElem hpc, Option.getD_some] at this
  simpa using this
theorem acall_insert {P : Program} {f T k : Nat} (hk0 : 0 < k) (hcall : callable P f = true) (es : List (List D)) (x : List D) (i : Nat) (hi : i < es.length) (hn : es.length ≤ 1000)
    (hins : ∀ (n i : Nat) (v : Value) (cs xs : List Value) (vb vc : Nat) (xv : Array Value) (w : World), w.ownsRow 0 T k v n cs → w.heap[vb]? = some (.cells xv T (0, 0)) → v.ownBlock ≠ some vb → xs.length = k → xv.toList.take k = xs → xv.size = vc * k → 1 ≤ vc → (∀ u ∈ xs, u.oneCell' = true) → (∀ u ∈ cs, u.oneCell' = true) → n ≤ 1000 → i ≤ n →
      Calls P f #[v, .int .i64 i, .slice (some ⟨vb, 0, none⟩) 1 vc] w fun e w' => ∃ g cap, e = .returned (.slice (some ⟨g, 0, none⟩) (n + 1) cap) ∧ w'.ownsRow 0 T k (.slice (some ⟨g, 0, none⟩) (n + 1) cap) (n + 1) (cs.take (i * k) ++ xs ++ cs.drop (i * k)) ∧ w.grownBy w' v.ownBlock ∧ (v.ownBlock = some g ∨ w.heap.size ≤ g)) :
    ECall P f [.row 0, .dat (.int .i64 i), .row 1] [(0, .rows T k es true), (1, .rows T k [x] true)] 2 (.row 2) [(0, .dead), (1, .dead), (2, .rows T k (es.take i ++ x :: es.drop i) true)] 1 := by
  refine ⟨hcall, fun r A w vs hr hc hs hv => ?_⟩
  obtain ⟨v0, v1, v2, rfl⟩ : ∃ v0 v1 v2, vs = #[v0, v1, v2] := by
    match vs, hs with
    | ⟨[v0, v1, v2]⟩, _ => exact ⟨v0, v1, v2, rfl⟩
  have h0 : VRel r A v0 (.row 0) := hv 0 _ rfl
  have h1 : VRel r A v1 (.dat (.int .i64 i)) := hv 1 _ rfl
  have h2 : VRel r A v2 (.row 1) := hv 2 _ rfl
  obtain rfl : v1 = .int .i64 i := by
    cases h1 with | dat hr => cases hr; rfl
  have e0 := hc.ent 0
  have e1 := hc.ent 1
  rw [get_two, if_pos rfl] at e0
  rw [get_two, if_neg (by decide), if_pos rfl] at e1
  obtain ⟨k0, ⟨q1, q2⟩ | ⟨g, cap, cur, a1, a2, a3, a4, a5, a6, a7⟩⟩ := e0
  · subst q2; simp at hi
  obtain ⟨k1, ⟨q1, q2⟩ | ⟨vb, vc, xv, b1, b2, b3, b4, b5, b6, b7⟩⟩ := e1
  · cases q2
  cases h0 with
  | rowNil _ a ha hb => rw [hb] at a1; cases a1
  | row _ b n cap' hb =>
  rw [hb] at a1
  simp only [Option.some.injEq, Loc.mk.injEq] at a1
  obtain ⟨rfl, rfl, rfl⟩ := a1
  cases h2 with
  | rowNil _ a ha hb2 => rw [hb2] at b1; cases b1
  | row _ b2' n2 cap2 hb2 =>
  rw [hb2] at b1
  simp only [Option.some.injEq, Loc.mk.injEq, List.length_singleton] at b1
  obtain ⟨rfl, rfl, rfl⟩ := b1
  have hxl : x.length = k := k1 x (by simp)
  have hne : b ≠ b2' := fun e => by
    have := hc.dis 0 1 b rfl rfl (by simp [Rho.blk, hb]) (by simp [Rho.blk, hb2, e])
    cases this
  have hlen : es.length * k ≤ cur.size := by rw [a3]; exact Nat.mul_le_mul_right _ a5
  have hvlen : 1 * k ≤ xv.size := by rw [b3]; exact Nat.mul_le_mul_right _ b5
  rw [Nat.one_mul] at hvlen
  let cs := cur.toList.take (es.length * k)
  let xs := xv.toList.take k
  have hcsl : cs.length = es.length * k := by simp [cs]; omega
  have hxsl : xs.length = k := by simp [xs]; omega
  have hown : w.ownsRow 0 T k (.slice (some ⟨b, 0, none⟩) es.length cap') es.length cs := ⟨hcsl, .inr ⟨b, cap', cur, rfl, Nat.zero_le _, a2, a5, a4, a3, rfl⟩⟩
  refine (hins es.length i _ cs xs b2' cap2 xv w hown b2 (fun e => hne (by simpa [Value.ownBlock] using e)) hxsl rfl b3 b5 (fun u hu => ?_) (fun u hu => row_cells k0 hlen a6 u hu) hn (by omega)).mono fun e w' he => ?_
  · have := row_cells (es := [x]) k1 (by simpa using hvlen) b6 u
    simp only [List.length_singleton, Nat.one_mul] at this
    exact this hu
  obtain ⟨g', cap3, rfl, ho, hgr, hat⟩ := he
  obtain ⟨hol, ⟨q1, _⟩ | ⟨g2, cap4, cur', q1, _, hg', hle', hcm', hsz', ht'⟩⟩ := ho
  · cases q1
  simp only [Value.slice.injEq, Option.some.injEq, Addr.mk.injEq, and_true, true_and] at q1
  obtain ⟨rfl, rfl⟩ := q1
  have hr2 : r 2 = none := hr 2 (Nat.le_refl _)
  have hsub := Rho.set_sub (l := ⟨some g', es.length + 1, cap3⟩) hr2
  have hlb : ∀ x, LiveB r (Heap.get [(0, .rows T k es true), (1, .rows T k [x] true)]) b := fun x => ⟨0, rfl, by simp [Rho.blk, hb]⟩
  have hAg : ∀ o, A g' o = none := fun o => by
    rcases hat with e | e
    · have : b = g' := by simpa [Value.ownBlock] using e
      rw [← this]; exact a7 o
    · cases hA : A g' o with
      | none => rfl
      | some v => have := hc.view_lt hA; omega
  have hfr : Fr w A w' A (fun x => x = b) := ⟨hgr.os, hgr.tape, hgr.output, hgr.size, fun y hy hny => hgr.block y hy (by simpa [Value.ownBlock] using hny), Sub.refl A, fun _ _ _ => rfl⟩
  have hnew : (es.take i ++ x :: es.drop i).length = es.length + 1 := by simp; omega
  refine ⟨_, r.set 2 ⟨some g', es.length + 1, cap3⟩, A, .row 2, _, 3, rfl, ⟨rfl, rfl, rfl⟩, by decide, fun h hh => Rho.set_ne (by omega), fun h hh => (Rho.set_ne (by omega)).trans (hr h (by omega)), ⟨fun b3 o v hA => ?_, fun h => ?_, fun h h' b3 hl hl' _ _ => ?_⟩, .row 2 g' _ cap3 Rho.set_same, hfr.weaken fun y hy => by rw [hy]; exact hlb x, fun b3 hb3 => ?_⟩
  · have hv3 := hc.view b3 o v hA
    have hny : b3 ≠ b := fun e => by rw [e, a7] at hA; cases hA
    rw [← hv3]
    exact World.cell?_of_block (w := w) (hfr.block b3 (cell_lt' hv3) hny)
  · rw [get_three]
    by_cases hh : h = 2
    · subst hh
      rw [if_pos rfl]
      refine ⟨fun e he => ?_, .inr ⟨g', cap3, cur', by rw [Rho.set_same, hnew], hg', hsz', hcm', by rw [hnew]; exact hle', fun i' e he j d hd => ?_, hAg⟩⟩
      · rcases List.mem_append.1 he with he | he
        · exact k0 e (List.mem_of_mem_take he)
        · rcases List.mem_cons.1 he with rfl | he
          · exact hxl
          · exact k0 e (List.mem_of_mem_drop he)
      · have hi' : i' < es.length + 1 := by rw [← hnew]; exact (List.getElem?_eq_some_iff.1 he).1
        have hel : e.length = k := by
          rcases List.mem_append.1 (List.mem_of_getElem? he) with he | he
          · exact k0 e (List.mem_of_mem_take he)
          · rcases List.mem_cons.1 he with rfl | he
            · exact hxl
            · exact k0 e (List.mem_of_mem_drop he)
        have hj : j < k := by rw [← hel]; exact (List.getElem?_eq_some_iff.1 hd).1
        have hpos : i' * k + j < (es.length + 1) * k := by
          have h5 : (i' + 1) * k ≤ (es.length + 1) * k := Nat.mul_le_mul_right _ hi'
          rw [Nat.add_mul, Nat.one_mul] at h5
          omega
        have hcell : cur'.getD (i' * k + j) undef = ((cs.take (i * k) ++ xs ++ cs.drop (i * k))[i' * k + j]?).getD undef := by
          rw [← ht', List.getElem?_take, if_pos hpos, Array.getElem?_toList, Array.getD_eq_getD_getElem?]
        rw [hcell]
        have hti : (cs.take (i * k)).length = i * k := by
          rw [List.length_take, hcsl]
          exact Nat.min_eq_left (Nat.mul_le_mul_right _ (by omega))
        have csg : ∀ p, p < es.length * k → cs[p]? = cur[p]? := fun p hp => by
          simp only [cs]
          rw [List.getElem?_take, if_pos hp, Array.getElem?_toList]
        rcases Nat.lt_trichotomy i' i with hlt | heq | hgt
        · rw [List.getElem?_append_left (by simp; omega)] at he
          rw [List.getElem?_take, if_pos hlt] at he
          have hp1 : i' * k + j < i * k := by
            have h5 : (i' + 1) * k ≤ i * k := Nat.mul_le_mul_right _ hlt
            rw [Nat.add_mul, Nat.one_mul] at h5
            omega
          rw [List.append_assoc, List.getElem?_append_left (by rw [hti]; exact hp1), List.getElem?_take, if_pos hp1, csg _ (Nat.lt_of_lt_of_le hp1 (Nat.mul_le_mul_right _ (by omega))), ← Array.getD_eq_getD_getElem?]
          exact a6 i' e he j d hd
        · subst heq
          rw [List.getElem?_append_right (by simp; omega)] at he
          have : i' - (es.take i').length = 0 := by simp; omega
          rw [this] at he
          obtain rfl : x = e := by simpa using he
          rw [List.append_assoc, List.getElem?_append_right (by rw [hti]; omega), hti, show i' * k + j - i' * k = j by omega, List.getElem?_append_left (by rw [hxsl]; exact hj)]
          simp only [xs]
          rw [List.getElem?_take, if_pos hj, Array.getElem?_toList, ← Array.getD_eq_getD_getElem?]
          have := b6 0 x rfl j d hd
          rwa [Nat.zero_mul, Nat.zero_add] at this
        · rw [List.getElem?_append_right (by simp; omega)] at he
          have hsub1 : i' - (es.take i).length = (i' - 1 - i) + 1 := by simp; omega
          rw [hsub1, List.getElem?_cons_succ, List.getElem?_drop, show i + (i' - 1 - i) = i' - 1 by omega] at he
          have hp2 : i * k + k ≤ i' * k + j := by
            have h5 : (i + 1) * k ≤ i' * k := Nat.mul_le_mul_right _ hgt
            rw [Nat.add_mul, Nat.one_mul] at h5
            omega
          have hp3 : i' * k + j - k = (i' - 1) * k + j := by
            rw [Nat.sub_mul, Nat.one_mul]
            have h5 : 1 * k ≤ i' * k := Nat.mul_le_mul_right _ (by omega)
            rw [Nat.one_mul] at h5
            omega
          have h7 : (es.length + 1) * k = es.length * k + k := by rw [Nat.add_mul, Nat.one_mul]
          have h9 : (i' - 1) * k + j < es.length * k := by
            have h5 : 1 * k ≤ i' * k := Nat.mul_le_mul_right _ (by omega)
            rw [Nat.one_mul] at h5
            omega
          rw [List.getElem?_append_right (by rw [List.length_append, hti, hxsl]; exact hp2), List.length_append, hti, hxsl, List.getElem?_drop, show i * k + (i' * k + j - (i * k + k)) = i' * k + j - k by omega, hp3, csg _ h9, ← Array.getD_eq_getD_getElem?]
          exact a6 (i' - 1) e he j d hd
    · rw [if_neg hh]; trivial
  · rw [get_three] at hl hl'
    by_cases hh : h = 2
    · by_cases hh' : h' = 2
      · rw [hh, hh']
      · rw [if_neg hh'] at hl'; cases hl'
    · rw [if_neg hh] at hl; cases hl
  · obtain ⟨h, hl, hbb⟩ := hb3
    rw [get_three] at hl
    by_cases hh : h = 2
    · subst hh
      obtain rfl : g' = b3 := by simpa [Rho.blk, Rho.set_same] using hbb
      rcases hat with e | e
      · have : b = g' := by simpa [Value.ownBlock] using e
        rw [← this]; exact .inl (hlb x)
      · exact .inr e
    · rw [if_neg hh] at hl; cases hl
end Go.Proofs.YtlioojekjnigiaeGreat.AM
/- Orders: what must be of ids that are handed in; orders or not. -/
namespace Go.Proofs.YtlioojekjnigiaeGreat.AM
set_option linter.unusedVariables false
set_option linter.unusedSimpArgs false

def idsLoop (l : List Entry') (ahead : List Id) : List Id → Int
  | [] => 0
  | x :: t => if l.any (isThe x) = false then 5 else if hasId ahead x = true then 6 else idsLoop l (ahead ++ [x]) t
def idsErr (l : List Entry') (ids : List Id) : Int := if logErr l = 0 then idsLoop l [] ids else logErr l
theorem idsLoop_iff {l : List Entry'} : ∀ {t ahead : List Id}, idsLoop l ahead t = 0 ↔ (∀ x ∈ t, ∃ e ∈ l, e.id = x) ∧ (∀ x ∈ t, x ∉ ahead) ∧ t.Nodup
  | [], ahead => by simp [idsLoop]
  | x :: t, ahead => by
    unfold idsLoop
    by_cases h1 : l.any (isThe x) = false
    · rw [if_pos h1]
      refine ⟨fun h => by simp at h, fun h => ?_⟩
      have := any_isThe.2 (h.1 x (by simp))
      rw [h1] at this; cases this
    · rw [if_neg h1]
      have h1' : ∃ e ∈ l, e.id = x := any_isThe.1 (by simpa using h1)
      by_cases h2 : hasId ahead x = true
      · rw [if_pos h2]
        refine ⟨fun h => by simp at h, fun h => absurd (hasId_iff.1 h2) (h.2.1 x (by simp))⟩
      · rw [if_neg h2, idsLoop_iff (t := t)]
        have h2' : x ∉ ahead := fun h => h2 (hasId_iff.2 h)
        constructor
        · rintro ⟨k1, k2, k3⟩
          refine ⟨fun y hy => ?_, fun y hy => ?_, List.nodup_cons.2 ⟨fun hx => k2 x hx (by simp), k3⟩⟩
          · rcases List.mem_cons.1 hy with rfl | hy
            · exact h1'
            · exact k1 y hy
          · rcases List.mem_cons.1 hy with rfl | hy
            · exact h2'
            · exact fun hh => k2 y hy (by simp [hh])
        · rintro ⟨k1, k2, k3⟩
          rw [List.nodup_cons] at k3
          refine ⟨fun y hy => k1 y (by simp [hy]), fun y hy hm => ?_, k3.2⟩
          rcases List.mem_append.1 hm with hm | hm
          · exact k2 y (by simp [hy]) hm
          · simp only [List.mem_singleton] at hm
            subst hm
            exact k3.1 hy
theorem idsErr_ok {l : List Entry'} {ids : List Id} (h : idsErr l ids = 0) : Right l ∧ (∀ x ∈ ids, ∃ e ∈ l, e.id = x) ∧ ids.Nodup := by
  unfold idsErr at h
  split at h
  · rename_i h1
    obtain ⟨k1, _, k3⟩ := idsLoop_iff.1 h
    exact ⟨right_iff.1 h1, k1, k3⟩
  · rename_i h1; exact absurd h h1
theorem nodup_len : ∀ {a b : List Id}, a.Nodup → (∀ x ∈ a, x ∈ b) → a.length ≤ b.length
  | [], b, _, _ => Nat.zero_le _
  | x :: t, b, h, hs => by
    rw [List.nodup_cons] at h
    have hx := hs x (by simp)
    have := nodup_len (a := t) (b := b.erase x) h.2 fun y hy => (List.mem_erase_of_ne (fun e => h.1 (by rw [← e]; exact hy))).2 (hs y (by simp [hy]))
    rw [List.length_erase_of_mem hx] at this
    have := List.length_pos_of_mem hx
    simp only [List.length_cons]
    omega
/-- Ids of a log, each once, are no more than it. -/
theorem ids_len {l : List Entry'} {ids : List Id} (h1 : ∀ x ∈ ids, ∃ e ∈ l, e.id = x) (h2 : ids.Nodup) : ids.length ≤ l.length := by
  have := nodup_len (b := l.map (·.id)) h2 fun x hx => by
    obtain ⟨e, he, rfl⟩ := h1 x hx
    exact List.mem_map_of_mem he
  simpa using this
end Go.Proofs.YtlioojekjnigiaeGreat.AM
/- Orders: is it one; may one come. -/
namespace Go.Proofs.YtlioojekjnigiaeGreat.AM
set_option linter.unusedVariables false
set_option linter.unusedSimpArgs false
theorem map_drop' {α β : Type} {f : α → β} {l : List α} {i : Nat} : (l.map f).drop i = (l.drop i).map f := by rw [List.map_drop]
theorem map_take' {α β : Type} {f : α → β} {l : List α} {i : Nat} : (l.map f).take i = (l.take i).map f := by rw [List.map_take]
set_option maxHeartbeats 0 in
theorem indexFunc_id {cl : Nat} {ds : List D} {ids : List Id} {p : Id → Bool} (hl : ids.length ≤ 140737488355327) (hcl : ∀ x ∈ ids, PCall Tryz.prog cl [x.arg, .dat (.ptr ds)] (dBool (p x))) :
    PCall Tryz.prog 128 [.dat (.list (ids.map Id.enc)), .fn (.func cl) [] [.dat (.ptr ds)]] (dInt (idxOf (isIdx p ids 0))) := by
  refine pcall_cut tab_all tab_mixed Tryz.func128 (by kernel_rfl) Tryz.ntmps128 rfl ?_
  conv => whnf
  conv => whnf
  repeat (first | (refine Conf.mk (by kernel_rfl) ?_; conv => whnf) | (refine SeqOk.go ?_; conv => whnf))
  refine LoopOk.hide fun Q1 hQ1 => ?_
  refine LoopOk.mk (fun m s => ∃ i, i + m = ids.length ∧ isIdx p ids 0 = isIdx p (ids.drop i) i ∧ s = ⟨[(8, dInt i), (7, dInt (ids.map Id.enc).length), (1, .fn (.func cl) [] [.dat (.ptr ds)]), (0, .dat (.list (ids.map Id.enc)))], 0, []⟩) ids.length (Into.mono (Into.to [] [(8, dInt (0 : Nat)), (7, dInt (ids.map Id.enc).length), (1, .fn (.func cl) [] [.dat (.ptr ds)]), (0, .dat (.list (ids.map Id.enc)))] [] (by repeat (first | exact trivial | refine ⟨.same (congrArg dInt (wrap_up (by omega))), ?_⟩ | refine ⟨.same rfl, ?_⟩ | refine ⟨.any _, ?_⟩)) trivial rfl rfl) fun s' h => ⟨0, by omega, rfl, h⟩) ?_
  rintro m s ⟨i, hi, hp, rfl⟩
  conv => whnf
  repeat (first | (refine Conf.mk (by kernel_rfl) ?_; conv => whnf) | (refine SeqOk.go ?_; conv => whnf))
  refine ⟨fun h => ?_, fun h => ?_⟩
  · have hi' := lt_of_len h
    rw [List.drop_eq_getElem_cons hi'] at hp
    conv => whnf
    repeat (first | (refine Conf.mk (by kernel_rfl) ?_; conv => whnf) | (refine SeqOk.go ?_; conv => whnf))
    refine AtIdx.ofMap hi' rfl ?_
    conv => whnf
    repeat (first | (refine Conf.mk (by kernel_rfl) ?_; conv => whnf) | (refine SeqOk.go ?_; conv => whnf))
    refine .look _ _ (hcl ids[i] (List.getElem_mem hi')) rfl rfl ?_
    conv => whnf
    repeat (first | (refine Conf.mk (by kernel_rfl) ?_; conv => whnf) | (refine SeqOk.go ?_; conv => whnf))
    refine ⟨fun h => ?_, fun h => ?_⟩
    · conv => whnf
      repeat (first | (refine Conf.mk (by kernel_rfl) ?_; conv => whnf) | (refine SeqOk.go ?_; conv => whnf))
      subst hQ1
      conv => whnf
      exact Ret.int (by rw [hp]; simp [isIdx, h, idxOf])
    · conv => whnf
      repeat (first | (refine Conf.mk (by kernel_rfl) ?_; conv => whnf) | (refine SeqOk.go ?_; conv => whnf))
      exact Into.mono (Into.to [] [(8, dInt (i + 1 : Nat)), (7, dInt (ids.map Id.enc).length), (1, .fn (.func cl) [] [.dat (.ptr ds)]), (0, .dat (.list (ids.map Id.enc)))] [] (by repeat (first | exact trivial | refine ⟨.same (congrArg dInt (wrap_up (by omega))), ?_⟩ | refine ⟨.same rfl, ?_⟩ | refine ⟨.any _, ?_⟩)) trivial rfl rfl) fun s' h' => ⟨m - 1, by omega, i + 1, by omega, by rw [hp]; simp [isIdx, h], h'⟩
  · conv => whnf
    repeat (first | (refine Conf.mk (by kernel_rfl) ?_; conv => whnf) | (refine SeqOk.go ?_; conv => whnf))
    subst hQ1
    conv => whnf
    exact Ret.int (by rw [hp, List.drop_eq_nil_of_le (ge_of_len h)]; rfl)
theorem containsFunc_id {cl : Nat} {ds : List D} {ids : List Id} {p : Id → Bool} (hl : ids.length ≤ 140737488355327) (hcl : ∀ x ∈ ids, PCall Tryz.prog cl [x.arg, .dat (.ptr ds)] (dBool (p x))) :
    PCall Tryz.prog 108 [.dat (.list (ids.map Id.enc)), .fn (.func cl) [] [.dat (.ptr ds)]] (dBool (ids.any p)) := by
  refine pcall_intro tab_all tab_mixed Tryz.func108 (by kernel_rfl) Tryz.ntmps108 rfl ?_
  conv => whnf
  refine .look _ _ (indexFunc_id hl hcl) rfl rfl ?_
  conv => whnf
  exact Ret.bool (by rw [← idx_any p ids 0])
theorem all_not (t past : List Id) : t.all (fun y => !hasId past y) = !(t.any fun x => past.any (isId2 x)) := by
  have e : (fun x => past.any (isId2 x)) = hasId past := funext fun x => by rw [Bool.eq_iff_iff, any_isId2, hasId_iff]
  rw [e]
  induction t with
  | nil => rfl
  | cons x t ih => rw [List.all_cons, List.any_cons, ih, Bool.not_or]
def isAns (l : List Entry') (ids : List Id) : Bool := decide (idsErr l ids = 0) && isOrder l ids
end Go.Proofs.YtlioojekjnigiaeGreat.AM
/- Sites: what is there, what is ready; the same ones. -/
namespace Go.Proofs.YtlioojekjnigiaeGreat.AM
set_option linter.unusedVariables false
set_option linter.unusedSimpArgs false

def Site'.arg (s : Site') : AVal := .agg [dInt s.region, .dat (.list (s.log.map Entry'.enc)), .dat (.list (s.waits.map Entry'.enc))]
theorem siteHas1_ok (x : Id) (e : Entry') : PCall Tryz.prog 106 [e.arg, .dat (.ptr x.enc)] (dBool (isThe x e)) := by
  refine pcall_intro tab_all tab_mixed Tryz.func106 (by kernel_rfl) Tryz.ntmps106 rfl ?_
  conv => whnf
  exact Ret.bool rfl
theorem siteHas_ok (x : Id) (l : List Entry') (hl : l.length ≤ 140737488355328) : PCall Tryz.prog 82 [.dat (.list (l.map Entry'.enc)), x.arg] (dBool (l.any (isThe x))) := by
  refine pcall_intro tab_all tab_mixed Tryz.func82 (by kernel_rfl) Tryz.ntmps82 rfl ?_
  conv => whnf
  refine .look _ _ (containsFunc_entry hl fun e _ => siteHas1_ok x e) rfl rfl ?_
  conv => whnf
  exact Ret.bool rfl
set_option maxHeartbeats 0 in
theorem siteCount_ok (l : List Entry') (hl : l.length ≤ 140737488355328) (r : Int) : PCall Tryz.prog 87 [.dat (.list (l.map Entry'.enc)), dInt r] (dInt (cnt r l)) := by
  refine pcall_intro tab_all tab_mixed Tryz.func87 (by kernel_rfl) Tryz.ntmps87 rfl ?_
  conv => whnf
  refine LoopOk.mk (fun m s => ∃ i, i + m = l.length ∧ s = ⟨[(10, dInt i), (9, dInt (l.map Entry'.enc).length), (8, (.dat (.list (l.map Entry'.enc)))), (1, dInt r), (5, dInt (cnt r (l.take i)))], 0, []⟩) l.length (Into.mono (Into.to [] [(10, dInt (0 : Nat)), (9, dInt (l.map Entry'.enc).length), (8, (.dat (.list (l.map Entry'.enc)))), (1, dInt r), (5, dInt (cnt r (l.take 0)))] [] (by repeat (first | exact trivial | refine ⟨.same (congrArg dInt (wrap_up (by omega))), ?_⟩ | refine ⟨.same rfl, ?_⟩ | refine ⟨.any _, ?_⟩)) trivial rfl rfl) fun s' h => ⟨0, by omega, h⟩) ?_
  rintro m s ⟨i, hi, rfl⟩
  conv => whnf
  repeat (first | (refine Conf.mk (by kernel_rfl) ?_; conv => whnf) | (refine SeqOk.go ?_; conv => whnf))
  refine ⟨fun h => ?_, fun h => ?_⟩
  · have hil := lt_of_len h
    have hs := cnt_succ r hil
    have hc := cnt_le r (l.take i)
    rw [List.length_take] at hc
    conv => whnf
    repeat (first | (refine Conf.mk (by kernel_rfl) ?_; conv => whnf) | (refine SeqOk.go ?_; conv => whnf))
    refine AtIdx.ofMap hil rfl ?_
    conv => whnf
    repeat (first | (refine Conf.mk (by kernel_rfl) ?_; conv => whnf) | (refine SeqOk.go ?_; conv => whnf))
    refine ⟨fun h1 => ?_, fun h1 => ?_⟩
    · have h1 : (l[i].id.r == r) = true := h1
      rw [if_pos h1] at hs
      conv => whnf
      repeat (first | (refine Conf.mk (by kernel_rfl) ?_; conv => whnf) | (refine SeqOk.go ?_; conv => whnf))
      exact Into.mono (Into.to [] [(10, dInt (i + 1 : Nat)), (9, dInt (l.map Entry'.enc).length), (8, (.dat (.list (l.map Entry'.enc)))), (1, dInt r), (5, dInt (cnt r (l.take (i + 1))))] [] ⟨.same (congrArg dInt (wrap_up (by omega))), .same rfl, .same rfl, .same rfl, .same (by rw [hs]; exact congrArg dInt (wrap_up (by omega))), trivial⟩ trivial rfl rfl) fun s' h => ⟨m - 1, by omega, i + 1, by omega, h⟩
    · have h1 : (l[i].id.r == r) = false := h1
      rw [if_neg (by rw [h1]; decide)] at hs
      conv => whnf
      repeat (first | (refine Conf.mk (by kernel_rfl) ?_; conv => whnf) | (refine SeqOk.go ?_; conv => whnf))
      exact Into.mono (Into.to [] [(10, dInt (i + 1 : Nat)), (9, dInt (l.map Entry'.enc).length), (8, (.dat (.list (l.map Entry'.enc)))), (1, dInt r), (5, dInt (cnt r (l.take (i + 1))))] [] ⟨.same (congrArg dInt (wrap_up (by omega))), .same rfl, .same rfl, .same rfl, .same (by rw [hs]; rfl), trivial⟩ trivial rfl rfl) fun s' h => ⟨m - 1, by omega, i + 1, by omega, h⟩
  · have hil := ge_of_len h
    conv => whnf
    repeat (first | (refine Conf.mk (by kernel_rfl) ?_; conv => whnf) | (refine SeqOk.go ?_; conv => whnf))
    refine Ret.int ?_
    rw [List.take_of_length_le hil]
theorem siteReady1_ok (l : List Entry') (hl : l.length ≤ 140737488355328) (x : Id) : PCall Tryz.prog 109 [x.arg, .dat (.ptr [.list (l.map Entry'.enc)])] (dBool (!l.any (isThe x))) := by
  refine pcall_intro tab_all tab_mixed Tryz.func109 (by kernel_rfl) Tryz.ntmps109 rfl ?_
  conv => whnf
  refine .look _ _ (siteHas_ok x l hl) rfl rfl ?_
  conv => whnf
  repeat (first | (refine Conf.mk (by kernel_rfl) ?_; conv => whnf) | (refine SeqOk.go ?_; conv => whnf))
  exact Ret.bool rfl
theorem not_any_not {α : Type} (p : α → Bool) : ∀ l : List α, (!l.any fun x => !p x) = l.all p
  | [] => rfl
  | x :: t => by simp only [List.any_cons, List.all_cons, ← not_any_not p t, Bool.not_or, Bool.not_not]
set_option maxHeartbeats 0 in
theorem siteReady_ok (l : List Entry') (hl : l.length ≤ 1000) (e : Entry') (he : e.links.length ≤ 140737488355327) : PCall Tryz.prog 85 [.dat (.list (l.map Entry'.enc)), e.arg] (dBool (readyP l e)) := by
  have hc := cnt_le e.id.r l
  refine pcall_intro tab_all tab_mixed Tryz.func85 (by kernel_rfl) Tryz.ntmps85 rfl ?_
  conv => whnf
  conv => whnf
  repeat (first | (refine Conf.mk (by kernel_rfl) ?_; conv => whnf) | (refine SeqOk.go ?_; conv => whnf))
  refine .data _ _ (siteCount_ok l (by omega) e.id.r) rfl ?_
  conv => whnf
  repeat (first | (refine Conf.mk (by kernel_rfl) ?_; conv => whnf) | (refine SeqOk.go ?_; conv => whnf))
  have hw : IntKind.i64.wrap ((cnt e.id.r l : Int) + 1) = (cnt e.id.r l : Int) + 1 := wrap_id (by omega) (by omega)
  refine ⟨fun h => ?_, fun h => ?_⟩
  · have h : e.id.n ≠ (cnt e.id.r l : Int) + 1 := by
      rw [hw] at h
      simpa using h
    conv => whnf
    repeat (first | (refine Conf.mk (by kernel_rfl) ?_; conv => whnf) | (refine SeqOk.go ?_; conv => whnf))
    refine Ret.bool ?_
    unfold readyP
    rw [decide_eq_false h]
    rfl
  · have h : e.id.n = (cnt e.id.r l : Int) + 1 := by
      rw [hw] at h
      simpa using h
    conv => whnf
    repeat (first | (refine Conf.mk (by kernel_rfl) ?_; conv => whnf) | (refine SeqOk.go ?_; conv => whnf))
    refine .look _ _ (containsFunc_id he fun x _ => siteReady1_ok l (by omega) x) rfl rfl ?_
    conv => whnf
    repeat (first | (refine Conf.mk (by kernel_rfl) ?_; conv => whnf) | (refine SeqOk.go ?_; conv => whnf))
    refine Ret.bool ?_
    unfold readyP
    rw [decide_eq_true h, not_any_not]
    rfl
def sameE (a b : Entry') : Bool := isThe b.id a && (a.colors == b.colors && (decide (a.text = b.text) && sameIds a.links b.links))
theorem sameE_iff {a b : Entry'} : sameE a b = true ↔ a = b := by
  unfold sameE
  simp only [Bool.and_eq_true, isThe_iff, beq_iff_eq, decide_eq_true_eq, sameIds_iff]
  constructor
  · rintro ⟨h1, h2, h3, h4⟩
    cases a; cases b
    simp only at h1 h2 h3 h4
    rw [h1, h2, h3, h4]
  · rintro rfl
    exact ⟨rfl, rfl, rfl, rfl⟩
def sameL : List Entry' → List Entry' → Bool
  | [], [] => true
  | a :: t, b :: u => sameE a b && sameL t u
  | _, _ => false
theorem sameL_iff : ∀ {a b : List Entry'}, sameL a b = true ↔ a = b
  | [], [] => by simp [sameL]
  | [], b :: u => by simp [sameL]
  | a :: t, [] => by simp [sameL]
  | a :: t, b :: u => by simp [sameL, sameE_iff, sameL_iff (a := t) (b := u)]
theorem sameL_len : ∀ {a b : List Entry'}, a.length ≠ b.length → sameL a b = false := fun {a b} h => by
  rw [Bool.eq_false_iff]
  intro k
  exact h (by rw [sameL_iff.1 k])
def sameS (a b : Site') : Bool := (a.region == b.region) && (sameL a.log b.log && sameL a.waits b.waits)
theorem sameS_iff {a b : Site'} : sameS a b = true ↔ a = b := by
  unfold sameS
  simp only [Bool.and_eq_true, beq_iff_eq, sameL_iff]
  constructor
  · rintro ⟨h1, h2, h3⟩
    cases a; cases b
    simp only at h1 h2 h3
    rw [h1, h2, h3]
  · rintro rfl
    exact ⟨rfl, rfl, rfl⟩
structure SiteOk (s : Site') : Prop where
  log : LogOk s.log
  waits : LogOk s.waits
end Go.Proofs.YtlioojekjnigiaeGreat.AM
/- Logs: Heads of one that is a row of one's own; sites: the next entry of a site's own. -/
namespace Go.Proofs.YtlioojekjnigiaeGreat.AM
set_option linter.unusedVariables false
set_option linter.unusedSimpArgs false
set_option maxHeartbeats 0 in
theorem headsOwn_ok (l : List Entry') (hr : Right l) (c : Int) : ECall Tryz.prog 86 [.row 0, dInt c] [(0, .rows 48 5 (l.map Entry'.enc) true)] 1 (.tup [.dat (.list ((headsAns l c).map Id.enc)), dInt (colErr l c)]) [(0, .rows 48 5 (l.map Entry'.enc) true)] 0 := by
  have h1 := right_iff.2 hr
  have hll := hr.len
  have hch := dagCheck_ok l hr.logOk
  rw [h1] at hch
  refine acall_intro tab_all tab_mixed Tryz.func86 (by kernel_rfl) Tryz.ntmps86 rfl ?_
  conv => whnf
  refine .look _ _ hch rfl rfl ?_
  conv => whnf
  repeat (first | (refine Conf.mk (by kernel_rfl) ?_; conv => whnf) | (refine SeqOk.go ?_; conv => whnf))
  refine BoolCase.no rfl ?_
  conv => whnf
  repeat (first | (refine Conf.mk (by kernel_rfl) ?_; conv => whnf) | (refine SeqOk.go ?_; conv => whnf))
  refine ⟨fun h2 => ?_, fun h2 => ?_⟩
  · have hc : c < 1 ∨ 7 < c := .inl (by simpa using h2)
    have he : colErr l c = 3 := by unfold colErr; rw [if_pos h1, if_pos hc]
    have ha : headsAns l c = [] := by unfold headsAns; rw [he]; rfl
    conv => whnf
    repeat (first | (refine Conf.mk (by kernel_rfl) ?_; conv => whnf) | (refine SeqOk.go ?_; conv => whnf))
    exact .mk [] [0] (.tup [.dat (.list []), dInt 3]) [(0, .rows 48 5 (l.map Entry'.enc) true)] rfl (.tups ⟨.data rfl, .same rfl, trivial⟩) ⟨⟨rfl, rfl, rfl, rfl⟩, trivial⟩ rfl rfl ⟨by rw [he, ha]; rfl, rfl, rfl⟩
  · have h2 : ¬ c < 1 := by simpa using h2
    conv => whnf
    repeat (first | (refine Conf.mk (by kernel_rfl) ?_; conv => whnf) | (refine SeqOk.go ?_; conv => whnf))
    refine ⟨fun h3 => ?_, fun h3 => ?_⟩
    · have hc : c < 1 ∨ 7 < c := .inr (by simpa using h3)
      have he : colErr l c = 3 := by unfold colErr; rw [if_pos h1, if_pos hc]
      have ha : headsAns l c = [] := by unfold headsAns; rw [he]; rfl
      conv => whnf
      repeat (first | (refine Conf.mk (by kernel_rfl) ?_; conv => whnf) | (refine SeqOk.go ?_; conv => whnf))
      exact .mk [] [0] (.tup [.dat (.list []), dInt 3]) [(0, .rows 48 5 (l.map Entry'.enc) true)] rfl (.tups ⟨.data rfl, .same rfl, trivial⟩) ⟨⟨rfl, rfl, rfl, rfl⟩, trivial⟩ rfl rfl ⟨by rw [he, ha]; rfl, rfl, rfl⟩
    · have h3 : ¬ 7 < c := by simpa using h3
      have he : colErr l c = 0 := by unfold colErr; rw [if_pos h1, if_neg (by omega)]
      have ha : headsAns l c = headsOf c l := by unfold headsAns; rw [he]; rfl
      conv => whnf
      repeat (first | (refine Conf.mk (by kernel_rfl) ?_; conv => whnf) | (refine SeqOk.go ?_; conv => whnf))
      refine .eff [0, 1] _ _ _ _ 0 (pastOfOwn_ok c l hr.len (fun e he => hr.six he) fun e _ => heads1_ok c e) rfl rfl rfl rfl rfl ?_
      conv => whnf
      repeat (first | (refine Conf.mk (by kernel_rfl) ?_; conv => whnf) | (refine SeqOk.go ?_; conv => whnf))
      have hfl := pastFold_len (fun e => bothOf e.colors c) (l := l) fun e he => hr.six he
      refine .eff [0, 1, 2, 3] _ _ _ _ 0 (idsOfOwn_ok c (sortIds (pastFold (fun e => bothOf e.colors c) l)) l hr.len fun e _ => heads2_ok c (sortIds (pastFold (fun e => bothOf e.colors c) l)) (by rw [sortIds_len]; omega) e) rfl rfl rfl rfl rfl ?_
      conv => whnf
      repeat (first | (refine Conf.mk (by kernel_rfl) ?_; conv => whnf) | (refine SeqOk.go ?_; conv => whnf))
      have hq : (fun e : Entry' => bothOf e.colors c && !(sortIds (pastFold (fun e => bothOf e.colors c) l)).any (isId2 e.id)) = fun e => bothOf e.colors c && !(pastFold (fun e => bothOf e.colors c) l).any (isId2 e.id) := funext fun e => by
        congr 2
        rw [Bool.eq_iff_iff, any_isId2, any_isId2, mem_sortIds]
      rw [hq]
      exact .mk [] [0] (.tup [.dat (.list ((headsOf c l).map Id.enc)), dInt 0]) [(0, .rows 48 5 (l.map Entry'.enc) true)] rfl (.tups ⟨.same rfl, .same rfl, trivial⟩) ⟨⟨rfl, rfl, rfl, rfl⟩, trivial⟩ rfl rfl ⟨by rw [he, ha], rfl, rfl⟩
def zeroE : Entry' := ⟨⟨0, 0⟩, 0, ByteArray.empty, []⟩
/-- The next entry of a region's own. -/
def newE (r : Int) (l : List Entry') (c : Int) (t : ByteArray) : Entry' := ⟨⟨r, (cnt r l : Int) + 1⟩, c, t, headsOf c l⟩
def nextErr (r : Int) (l : List Entry') (c : Int) (t : ByteArray) : Int :=
  if c < 1 ∨ 7 < c then 3 else if 12 < t.size ∨ 20 < cnt r l + 1 ∨ 6 < (headsOf c l).length then 2 else 0
def nextE (r : Int) (l : List Entry') (c : Int) (t : ByteArray) : Entry' := if nextErr r l c t = 0 then newE r l c t else zeroE
set_option maxHeartbeats 0 in
theorem next_ok (r : Int) (log ws : List Entry') (hr : Right log) (c : Int) (t : ByteArray) : ECall Tryz.prog 62 [.ptr 0 0, dInt c, .dat (.str t)] [(0, .vars 84 3 [dInt r, .row 1, .row 2] true), (1, .rows 48 5 (log.map Entry'.enc) true), (2, .rows 48 5 (ws.map Entry'.enc) true)] 3 (.tup [(nextE r log c t).arg, dInt (nextErr r log c t)]) [(0, .vars 84 3 [dInt r, .row 1, .row 2] true), (1, .rows 48 5 (log.map Entry'.enc) true), (2, .rows 48 5 (ws.map Entry'.enc) true)] 0 := by
  have h1 := right_iff.2 hr
  have hll := hr.len
  have hcl := cnt_le r log
  have hho := headsOwn_ok log hr c
  refine acall_intro tab_all tab_mixed Tryz.func62 (by kernel_rfl) Tryz.ntmps62 rfl ?_
  conv => whnf
  by_cases hc : c < 1 ∨ 7 < c
  · have he : colErr log c = 3 := by unfold colErr; rw [if_pos h1, if_pos hc]
    have hE : nextErr r log c t = 3 := by unfold nextErr; rw [if_pos hc]
    have hA : nextE r log c t = zeroE := by unfold nextE; rw [hE]; rfl
    rw [he] at hho
    refine .eff [1] _ _ _ _ 0 hho rfl rfl rfl rfl rfl ?_
    conv => whnf
    repeat (first | (refine Conf.mk (by kernel_rfl) ?_; conv => whnf) | (refine SeqOk.go ?_; conv => whnf))
    refine BoolCase.yes rfl ?_
    conv => whnf
    repeat (first | (refine Conf.mk (by kernel_rfl) ?_; conv => whnf) | (refine SeqOk.go ?_; conv => whnf))
    exact .mk [] [0, 1, 2] (.tup [zeroE.arg, dInt 3]) [(0, .vars 84 3 [dInt r, .row 1, .row 2] true), (1, .rows 48 5 (log.map Entry'.enc) true), (2, .rows 48 5 (ws.map Entry'.enc) true)] rfl (.tups ⟨.aggs ⟨.same rfl, .same rfl, .same rfl, .same rfl, .data rfl, trivial⟩, .same rfl, trivial⟩) ⟨⟨rfl, rfl, rfl, .same rfl, rfl, .same rfl, rfl, .same rfl, rfl, trivial⟩, ⟨rfl, rfl, rfl, rfl⟩, ⟨rfl, rfl, rfl, rfl⟩, trivial⟩ rfl rfl ⟨by rw [hE, hA], rfl, rfl⟩
  · have he : colErr log c = 0 := by unfold colErr; rw [if_pos h1, if_neg hc]
    have ha : headsAns log c = headsOf c log := by unfold headsAns; rw [he]; rfl
    rw [he, ha] at hho
    refine .eff [1] _ _ _ _ 0 hho rfl rfl rfl rfl rfl ?_
    conv => whnf
    repeat (first | (refine Conf.mk (by kernel_rfl) ?_; conv => whnf) | (refine SeqOk.go ?_; conv => whnf))
    refine BoolCase.no rfl ?_
    conv => whnf
    repeat (first | (refine Conf.mk (by kernel_rfl) ?_; conv => whnf) | (refine SeqOk.go ?_; conv => whnf))
    refine .look _ _ (siteCount_ok log (by omega) r) rfl rfl ?_
    conv => whnf
    repeat (first | (refine Conf.mk (by kernel_rfl) ?_; conv => whnf) | (refine SeqOk.go ?_; conv => whnf))
    refine ⟨fun h2 => ?_, fun h2 => ?_⟩
    · have hm : 12 < t.size ∨ 20 < cnt r log + 1 ∨ 6 < (headsOf c log).length := .inl (by simp at h2; omega)
      have hE : nextErr r log c t = 2 := by unfold nextErr; rw [if_neg hc, if_pos hm]
      have hA : nextE r log c t = zeroE := by unfold nextE; rw [hE]; rfl
      conv => whnf
      repeat (first | (refine Conf.mk (by kernel_rfl) ?_; conv => whnf) | (refine SeqOk.go ?_; conv => whnf))
      exact .mk [] [0, 1, 2] (.tup [zeroE.arg, dInt 2]) [(0, .vars 84 3 [dInt r, .row 1, .row 2] true), (1, .rows 48 5 (log.map Entry'.enc) true), (2, .rows 48 5 (ws.map Entry'.enc) true)] rfl (.tups ⟨.aggs ⟨.same rfl, .same rfl, .same rfl, .same rfl, .data rfl, trivial⟩, .same rfl, trivial⟩) ⟨⟨rfl, rfl, rfl, .same rfl, rfl, .same rfl, rfl, .same rfl, rfl, trivial⟩, ⟨rfl, rfl, rfl, rfl⟩, ⟨rfl, rfl, rfl, rfl⟩, trivial⟩ rfl rfl ⟨by rw [hE, hA], rfl, rfl⟩
    · have h2 : ¬ 12 < t.size := by simp at h2; omega
      conv => whnf
      repeat (first | (refine Conf.mk (by kernel_rfl) ?_; conv => whnf) | (refine SeqOk.go ?_; conv => whnf))
      refine ⟨fun h3 => ?_, fun h3 => ?_⟩
      · have hm : 12 < t.size ∨ 20 < cnt r log + 1 ∨ 6 < (headsOf c log).length := .inr (.inl (by rw [wrap_id (by omega) (by omega)] at h3; simp at h3; omega))
        have hE : nextErr r log c t = 2 := by unfold nextErr; rw [if_neg hc, if_pos hm]
        have hA : nextE r log c t = zeroE := by unfold nextE; rw [hE]; rfl
        conv => whnf
        repeat (first | (refine Conf.mk (by kernel_rfl) ?_; conv => whnf) | (refine SeqOk.go ?_; conv => whnf))
        exact .mk [] [0, 1, 2] (.tup [zeroE.arg, dInt 2]) [(0, .vars 84 3 [dInt r, .row 1, .row 2] true), (1, .rows 48 5 (log.map Entry'.enc) true), (2, .rows 48 5 (ws.map Entry'.enc) true)] rfl (.tups ⟨.aggs ⟨.same rfl, .same rfl, .same rfl, .same rfl, .data rfl, trivial⟩, .same rfl, trivial⟩) ⟨⟨rfl, rfl, rfl, .same rfl, rfl, .same rfl, rfl, .same rfl, rfl, trivial⟩, ⟨rfl, rfl, rfl, rfl⟩, ⟨rfl, rfl, rfl, rfl⟩, trivial⟩ rfl rfl ⟨by rw [hE, hA], rfl, rfl⟩
      · have h3 : ¬ 20 < cnt r log + 1 := by rw [wrap_id (by omega) (by omega)] at h3; simp at h3; omega
        conv => whnf
        repeat (first | (refine Conf.mk (by kernel_rfl) ?_; conv => whnf) | (refine SeqOk.go ?_; conv => whnf))
        refine ⟨fun h4 => ?_, fun h4 => ?_⟩
        · have hm : 12 < t.size ∨ 20 < cnt r log + 1 ∨ 6 < (headsOf c log).length := .inr (.inr (by simp at h4; omega))
          have hE : nextErr r log c t = 2 := by unfold nextErr; rw [if_neg hc, if_pos hm]
          have hA : nextE r log c t = zeroE := by unfold nextE; rw [hE]; rfl
          conv => whnf
          repeat (first | (refine Conf.mk (by kernel_rfl) ?_; conv => whnf) | (refine SeqOk.go ?_; conv => whnf))
          exact .mk [] [0, 1, 2] (.tup [zeroE.arg, dInt 2]) [(0, .vars 84 3 [dInt r, .row 1, .row 2] true), (1, .rows 48 5 (log.map Entry'.enc) true), (2, .rows 48 5 (ws.map Entry'.enc) true)] rfl (.tups ⟨.aggs ⟨.same rfl, .same rfl, .same rfl, .same rfl, .data rfl, trivial⟩, .same rfl, trivial⟩) ⟨⟨rfl, rfl, rfl, .same rfl, rfl, .same rfl, rfl, .same rfl, rfl, trivial⟩, ⟨rfl, rfl, rfl, rfl⟩, ⟨rfl, rfl, rfl, rfl⟩, trivial⟩ rfl rfl ⟨by rw [hE, hA], rfl, rfl⟩
        · have h4 : ¬ 6 < (headsOf c log).length := by simp at h4; omega
          have hE : nextErr r log c t = 0 := by unfold nextErr; rw [if_neg hc, if_neg (by simp only [not_or]; exact ⟨h2, h3, h4⟩)]
          have hA : nextE r log c t = newE r log c t := by unfold nextE; rw [hE]; rfl
          conv => whnf
          repeat (first | (refine Conf.mk (by kernel_rfl) ?_; conv => whnf) | (refine SeqOk.go ?_; conv => whnf))
          rw [wrap_id (by omega) (by omega)]
          exact .mk [] [0, 1, 2] (.tup [(newE r log c t).arg, dInt 0]) [(0, .vars 84 3 [dInt r, .row 1, .row 2] true), (1, .rows 48 5 (log.map Entry'.enc) true), (2, .rows 48 5 (ws.map Entry'.enc) true)] rfl (.same rfl) ⟨⟨rfl, rfl, rfl, .same rfl, rfl, .same rfl, rfl, .same rfl, rfl, trivial⟩, ⟨rfl, rfl, rfl, rfl⟩, ⟨rfl, rfl, rfl, rfl⟩, trivial⟩ rfl rfl ⟨by rw [hE, hA], rfl, rfl⟩
end Go.Proofs.YtlioojekjnigiaeGreat.AM
