/- What is leaned on: part 5. -/
import Derived.Test.YtlioojekjnigiaeGreatQ4
import Derived.OpenShut
import Derived.ProofKit
import Derived.ChangeOld
import Derived.Lib.SmallJoins
/- Reference: words. -/
namespace Go.Proofs.YtlioojekjnigiaeGreat.AM.Fo
set_option linter.unusedVariables false
set_option linter.unusedSimpArgs false

theorem byteAt {s : ByteArray} {i : Nat} (h : i < s.size) : ∃ c, s[i]? = some c ∧ s.data.toList[i]? = some c := by
  refine ⟨s[i], by simp [h], ?_⟩
  have h' : i < s.data.toList.length := by simpa using h
  rw [List.getElem?_eq_getElem h']
  rfl
theorem okB_wrap (c : UInt8) : okB c = ((decide ((97 : Int) ≤ IntKind.i64.wrap c.toNat) && decide (IntKind.i64.wrap c.toNat ≤ 122)) || (decide ((48 : Int) ≤ IntKind.i64.wrap c.toNat) && decide (IntKind.i64.wrap c.toNat ≤ 57))) := by
  have hc : c.toNat < 256 := c.toNat_lt
  rw [wrap_id (by omega) (by omega)]
  unfold okB
  rw [show decide ((97 : Int) ≤ (c.toNat : Int)) = decide (97 ≤ c.toNat) from decide_eq_decide.2 (by omega), show decide ((c.toNat : Int) ≤ 122) = decide (c.toNat ≤ 122) from decide_eq_decide.2 (by omega), show decide ((48 : Int) ≤ (c.toNat : Int)) = decide (48 ≤ c.toNat) from decide_eq_decide.2 (by omega), show decide ((c.toNat : Int) ≤ 57) = decide (c.toNat ≤ 57) from decide_eq_decide.2 (by omega)]
set_option maxHeartbeats 0 in
theorem refIsWord_ok (s : ByteArray) (hs : s.size ≤ 140737488355327) : PCall Tryz.prog 9 [.dat (.str s)] (dBool (isW s)) := by
  refine pcall_cut tab_all tab_mixed Tryz.func9 (by kernel_rfl) Tryz.ntmps9 rfl ?_
  conv => whnf
  conv => whnf
  repeat (first | (refine Conf.mk (by kernel_rfl) ?_; conv => whnf) | (refine SeqOk.go ?_; conv => whnf))
  refine LoopOk.hide fun Q1 hQ1 => ?_
  refine LoopOk.mk (fun m st => ∃ i, i + m = s.size ∧ (s.data.toList.take i).all okB = true ∧ st = ⟨[(3, dInt i), (0, .dat (.str s))], 0, []⟩) s.size (Into.mono (Into.to [] [(3, dInt (0 : Nat)), (0, .dat (.str s))] [] (by repeat (first | exact trivial | refine ⟨.same (congrArg dInt (wrap_up (by omega))), ?_⟩ | refine ⟨.same rfl, ?_⟩ | refine ⟨.any _, ?_⟩)) trivial rfl rfl) fun s' h => ⟨0, by omega, rfl, h⟩) ?_
  rintro m st ⟨i, hi, hall, rfl⟩
  conv => whnf
  repeat (first | (refine Conf.mk (by kernel_rfl) ?_; conv => whnf) | (refine SeqOk.go ?_; conv => whnf))
  by_cases hlt : i < s.size
  · obtain ⟨c, hc1, hc2⟩ := byteAt hlt
    have htk : (s.data.toList.take (i + 1)).all okB = okB c := by
      rw [List.take_add_one, hc2, List.all_append, hall]; simp
    have hwd := okB_wrap c
    refine BoolCase.yes (by simp; omega) ?_
    conv => whnf
    repeat (first | (refine Conf.mk (by kernel_rfl) ?_; conv => whnf) | (refine SeqOk.go ?_; conv => whnf))
    refine .mk i c rfl hc1 ?_
    conv => whnf
    repeat (first | (refine Conf.mk (by kernel_rfl) ?_; conv => whnf) | (refine SeqOk.go ?_; conv => whnf))
    refine .look _ _ (between_ok _ _ _) rfl rfl ?_
    conv => whnf
    repeat (first | (refine Conf.mk (by kernel_rfl) ?_; conv => whnf) | (refine SeqOk.go ?_; conv => whnf))
    cases hb1 : (decide ((97 : Int) ≤ IntKind.i64.wrap c.toNat) && decide (IntKind.i64.wrap c.toNat ≤ 122))
    · refine BoolCase.yes (by simp) ?_
      conv => whnf
      repeat (first | (refine Conf.mk (by kernel_rfl) ?_; conv => whnf) | (refine SeqOk.go ?_; conv => whnf))
      refine .mk i c rfl hc1 ?_
      conv => whnf
      repeat (first | (refine Conf.mk (by kernel_rfl) ?_; conv => whnf) | (refine SeqOk.go ?_; conv => whnf))
      refine .look _ _ (between_ok _ _ _) rfl rfl ?_
      conv => whnf
      repeat (first | (refine Conf.mk (by kernel_rfl) ?_; conv => whnf) | (refine SeqOk.go ?_; conv => whnf))
      cases hb2 : (decide ((48 : Int) ≤ IntKind.i64.wrap c.toNat) && decide (IntKind.i64.wrap c.toNat ≤ 57))
      · have hok : okB c = false := by rw [hwd, hb1, hb2]; rfl
        refine BoolCase.yes (by simp) ?_
        have hno : isW s = false := by
          unfold isW
          have : s.data.toList.all okB = false := by
            rw [List.all_eq_false]
            exact ⟨c, List.mem_of_getElem? hc2, by simp [hok]⟩
          rw [this, Bool.and_false]
        conv => whnf
        repeat (first | (refine Conf.mk (by kernel_rfl) ?_; conv => whnf) | (refine SeqOk.go ?_; conv => whnf))
        subst hQ1
        conv => whnf
        repeat (first | (refine Conf.mk (by kernel_rfl) ?_; conv => whnf) | (refine SeqOk.go ?_; conv => whnf))
        exact Ret.bool hno.symm
      · have hok : okB c = true := by rw [hwd, hb1, hb2]; rfl
        refine BoolCase.no (by simp) ?_
        rw [hok] at htk
        conv => whnf
        repeat (first | (refine Conf.mk (by kernel_rfl) ?_; conv => whnf) | (refine SeqOk.go ?_; conv => whnf))
        refine Into.mono (Into.to [] [(3, dInt (i + 1 : Nat)), (0, .dat (.str s))] [] (by repeat (first | exact trivial | refine ⟨.same (congrArg dInt (wrap_up (by omega))), ?_⟩ | refine ⟨.same rfl, ?_⟩ | refine ⟨.any _, ?_⟩)) trivial rfl rfl) fun s' h => ⟨m - 1, by omega, i + 1, by omega, htk, h⟩
    · have hok : okB c = true := by rw [hwd, hb1]; rfl
      refine BoolCase.no (by simp) ?_
      rw [hok] at htk
      conv => whnf
      repeat (first | (refine Conf.mk (by kernel_rfl) ?_; conv => whnf) | (refine SeqOk.go ?_; conv => whnf))
      refine Into.mono (Into.to [] [(3, dInt (i + 1 : Nat)), (0, .dat (.str s))] [] (by repeat (first | exact trivial | refine ⟨.same (congrArg dInt (wrap_up (by omega))), ?_⟩ | refine ⟨.same rfl, ?_⟩ | refine ⟨.any _, ?_⟩)) trivial rfl rfl) fun s' h => ⟨m - 1, by omega, i + 1, by omega, htk, h⟩
  · obtain rfl : i = s.size := by omega
    rw [List.take_of_length_le (by simp)] at hall
    refine BoolCase.no (by simp) ?_
    conv => whnf
    repeat (first | (refine Conf.mk (by kernel_rfl) ?_; conv => whnf) | (refine SeqOk.go ?_; conv => whnf))
    subst hQ1
    conv => whnf
    repeat (first | (refine Conf.mk (by kernel_rfl) ?_; conv => whnf) | (refine SeqOk.go ?_; conv => whnf))
    refine .look _ _ (between_ok _ _ _) rfl rfl ?_
    conv => whnf
    repeat (first | (refine Conf.mk (by kernel_rfl) ?_; conv => whnf) | (refine SeqOk.go ?_; conv => whnf))
    refine Ret.bool ?_
    unfold isW
    rw [hall, Bool.and_true]
    congr 1 <;> exact decide_eq_decide.2 (by omega)
end Go.Proofs.YtlioojekjnigiaeGreat.AM.Fo
/- What a text says, plainly. -/
namespace Go.Proofs.YtlioojekjnigiaeGreat.AM.Fo
set_option linter.unusedVariables false
set_option linter.unusedSimpArgs false

theorem ib_eq : ∀ {l : List UInt8} {c : UInt8} {j : Nat}, l[j]? = some c → (∀ x ∈ l.take j, x ≠ c) → Lib.indexByte l c = j
  | [], c, j, h, _ => by simp at h
  | b :: l, c, 0, h, _ => by
    obtain rfl : b = c := by simpa using h
    unfold Lib.indexByte
    simp
  | b :: l, c, j + 1, h, hn => by
    have hb : b ≠ c := hn b (by simp)
    have := ib_eq (l := l) (c := c) (j := j) (by simpa using h) fun x hx => hn x (by simp [hx])
    unfold Lib.indexByte
    rw [if_neg (by simp [hb]), this, if_neg (by simp)]
    omega
theorem ib_some : ∀ {l : List UInt8} {c : UInt8}, 0 ≤ Lib.indexByte l c → l[(Lib.indexByte l c).toNat]? = some c
  | [], c, h => by simp [Lib.indexByte] at h
  | b :: l, c, h => by
    unfold Lib.indexByte at h ⊢
    by_cases hb : (b == c) = true
    · rw [if_pos hb]
      have : b = c := by simpa using hb
      simp [this]
    · rw [if_neg hb] at h ⊢
      by_cases h1 : (Lib.indexByte l c == -1) = true
      · rw [if_pos h1] at h; omega
      · rw [if_neg h1] at h ⊢
        have hge := Lib.indexByte_ge l c
        have h0 : 0 ≤ Lib.indexByte l c := by
          have : Lib.indexByte l c ≠ -1 := by simpa using h1
          omega
        have := ib_some h0
        rw [show (Lib.indexByte l c + 1).toNat = (Lib.indexByte l c).toNat + 1 by omega]
        simpa using this
theorem blankAt_eq (s : ByteArray) : blankAt s = Lib.indexByte s.data.toList 32 := by
  unfold blankAt
  by_cases h : blank = s
  · rw [if_pos h, ← h]; decide
  · rw [if_neg h]
theorem ext2 {s : ByteArray} {a a' b b' : Nat} (h : a = a') (h2 : b = b') : s.extract a b = s.extract a' b' := by rw [h, h2]
theorem bytes_cut (s : ByteArray) (a b : Nat) : (s.extract a b).data.toList = (s.data.toList.drop a).take (b - a) := by
  rw [ByteArray.data_extract, Array.toList_extract, List.extract_eq_take_drop]
theorem isW_bytes {s : ByteArray} (h : isW s = true) : ∀ x ∈ s.data.toList, x ≠ 32 := by
  unfold isW at h
  rw [Bool.and_eq_true] at h
  intro x hx hx2
  have := List.all_eq_true.1 h.2 x hx
  rw [hx2] at this
  exact absurd this (by decide)
theorem isW_size {s : ByteArray} (h : isW s = true) : 1 ≤ s.size ∧ s.size ≤ 3 := by
  unfold isW at h
  simp only [Bool.and_eq_true, decide_eq_true_eq] at h
  exact h.1
theorem cutP_put {s : ByteArray} (h : hasPre s putW = true) : cutP s putW = s.extract 4 s.size := by unfold cutP; rw [if_pos h]; rfl
theorem cutP_drop {s : ByteArray} (h : hasPre s dropW = true) : cutP s dropW = s.extract 5 s.size := by unfold cutP; rw [if_pos h]; rfl
theorem put_iff {s : ByteArray} (h : hasPre s putW = true) {i : Nat} (h5 : 5 ≤ i) (hi : i < s.size) (hb : s.data.toList[i]? = some 32) (h1 : isW (s.extract 4 i) = true) (h2 : isW (s.extract (i + 1) s.size) = true) :
    isPut s = true ∧ cutA (cutP s putW) = s.extract 4 i ∧ cutB (cutP s putW) = s.extract (i + 1) s.size := by
  have hp := cutP_put h
  have hat : blankAt (cutP s putW) = ((i - 4 : Nat) : Int) := by
    rw [hp, blankAt_eq]
    refine ib_eq ?_ ?_
    · rw [bytes_cut, List.getElem?_take, if_pos (by omega), List.getElem?_drop, show 4 + (i - 4) = i by omega]
      exact hb
    · intro x hx
      refine isW_bytes h1 x ?_
      rw [bytes_cut] at hx ⊢
      rw [List.take_take] at hx
      rw [show min (i - 4) (s.size - 4) = i - 4 by omega] at hx
      exact hx
  have ha : cutA (cutP s putW) = s.extract 4 i := by
    unfold cutA
    rw [if_pos (by rw [hat]; omega), hat, hp, Int.toNat_natCast, ByteArray.extract_extract]
    exact ext2 (by omega) (by omega)
  have hbb : cutB (cutP s putW) = s.extract (i + 1) s.size := by
    unfold cutB
    rw [if_pos (by rw [hat]; omega), hat, hp, Int.toNat_natCast, ByteArray.extract_extract]
    exact ext2 (by omega) (by rw [ByteArray.size_extract]; omega)
  refine ⟨?_, ha, hbb⟩
  unfold isPut
  rw [h, ha, hbb, h1, h2]; rfl
theorem put_at {s : ByteArray} (h : isPut s = true) : ∃ i, 5 ≤ i ∧ i < s.size ∧ s.data.toList[i]? = some 32 ∧ isW (s.extract 4 i) = true ∧ isW (s.extract (i + 1) s.size) = true := by
  unfold isPut at h
  simp only [Bool.and_eq_true] at h
  obtain ⟨h, h1, h2⟩ := h
  have hp := cutP_put h
  have hsz : 4 ≤ s.size := hasPre_size h
  have hg : 0 ≤ blankAt (cutP s putW) := by
    by_cases hg : 0 ≤ blankAt (cutP s putW)
    · exact hg
    · unfold cutB at h2
      rw [if_neg hg] at h2
      exact absurd h2 (by decide)
  have hlt := blankAt_lt hg
  have hs := ib_some (l := (cutP s putW).data.toList) (c := 32) (by rw [← blankAt_eq]; exact hg)
  rw [← blankAt_eq] at hs
  generalize hj : (blankAt (cutP s putW)).toNat = j at *
  have hat : blankAt (cutP s putW) = (j : Int) := by rw [← hj]; omega
  have hlt' : j < s.size - 4 := by rw [hat, hp, ByteArray.size_extract] at hlt; omega
  have ha : cutA (cutP s putW) = s.extract 4 (4 + j) := by
    unfold cutA
    rw [if_pos hg, hat, hp, Int.toNat_natCast, ByteArray.extract_extract]
    exact ext2 (by omega) (by omega)
  have hbb : cutB (cutP s putW) = s.extract (4 + j + 1) s.size := by
    unfold cutB
    rw [if_pos hg, hat, hp, Int.toNat_natCast, ByteArray.extract_extract]
    exact ext2 (by omega) (by rw [ByteArray.size_extract]; omega)
  rw [ha] at h1
  rw [hbb] at h2
  refine ⟨4 + j, ?_, by omega, ?_, h1, h2⟩
  · have := (isW_size h1).1
    rw [ByteArray.size_extract] at this
    omega
  · rw [hp, bytes_cut, List.getElem?_take, if_pos (by omega), List.getElem?_drop] at hs
    exact hs
theorem put_drop {s : ByteArray} (h : hasPre s dropW = true) : hasPre s putW = false := by
  cases h' : hasPre s putW
  · rfl
  · unfold hasPre at h h'
    simp only [Bool.and_eq_true, decide_eq_true_eq] at h h'
    have e1 := congrArg (fun x : ByteArray => x.data.toList[0]?) h.2
    have e2 := congrArg (fun x : ByteArray => x.data.toList[0]?) h'.2
    simp only [bytes_cut] at e1 e2
    rw [List.getElem?_take, if_pos (by decide)] at e1 e2
    rw [e1] at e2
    exact absurd e2 (by decide)
end Go.Proofs.YtlioojekjnigiaeGreat.AM.Fo
/- Reference: what a text says. -/
namespace Go.Proofs.YtlioojekjnigiaeGreat.AM.Fo
set_option linter.unusedVariables false
set_option linter.unusedSimpArgs false

def RefAns (s : ByteArray) : AVal := .tup [dInt (opKind s), .dat (.str (opKey s)), .dat (.str (opVal s))]
theorem refAns_put {s : ByteArray} (h : isPut s = true) : RefAns s = .tup [dInt 1, .dat (.str (cutA (cutP s putW))), .dat (.str (cutB (cutP s putW)))] := by
  have e : opKind s = 1 := by unfold opKind; rw [if_pos h]
  unfold RefAns opKey opVal
  rw [e, if_pos h, if_pos h]
theorem refAns_drop {s : ByteArray} (h : isPut s = false) (h2 : isDrop s = true) : RefAns s = .tup [dInt 2, .dat (.str (cutP s dropW)), .dat (.str ⟨#[]⟩)] := by
  have e : opKind s = 2 := by unfold opKind; rw [if_neg (by simp [h]), if_pos h2]
  unfold RefAns opKey opVal
  rw [e, if_neg (by simp [h]), if_pos h2, if_neg (by simp [h])]
theorem refAns_none {s : ByteArray} (h : isPut s = false) (h2 : isDrop s = false) : RefAns s = .tup [dInt 0, .dat (.str ⟨#[]⟩), .dat (.str ⟨#[]⟩)] := by
  have e : opKind s = 0 := by unfold opKind; rw [if_neg (by simp [h]), if_neg (by simp [h2])]
  unfold RefAns opKey opVal
  rw [e, if_neg (by simp [h]), if_neg (by simp [h2]), if_neg (by simp [h])]
theorem ext_size {s : ByteArray} {a b n : Nat} (h : s.size ≤ n) : (s.extract a b).size ≤ n := by rw [ByteArray.size_extract]; omega
theorem dropW_size : dropW.size = 5 := rfl
theorem putW_size : putW.size = 4 := rfl
set_option maxHeartbeats 0 in
theorem opOf_ok (s : ByteArray) (hs : s.size ≤ 140737488355327) : PCall Tryz.prog 12 [.dat (.str s)] (RefAns s) := by
  refine pcall_cut tab_all tab_mixed Tryz.func12 (by kernel_rfl) Tryz.ntmps12 rfl ?_
  conv => whnf
  conv => whnf
  repeat (first | (refine Conf.mk (by kernel_rfl) ?_; conv => whnf) | (refine SeqOk.go ?_; conv => whnf))
  by_cases hd : isDrop s = true
  · have hd' := hd
    unfold isDrop at hd'
    simp only [Bool.and_eq_true] at hd'
    obtain ⟨h1, h2⟩ := hd'
    have hp : isPut s = false := by unfold isPut; rw [put_drop h1]; rfl
    have hc := cutP_drop h1
    rw [hc] at h2
    have hsz : 5 < s.size := by have := (isW_size h2).1; rw [ByteArray.size_extract] at this; omega
    have he : s.extract 0 5 = dropW := by
      unfold hasPre at h1
      simp only [Bool.and_eq_true, decide_eq_true_eq] at h1
      exact h1.2
    rw [refAns_drop hp hd, hc]
    refine BoolCase.yes (by simp; omega) ?_
    conv => whnf
    repeat (first | (refine Conf.mk (by kernel_rfl) ?_; conv => whnf) | (refine SeqOk.go ?_; conv => whnf))
    refine .mk 0 5 rfl rfl (by omega) (by omega) ?_
    conv => whnf
    repeat (first | (refine Conf.mk (by kernel_rfl) ?_; conv => whnf) | (refine SeqOk.go ?_; conv => whnf))
    refine BoolCase.yes (decide_eq_true he) ?_
    conv => whnf
    repeat (first | (refine Conf.mk (by kernel_rfl) ?_; conv => whnf) | (refine SeqOk.go ?_; conv => whnf))
    refine .mk 5 s.size rfl rfl (by omega) (by omega) ?_
    conv => whnf
    repeat (first | (refine Conf.mk (by kernel_rfl) ?_; conv => whnf) | (refine SeqOk.go ?_; conv => whnf))
    refine .look _ _ (h2 ▸ refIsWord_ok (s.extract 5 s.size) (ext_size hs)).kb rfl rfl ?_
    conv => whnf
    repeat (first | (refine Conf.mk (by kernel_rfl) ?_; conv => whnf) | (refine SeqOk.go ?_; conv => whnf))
    refine .mk 5 s.size rfl rfl (by omega) (by omega) ?_
    conv => whnf
    repeat (first | (refine Conf.mk (by kernel_rfl) ?_; conv => whnf) | (refine SeqOk.go ?_; conv => whnf))
    exact Ret.to rfl
  · have hd : isDrop s = false := by simpa using hd
    by_cases h5 : 5 < s.size
    · refine BoolCase.yes (by simp; omega) ?_
      conv => whnf
      repeat (first | (refine Conf.mk (by kernel_rfl) ?_; conv => whnf) | (refine SeqOk.go ?_; conv => whnf))
      refine .mk 0 5 rfl rfl (by omega) (by omega) ?_
      conv => whnf
      repeat (first | (refine Conf.mk (by kernel_rfl) ?_; conv => whnf) | (refine SeqOk.go ?_; conv => whnf))
      by_cases he : s.extract 0 5 = dropW
      · have hpd : hasPre s dropW = true := by unfold hasPre; rw [decide_eq_true (by rw [dropW_size]; omega), Bool.true_and]; exact decide_eq_true he
        have hw : isW (s.extract 5 s.size) = false := by
          have := hd
          unfold isDrop at this
          rw [hpd, cutP_drop hpd, Bool.true_and] at this
          exact this
        refine BoolCase.yes (decide_eq_true he) ?_
        conv => whnf
        repeat (first | (refine Conf.mk (by kernel_rfl) ?_; conv => whnf) | (refine SeqOk.go ?_; conv => whnf))
        refine .mk 5 s.size rfl rfl (by omega) (by omega) ?_
        conv => whnf
        repeat (first | (refine Conf.mk (by kernel_rfl) ?_; conv => whnf) | (refine SeqOk.go ?_; conv => whnf))
        refine .look _ _ (hw ▸ refIsWord_ok (s.extract 5 s.size) (ext_size hs)).kb rfl rfl ?_
        conv => whnf
        repeat (first | (refine Conf.mk (by kernel_rfl) ?_; conv => whnf) | (refine SeqOk.go ?_; conv => whnf))
        by_cases h4 : 4 < s.size
        · refine BoolCase.yes (by simp; omega) ?_
          conv => whnf
          repeat (first | (refine Conf.mk (by kernel_rfl) ?_; conv => whnf) | (refine SeqOk.go ?_; conv => whnf))
          refine .mk 0 4 rfl rfl (by omega) (by omega) ?_
          conv => whnf
          repeat (first | (refine Conf.mk (by kernel_rfl) ?_; conv => whnf) | (refine SeqOk.go ?_; conv => whnf))
          by_cases he4 : s.extract 0 4 = putW
          · have hq : hasPre s putW = true := by unfold hasPre; rw [decide_eq_true (by rw [putW_size]; omega), Bool.true_and]; exact decide_eq_true he4
            refine BoolCase.yes (decide_eq_true he4) ?_
            conv => whnf
            repeat (first | (refine Conf.mk (by kernel_rfl) ?_; conv => whnf) | (refine SeqOk.go ?_; conv => whnf))
            refine LoopOk.hide fun Q1 hQ1 => ?_
            refine LoopOk.mk (fun m st => ∃ i, i + m = s.size ∧ 5 ≤ i ∧ (∀ j, 5 ≤ j → j < i → ¬ (s.data.toList[j]? = some 32 ∧ isW (s.extract 4 j) = true ∧ isW (s.extract (j + 1) s.size) = true)) ∧ st = ⟨[(5, dInt i), (0, .dat (.str s))], 0, []⟩) (s.size - 5) (Into.mono (Into.to [] [(5, dInt (5 : Nat)), (0, .dat (.str s))] [] (by repeat (first | exact trivial | refine ⟨.same (congrArg dInt (wrap_up (by omega))), ?_⟩ | refine ⟨.same rfl, ?_⟩ | refine ⟨.any _, ?_⟩)) trivial rfl rfl) fun s' h => ⟨5, by omega, by omega, fun j a b => by omega, h⟩) ?_
            rintro m st ⟨i, hi, h5i, hall, rfl⟩
            have hnext : ¬ (s.data.toList[i]? = some 32 ∧ isW (s.extract 4 i) = true ∧ isW (s.extract (i + 1) s.size) = true) → ∀ j, 5 ≤ j → j < i + 1 → ¬ (s.data.toList[j]? = some 32 ∧ isW (s.extract 4 j) = true ∧ isW (s.extract (j + 1) s.size) = true) := fun hn j a b => by
              by_cases hj : j = i
              · rw [hj]; exact hn
              · exact hall j a (by omega)
            conv => whnf
            repeat (first | (refine Conf.mk (by kernel_rfl) ?_; conv => whnf) | (refine SeqOk.go ?_; conv => whnf))
            by_cases hlt : i < s.size
            · obtain ⟨c, hc1, hc2⟩ := byteAt hlt
              refine BoolCase.yes (by simp; omega) ?_
              conv => whnf
              repeat (first | (refine Conf.mk (by kernel_rfl) ?_; conv => whnf) | (refine SeqOk.go ?_; conv => whnf))
              refine .mk i c rfl hc1 ?_
              conv => whnf
              repeat (first | (refine Conf.mk (by kernel_rfl) ?_; conv => whnf) | (refine SeqOk.go ?_; conv => whnf))
              have hw1 : ((i + 1 : Nat) : Int) = IntKind.i64.wrap ((i : Int) + 1) := wrap_up (by omega)
              by_cases hc : c = 32
              · rw [hc] at hc2
                refine BoolCase.yes (by rw [hc]; rfl) ?_
                conv => whnf
                repeat (first | (refine Conf.mk (by kernel_rfl) ?_; conv => whnf) | (refine SeqOk.go ?_; conv => whnf))
                refine .mk 4 i rfl rfl (by omega) (by omega) ?_
                conv => whnf
                repeat (first | (refine Conf.mk (by kernel_rfl) ?_; conv => whnf) | (refine SeqOk.go ?_; conv => whnf))
                cases hA : isW (s.extract 4 i)
                · have hno : ¬ (s.data.toList[i]? = some 32 ∧ isW (s.extract 4 i) = true ∧ isW (s.extract (i + 1) s.size) = true) := fun ⟨_, h, _⟩ => by rw [hA] at h; cases h
                  refine .look _ _ (hA ▸ refIsWord_ok (s.extract 4 i) (ext_size hs)).kb rfl rfl ?_
                  conv => whnf
                  repeat (first | (refine Conf.mk (by kernel_rfl) ?_; conv => whnf) | (refine SeqOk.go ?_; conv => whnf))
                  refine Into.mono (Into.to [] [(5, dInt (i + 1 : Nat)), (0, .dat (.str s))] [] (by repeat (first | exact trivial | refine ⟨.same (congrArg dInt (wrap_up (by omega))), ?_⟩ | refine ⟨.same rfl, ?_⟩ | refine ⟨.any _, ?_⟩)) trivial rfl rfl) fun s' h => ⟨m - 1, by omega, i + 1, by omega, by omega, hnext hno, h⟩
                · refine .look _ _ (hA ▸ refIsWord_ok (s.extract 4 i) (ext_size hs)).kb rfl rfl ?_
                  conv => whnf
                  repeat (first | (refine Conf.mk (by kernel_rfl) ?_; conv => whnf) | (refine SeqOk.go ?_; conv => whnf))
                  refine .mk (i + 1) s.size hw1.symm rfl (by omega) (Nat.le_refl _) ?_
                  conv => whnf
                  repeat (first | (refine Conf.mk (by kernel_rfl) ?_; conv => whnf) | (refine SeqOk.go ?_; conv => whnf))
                  cases hB : isW (s.extract (i + 1) s.size)
                  · have hno : ¬ (s.data.toList[i]? = some 32 ∧ isW (s.extract 4 i) = true ∧ isW (s.extract (i + 1) s.size) = true) := fun ⟨_, _, h⟩ => by rw [hB] at h; cases h
                    refine .look _ _ (hB ▸ refIsWord_ok (s.extract (i + 1) s.size) (ext_size hs)).kb rfl rfl ?_
                    conv => whnf
                    repeat (first | (refine Conf.mk (by kernel_rfl) ?_; conv => whnf) | (refine SeqOk.go ?_; conv => whnf))
                    refine Into.mono (Into.to [] [(5, dInt (i + 1 : Nat)), (0, .dat (.str s))] [] (by repeat (first | exact trivial | refine ⟨.same (congrArg dInt (wrap_up (by omega))), ?_⟩ | refine ⟨.same rfl, ?_⟩ | refine ⟨.any _, ?_⟩)) trivial rfl rfl) fun s' h => ⟨m - 1, by omega, i + 1, by omega, by omega, hnext hno, h⟩
                  · obtain ⟨hp, ha, hb⟩ := put_iff hq h5i hlt hc2 hA hB
                    refine .look _ _ (hB ▸ refIsWord_ok (s.extract (i + 1) s.size) (ext_size hs)).kb rfl rfl ?_
                    conv => whnf
                    repeat (first | (refine Conf.mk (by kernel_rfl) ?_; conv => whnf) | (refine SeqOk.go ?_; conv => whnf))
                    refine .mk 4 i rfl rfl (by omega) (by omega) ?_
                    conv => whnf
                    repeat (first | (refine Conf.mk (by kernel_rfl) ?_; conv => whnf) | (refine SeqOk.go ?_; conv => whnf))
                    refine .mk (i + 1) s.size hw1.symm rfl (by omega) (Nat.le_refl _) ?_
                    conv => whnf
                    repeat (first | (refine Conf.mk (by kernel_rfl) ?_; conv => whnf) | (refine SeqOk.go ?_; conv => whnf))
                    subst hQ1
                    conv => whnf
                    repeat (first | (refine Conf.mk (by kernel_rfl) ?_; conv => whnf) | (refine SeqOk.go ?_; conv => whnf))
                    rw [refAns_put hp, ha, hb]
                    exact Ret.to rfl
              · have hno : ¬ (s.data.toList[i]? = some 32 ∧ isW (s.extract 4 i) = true ∧ isW (s.extract (i + 1) s.size) = true) := fun ⟨h, _, _⟩ => by rw [hc2] at h; exact hc (by simpa using h)
                refine BoolCase.no (by
                  have : c.toNat ≠ 32 := fun h => hc (by rw [← UInt8.toNat_inj]; exact h)
                  simp; omega) ?_
                conv => whnf
                repeat (first | (refine Conf.mk (by kernel_rfl) ?_; conv => whnf) | (refine SeqOk.go ?_; conv => whnf))
                refine Into.mono (Into.to [] [(5, dInt (i + 1 : Nat)), (0, .dat (.str s))] [] (by repeat (first | exact trivial | refine ⟨.same (congrArg dInt (wrap_up (by omega))), ?_⟩ | refine ⟨.same rfl, ?_⟩ | refine ⟨.any _, ?_⟩)) trivial rfl rfl) fun s' h => ⟨m - 1, by omega, i + 1, by omega, by omega, hnext hno, h⟩
            · have hp : isPut s = false := by
                cases hp : isPut s
                · rfl
                · obtain ⟨j, a, b, c⟩ := put_at hp
                  exact absurd c (hall j a (by omega))
              refine BoolCase.no (by simp; omega) ?_
              conv => whnf
              repeat (first | (refine Conf.mk (by kernel_rfl) ?_; conv => whnf) | (refine SeqOk.go ?_; conv => whnf))
              subst hQ1
              conv => whnf
              repeat (first | (refine Conf.mk (by kernel_rfl) ?_; conv => whnf) | (refine SeqOk.go ?_; conv => whnf))
              rw [refAns_none hp hd]
              exact Ret.to rfl
          · have hp : isPut s = false := by
              cases hp : isPut s
              · rfl
              · unfold isPut hasPre at hp
                simp only [Bool.and_eq_true, decide_eq_true_eq] at hp
                exact absurd hp.1.2 he4
            refine BoolCase.no (decide_eq_false he4) ?_
            conv => whnf
            repeat (first | (refine Conf.mk (by kernel_rfl) ?_; conv => whnf) | (refine SeqOk.go ?_; conv => whnf))
            rw [refAns_none hp hd]
            exact Ret.to rfl
        · have hp : isPut s = false := by
            cases hp : isPut s
            · rfl
            · obtain ⟨i, a, b, c⟩ := put_at hp; omega
          refine BoolCase.no (by simp; omega) ?_
          conv => whnf
          repeat (first | (refine Conf.mk (by kernel_rfl) ?_; conv => whnf) | (refine SeqOk.go ?_; conv => whnf))
          rw [refAns_none hp hd]
          exact Ret.to rfl
      · refine BoolCase.no (decide_eq_false he) ?_
        conv => whnf
        repeat (first | (refine Conf.mk (by kernel_rfl) ?_; conv => whnf) | (refine SeqOk.go ?_; conv => whnf))
        by_cases h4 : 4 < s.size
        · refine BoolCase.yes (by simp; omega) ?_
          conv => whnf
          repeat (first | (refine Conf.mk (by kernel_rfl) ?_; conv => whnf) | (refine SeqOk.go ?_; conv => whnf))
          refine .mk 0 4 rfl rfl (by omega) (by omega) ?_
          conv => whnf
          repeat (first | (refine Conf.mk (by kernel_rfl) ?_; conv => whnf) | (refine SeqOk.go ?_; conv => whnf))
          by_cases he4 : s.extract 0 4 = putW
          · have hq : hasPre s putW = true := by unfold hasPre; rw [decide_eq_true (by rw [putW_size]; omega), Bool.true_and]; exact decide_eq_true he4
            refine BoolCase.yes (decide_eq_true he4) ?_
            conv => whnf
            repeat (first | (refine Conf.mk (by kernel_rfl) ?_; conv => whnf) | (refine SeqOk.go ?_; conv => whnf))
            refine LoopOk.hide fun Q1 hQ1 => ?_
            refine LoopOk.mk (fun m st => ∃ i, i + m = s.size ∧ 5 ≤ i ∧ (∀ j, 5 ≤ j → j < i → ¬ (s.data.toList[j]? = some 32 ∧ isW (s.extract 4 j) = true ∧ isW (s.extract (j + 1) s.size) = true)) ∧ st = ⟨[(5, dInt i), (0, .dat (.str s))], 0, []⟩) (s.size - 5) (Into.mono (Into.to [] [(5, dInt (5 : Nat)), (0, .dat (.str s))] [] (by repeat (first | exact trivial | refine ⟨.same (congrArg dInt (wrap_up (by omega))), ?_⟩ | refine ⟨.same rfl, ?_⟩ | refine ⟨.any _, ?_⟩)) trivial rfl rfl) fun s' h => ⟨5, by omega, by omega, fun j a b => by omega, h⟩) ?_
            rintro m st ⟨i, hi, h5i, hall, rfl⟩
            have hnext : ¬ (s.data.toList[i]? = some 32 ∧ isW (s.extract 4 i) = true ∧ isW (s.extract (i + 1) s.size) = true) → ∀ j, 5 ≤ j → j < i + 1 → ¬ (s.data.toList[j]? = some 32 ∧ isW (s.extract 4 j) = true ∧ isW (s.extract (j + 1) s.size) = true) := fun hn j a b => by
              by_cases hj : j = i
              · rw [hj]; exact hn
              · exact hall j a (by omega)
            conv => whnf
            repeat (first | (refine Conf.mk (by kernel_rfl) ?_; conv => whnf) | (refine SeqOk.go ?_; conv => whnf))
            by_cases hlt : i < s.size
            · obtain ⟨c, hc1, hc2⟩ := byteAt hlt
              refine BoolCase.yes (by simp; omega) ?_
              conv => whnf
              repeat (first | (refine Conf.mk (by kernel_rfl) ?_; conv => whnf) | (refine SeqOk.go ?_; conv => whnf))
              refine .mk i c rfl hc1 ?_
              conv => whnf
              repeat (first | (refine Conf.mk (by kernel_rfl) ?_; conv => whnf) | (refine SeqOk.go ?_; conv => whnf))
              have hw1 : ((i + 1 : Nat) : Int) = IntKind.i64.wrap ((i : Int) + 1) := wrap_up (by omega)
              by_cases hc : c = 32
              · rw [hc] at hc2
                refine BoolCase.yes (by rw [hc]; rfl) ?_
                conv => whnf
                repeat (first | (refine Conf.mk (by kernel_rfl) ?_; conv => whnf) | (refine SeqOk.go ?_; conv => whnf))
                refine .mk 4 i rfl rfl (by omega) (by omega) ?_
                conv => whnf
                repeat (first | (refine Conf.mk (by kernel_rfl) ?_; conv => whnf) | (refine SeqOk.go ?_; conv => whnf))
                cases hA : isW (s.extract 4 i)
                · have hno : ¬ (s.data.toList[i]? = some 32 ∧ isW (s.extract 4 i) = true ∧ isW (s.extract (i + 1) s.size) = true) := fun ⟨_, h, _⟩ => by rw [hA] at h; cases h
                  refine .look _ _ (hA ▸ refIsWord_ok (s.extract 4 i) (ext_size hs)).kb rfl rfl ?_
                  conv => whnf
                  repeat (first | (refine Conf.mk (by kernel_rfl) ?_; conv => whnf) | (refine SeqOk.go ?_; conv => whnf))
                  refine Into.mono (Into.to [] [(5, dInt (i + 1 : Nat)), (0, .dat (.str s))] [] (by repeat (first | exact trivial | refine ⟨.same (congrArg dInt (wrap_up (by omega))), ?_⟩ | refine ⟨.same rfl, ?_⟩ | refine ⟨.any _, ?_⟩)) trivial rfl rfl) fun s' h => ⟨m - 1, by omega, i + 1, by omega, by omega, hnext hno, h⟩
                · refine .look _ _ (hA ▸ refIsWord_ok (s.extract 4 i) (ext_size hs)).kb rfl rfl ?_
                  conv => whnf
                  repeat (first | (refine Conf.mk (by kernel_rfl) ?_; conv => whnf) | (refine SeqOk.go ?_; conv => whnf))
                  refine .mk (i + 1) s.size hw1.symm rfl (by omega) (Nat.le_refl _) ?_
                  conv => whnf
                  repeat (first | (refine Conf.mk (by kernel_rfl) ?_; conv => whnf) | (refine SeqOk.go ?_; conv => whnf))
                  cases hB : isW (s.extract (i + 1) s.size)
                  · have hno : ¬ (s.data.toList[i]? = some 32 ∧ isW (s.extract 4 i) = true ∧ isW (s.extract (i + 1) s.size) = true) := fun ⟨_, _, h⟩ => by rw [hB] at h; cases h
                    refine .look _ _ (hB ▸ refIsWord_ok (s.extract (i + 1) s.size) (ext_size hs)).kb rfl rfl ?_
                    conv => whnf
                    repeat (first | (refine Conf.mk (by kernel_rfl) ?_; conv => whnf) | (refine SeqOk.go ?_; conv => whnf))
                    refine Into.mono (Into.to [] [(5, dInt (i + 1 : Nat)), (0, .dat (.str s))] [] (by repeat (first | exact trivial | refine ⟨.same (congrArg dInt (wrap_up (by omega))), ?_⟩ | refine ⟨.same rfl, ?_⟩ | refine ⟨.any _, ?_⟩)) trivial rfl rfl) fun s' h => ⟨m - 1, by omega, i + 1, by omega, by omega, hnext hno, h⟩
                  · obtain ⟨hp, ha, hb⟩ := put_iff hq h5i hlt hc2 hA hB
                    refine .look _ _ (hB ▸ refIsWord_ok (s.extract (i + 1) s.size) (ext_size hs)).kb rfl rfl ?_
                    conv => whnf
                    repeat (first | (refine Conf.mk (by kernel_rfl) ?_; conv => whnf) | (refine SeqOk.go ?_; conv => whnf))
                    refine .mk 4 i rfl rfl (by omega) (by omega) ?_
                    conv => whnf
                    repeat (first | (refine Conf.mk (by kernel_rfl) ?_; conv => whnf) | (refine SeqOk.go ?_; conv => whnf))
                    refine .mk (i + 1) s.size hw1.symm rfl (by omega) (Nat.le_refl _) ?_
                    conv => whnf
                    repeat (first | (refine Conf.mk (by kernel_rfl) ?_; conv => whnf) | (refine SeqOk.go ?_; conv => whnf))
                    subst hQ1
                    conv => whnf
                    repeat (first | (refine Conf.mk (by kernel_rfl) ?_; conv => whnf) | (refine SeqOk.go ?_; conv => whnf))
                    rw [refAns_put hp, ha, hb]
                    exact Ret.to rfl
              · have hno : ¬ (s.data.toList[i]? = some 32 ∧ isW (s.extract 4 i) = true ∧ isW (s.extract (i + 1) s.size) = true) := fun ⟨h, _, _⟩ => by rw [hc2] at h; exact hc (by simpa using h)
                refine BoolCase.no (by
                  have : c.toNat ≠ 32 := fun h => hc (by rw [← UInt8.toNat_inj]; exact h)
                  simp; omega) ?_
                conv => whnf
                repeat (first | (refine Conf.mk (by kernel_rfl) ?_; conv => whnf) | (refine SeqOk.go ?_; conv => whnf))
                refine Into.mono (Into.to [] [(5, dInt (i + 1 : Nat)), (0, .dat (.str s))] [] (by repeat (first | exact trivial | refine ⟨.same (congrArg dInt (wrap_up (by omega))), ?_⟩ | refine ⟨.same rfl, ?_⟩ | refine ⟨.any _, ?_⟩)) trivial rfl rfl) fun s' h => ⟨m - 1, by omega, i + 1, by omega, by omega, hnext hno, h⟩
            · have hp : isPut s = false := by
                cases hp : isPut s
                · rfl
                · obtain ⟨j, a, b, c⟩ := put_at hp
                  exact absurd c (hall j a (by omega))
              refine BoolCase.no (by simp; omega) ?_
              conv => whnf
              repeat (first | (refine Conf.mk (by kernel_rfl) ?_; conv => whnf) | (refine SeqOk.go ?_; conv => whnf))
              subst hQ1
              conv => whnf
              repeat (first | (refine Conf.mk (by kernel_rfl) ?_; conv => whnf) | (refine SeqOk.go ?_; conv => whnf))
              rw [refAns_none hp hd]
              exact Ret.to rfl
          · have hp : isPut s = false := by
              cases hp : isPut s
              · rfl
              · unfold isPut hasPre at hp
                simp only [Bool.and_eq_true, decide_eq_true_eq] at hp
                exact absurd hp.1.2 he4
            refine BoolCase.no (decide_eq_false he4) ?_
            conv => whnf
            repeat (first | (refine Conf.mk (by kernel_rfl) ?_; conv => whnf) | (refine SeqOk.go ?_; conv => whnf))
            rw [refAns_none hp hd]
            exact Ret.to rfl
        · have hp : isPut s = false := by
            cases hp : isPut s
            · rfl
            · obtain ⟨i, a, b, c⟩ := put_at hp; omega
          refine BoolCase.no (by simp; omega) ?_
          conv => whnf
          repeat (first | (refine Conf.mk (by kernel_rfl) ?_; conv => whnf) | (refine SeqOk.go ?_; conv => whnf))
          rw [refAns_none hp hd]
          exact Ret.to rfl
    · refine BoolCase.no (by simp; omega) ?_
      conv => whnf
      repeat (first | (refine Conf.mk (by kernel_rfl) ?_; conv => whnf) | (refine SeqOk.go ?_; conv => whnf))
      by_cases h4 : 4 < s.size
      · refine BoolCase.yes (by simp; omega) ?_
        conv => whnf
        repeat (first | (refine Conf.mk (by kernel_rfl) ?_; conv => whnf) | (refine SeqOk.go ?_; conv => whnf))
        refine .mk 0 4 rfl rfl (by omega) (by omega) ?_
        conv => whnf
        repeat (first | (refine Conf.mk (by kernel_rfl) ?_; conv => whnf) | (refine SeqOk.go ?_; conv => whnf))
        by_cases he4 : s.extract 0 4 = putW
        · have hq : hasPre s putW = true := by unfold hasPre; rw [decide_eq_true (by rw [putW_size]; omega), Bool.true_and]; exact decide_eq_true he4
          refine BoolCase.yes (decide_eq_true he4) ?_
          conv => whnf
          repeat (first | (refine Conf.mk (by kernel_rfl) ?_; conv => whnf) | (refine SeqOk.go ?_; conv => whnf))
          refine LoopOk.hide fun Q1 hQ1 => ?_
          refine LoopOk.mk (fun m st => ∃ i, i + m = s.size ∧ 5 ≤ i ∧ (∀ j, 5 ≤ j → j < i → ¬ (s.data.toList[j]? = some 32 ∧ isW (s.extract 4 j) = true ∧ isW (s.extract (j + 1) s.size) = true)) ∧ st = ⟨[(5, dInt i), (0, .dat (.str s))], 0, []⟩) (s.size - 5) (Into.mono (Into.to [] [(5, dInt (5 : Nat)), (0, .dat (.str s))] [] (by repeat (first | exact trivial | refine ⟨.same (congrArg dInt (wrap_up (by omega))), ?_⟩ | refine ⟨.same rfl, ?_⟩ | refine ⟨.any _, ?_⟩)) trivial rfl rfl) fun s' h => ⟨5, by omega, by omega, fun j a b => by omega, h⟩) ?_
          rintro m st ⟨i, hi, h5i, hall, rfl⟩
          have hnext : ¬ (s.data.toList[i]? = some 32 ∧ isW (s.extract 4 i) = true ∧ isW (s.extract (i + 1) s.size) = true) → ∀ j, 5 ≤ j → j < i + 1 → ¬ (s.data.toList[j]? = some 32 ∧ isW (s.extract 4 j) = true ∧ isW (s.extract (j + 1) s.size) = true) := fun hn j a b => by
            by_cases hj : j = i
            · rw [hj]; exact hn
            · exact hall j a (by omega)
          conv => whnf
          repeat (first | (refine Conf.mk (by kernel_rfl) ?_; conv => whnf) | (refine SeqOk.go ?_; conv => whnf))
          by_cases hlt : i < s.size
          · obtain ⟨c, hc1, hc2⟩ := byteAt hlt
            refine BoolCase.yes (by simp; omega) ?_
            conv => whnf
            repeat (first | (refine Conf.mk (by kernel_rfl) ?_; conv => whnf) | (refine SeqOk.go ?_; conv => whnf))
            refine .mk i c rfl hc1 ?_
            conv => whnf
            repeat (first | (refine Conf.mk (by kernel_rfl) ?_; conv => whnf) | (refine SeqOk.go ?_; conv => whnf))
            have hw1 : ((i + 1 : Nat) : Int) = IntKind.i64.wrap ((i : Int) + 1) := wrap_up (by omega)
            by_cases hc : c = 32
            · rw [hc] at hc2
              refine BoolCase.yes (by rw [hc]; rfl) ?_
              conv => whnf
              repeat (first | (refine Conf.mk (by kernel_rfl) ?_; conv => whnf) | (refine SeqOk.go ?_; conv => whnf))
              refine .mk 4 i rfl rfl (by omega) (by omega) ?_
              conv => whnf
              repeat (first | (refine Conf.mk (by kernel_rfl) ?_; conv => whnf) | (refine SeqOk.go ?_; conv => whnf))
              cases hA : isW (s.extract 4 i)
              · have hno : ¬ (s.data.toList[i]? = some 32 ∧ isW (s.extract 4 i) = true ∧ isW (s.extract (i + 1) s.size) = true) := fun ⟨_, h, _⟩ => by rw [hA] at h; cases h
                refine .look _ _ (hA ▸ refIsWord_ok (s.extract 4 i) (ext_size hs)).kb rfl rfl ?_
                conv => whnf
                repeat (first | (refine Conf.mk (by kernel_rfl) ?_; conv => whnf) | (refine SeqOk.go ?_; conv => whnf))
                refine Into.mono (Into.to [] [(5, dInt (i + 1 : Nat)), (0, .dat (.str s))] [] (by repeat (first | exact trivial | refine ⟨.same (congrArg dInt (wrap_up (by omega))), ?_⟩ | refine ⟨.same rfl, ?_⟩ | refine ⟨.any _, ?_⟩)) trivial rfl rfl) fun s' h => ⟨m - 1, by omega, i + 1, by omega, by omega, hnext hno, h⟩
              · refine .look _ _ (hA ▸ refIsWord_ok (s.extract 4 i) (ext_size hs)).kb rfl rfl ?_
                conv => whnf
                repeat (first | (refine Conf.mk (by kernel_rfl) ?_; conv => whnf) | (refine SeqOk.go ?_; conv => whnf))
                refine .mk (i + 1) s.size hw1.symm rfl (by omega) (Nat.le_refl _) ?_
                conv => whnf
                repeat (first | (refine Conf.mk (by kernel_rfl) ?_; conv => whnf) | (refine SeqOk.go ?_; conv => whnf))
                cases hB : isW (s.extract (i + 1) s.size)
                · have hno : ¬ (s.data.toList[i]? = some 32 ∧ isW (s.extract 4 i) = true ∧ isW (s.extract (i + 1) s.size) = true) := fun ⟨_, _, h⟩ => by rw [hB] at h; cases h
                  refine .look _ _ (hB ▸ refIsWord_ok (s.extract (i + 1) s.size) (ext_size hs)).kb rfl rfl ?_
                  conv => whnf
                  repeat (first | (refine Conf.mk (by kernel_rfl) ?_; conv => whnf) | (refine SeqOk.go ?_; conv => whnf))
                  refine Into.mono (Into.to [] [(5, dInt (i + 1 : Nat)), (0, .dat (.str s))] [] (by repeat (first | exact trivial | refine ⟨.same (congrArg dInt (wrap_up (by omega))), ?_⟩ | refine ⟨.same rfl, ?_⟩ | refine ⟨.any _, ?_⟩)) trivial rfl rfl) fun s' h => ⟨m - 1, by omega, i + 1, by omega, by omega, hnext hno, h⟩
                · obtain ⟨hp, ha, hb⟩ := put_iff hq h5i hlt hc2 hA hB
                  refine .look _ _ (hB ▸ refIsWord_ok (s.extract (i + 1) s.size) (ext_size hs)).kb rfl rfl ?_
                  conv => whnf
                  repeat (first | (refine Conf.mk (by kernel_rfl) ?_; conv => whnf) | (refine SeqOk.go ?_; conv => whnf))
                  refine .mk 4 i rfl rfl (by omega) (by omega) ?_
                  conv => whnf
                  repeat (first | (refine Conf.mk (by kernel_rfl) ?_; conv => whnf) | (refine SeqOk.go ?_; conv => whnf))
                  refine .mk (i + 1) s.size hw1.symm rfl (by omega) (Nat.le_refl _) ?_
                  conv => whnf
                  repeat (first | (refine Conf.mk (by kernel_rfl) ?_; conv => whnf) | (refine SeqOk.go ?_; conv => whnf))
                  subst hQ1
                  conv => whnf
                  repeat (first | (refine Conf.mk (by kernel_rfl) ?_; conv => whnf) | (refine SeqOk.go ?_; conv => whnf))
                  rw [refAns_put hp, ha, hb]
                  exact Ret.to rfl
            · have hno : ¬ (s.data.toList[i]? = some 32 ∧ isW (s.extract 4 i) = true ∧ isW (s.extract (i + 1) s.size) = true) := fun ⟨h, _, _⟩ => by rw [hc2] at h; exact hc (by simpa using h)
              refine BoolCase.no (by
                have : c.toNat ≠ 32 := fun h => hc (by rw [← UInt8.toNat_inj]; exact h)
                simp; omega) ?_
              conv => whnf
              repeat (first | (refine Conf.mk (by kernel_rfl) ?_; conv => whnf) | (refine SeqOk.go ?_; conv => whnf))
              refine Into.mono (Into.to [] [(5, dInt (i + 1 : Nat)), (0, .dat (.str s))] [] (by repeat (first | exact trivial | refine ⟨.same (congrArg dInt (wrap_up (by omega))), ?_⟩ | refine ⟨.same rfl, ?_⟩ | refine ⟨.any _, ?_⟩)) trivial rfl rfl) fun s' h => ⟨m - 1, by omega, i + 1, by omega, by omega, hnext hno, h⟩
          · have hp : isPut s = false := by
              cases hp : isPut s
              · rfl
              · obtain ⟨j, a, b, c⟩ := put_at hp
                exact absurd c (hall j a (by omega))
            refine BoolCase.no (by simp; omega) ?_
            conv => whnf
            repeat (first | (refine Conf.mk (by kernel_rfl) ?_; conv => whnf) | (refine SeqOk.go ?_; conv => whnf))
            subst hQ1
            conv => whnf
            repeat (first | (refine Conf.mk (by kernel_rfl) ?_; conv => whnf) | (refine SeqOk.go ?_; conv => whnf))
            rw [refAns_none hp hd]
            exact Ret.to rfl
        · have hp : isPut s = false := by
            cases hp : isPut s
            · rfl
            · unfold isPut hasPre at hp
              simp only [Bool.and_eq_true, decide_eq_true_eq] at hp
              exact absurd hp.1.2 he4
          refine BoolCase.no (decide_eq_false he4) ?_
          conv => whnf
          repeat (first | (refine Conf.mk (by kernel_rfl) ?_; conv => whnf) | (refine SeqOk.go ?_; conv => whnf))
          rw [refAns_none hp hd]
          exact Ret.to rfl
      · have hp : isPut s = false := by
          cases hp : isPut s
          · rfl
          · obtain ⟨i, a, b, c⟩ := put_at hp; omega
        refine BoolCase.no (by simp; omega) ?_
        conv => whnf
        repeat (first | (refine Conf.mk (by kernel_rfl) ?_; conv => whnf) | (refine SeqOk.go ?_; conv => whnf))
        rw [refAns_none hp hd]
        exact Ret.to rfl
end Go.Proofs.YtlioojekjnigiaeGreat.AM.Fo
/- Reference: texts, rising. -/
namespace Go.Proofs.YtlioojekjnigiaeGreat.AM.Fo
set_option linter.unusedVariables false
set_option linter.unusedSimpArgs false
def leS (a b : ByteArray) : Bool := slt a b || decide (a = b)
theorem lt_of_len {α : Type} {enc : α → List D} {l : List α} {i : Nat} (h : decide ((i : Int) < ((l.map enc).length : Int)) = true) : i < l.length := by simpa using h
theorem ge_of_len {α : Type} {enc : α → List D} {l : List α} {i : Nat} (h : decide ((i : Int) < ((l.map enc).length : Int)) = false) : l.length ≤ i := by simpa using h
def wtGo (s : ByteArray) : List ByteArray → Bool → List ByteArray
  | [], put => if put = true then [] else [s]
  | x :: t, put => ((if put = false ∧ leS s x = true then [s] else []) ++ if x = s then [] else [x]) ++ wtGo s t (put || leS s x)
def withT (l : List ByteArray) (s : ByteArray) : List ByteArray := wtGo s l false
set_option maxHeartbeats 0 in
theorem withText_ok (l : List ByteArray) (s : ByteArray) (hl : l.length ≤ 1000) : PCall Tryz.prog 30 [.dat (.list (l.map encS)), .dat (.str s)] (.dat (.list ((withT l s).map encS))) := by
  refine pcall_cut tab_all tab_mixed Tryz.func30 (by kernel_rfl) Tryz.ntmps30 rfl ?_
  conv => whnf
  conv => whnf
  repeat (first | (refine Conf.mk (by kernel_rfl) ?_; conv => whnf) | (refine SeqOk.go ?_; conv => whnf))
  refine LoopOk.hide fun Q1 hQ1 => ?_
  refine LoopOk.mk (fun m st => ∃ i, ∃ (out : List ByteArray) (put : Bool), i + m = l.length ∧ out.length ≤ 2 * i ∧ withT l s = out ++ wtGo s (l.drop i) put ∧ st = ⟨[(7, dInt i), (6, dBool put), (5, .row 0), (0, .dat (.list (l.map encS))), (1, .dat (.str s))], 1, [(0, .rows 9 1 (out.map encS) true)]⟩) l.length ((Into.row 5 9 1 rfl).trans fun s' hs' => by
    subst hs'
    exact Into.mono (Into.to [0] [(7, dInt (0 : Nat)), (6, dBool false), (5, .row 0), (0, .dat (.list (l.map encS))), (1, .dat (.str s))] [(0, .rows 9 1 (([] : List ByteArray).map encS) true)] ⟨.same rfl, (by first | exact .same rfl | exact .kb _), .same rfl, .same rfl, .same rfl, trivial⟩ ⟨⟨rfl, rfl, rfl, rfl⟩, trivial⟩ rfl rfl) fun s' h => ⟨0, [], false, by omega, Nat.zero_le _, rfl, h⟩) ?_
  rintro m st ⟨i, out, put, hi, ho, hw, rfl⟩
  conv => whnf
  repeat (first | (refine Conf.mk (by kernel_rfl) ?_; conv => whnf) | (refine SeqOk.go ?_; conv => whnf))
  refine ⟨fun h => ?_, fun h => ?_⟩
  · have hi' := lt_of_len h
    rw [List.drop_eq_getElem_cons hi'] at hw
    unfold wtGo at hw
    have hof : out.length ≤ 2 * i := ho
    cases put
    · conv => whnf
      repeat (first | (refine Conf.mk (by kernel_rfl) ?_; conv => whnf) | (refine SeqOk.go ?_; conv => whnf))
      refine BoolCase.yes rfl ?_
      conv => whnf
      repeat (first | (refine Conf.mk (by kernel_rfl) ?_; conv => whnf) | (refine SeqOk.go ?_; conv => whnf))
      refine AtIdx.ofMap hi' rfl ?_
      conv => whnf
      repeat (first | (refine Conf.mk (by kernel_rfl) ?_; conv => whnf) | (refine SeqOk.go ?_; conv => whnf))
      cases hle : leS s l[i]
      · refine BoolCase.no hle ?_
        conv => whnf
        repeat (first | (refine Conf.mk (by kernel_rfl) ?_; conv => whnf) | (refine SeqOk.go ?_; conv => whnf))
        refine AtIdx.ofMap hi' rfl ?_
        conv => whnf
        repeat (first | (refine Conf.mk (by kernel_rfl) ?_; conv => whnf) | (refine SeqOk.go ?_; conv => whnf))
        by_cases he : l[i] = s
        · refine BoolCase.no (by simp [he]) ?_
          conv => whnf
          repeat (first | (refine Conf.mk (by kernel_rfl) ?_; conv => whnf) | (refine SeqOk.go ?_; conv => whnf))
          refine Into.mono (Into.to [0] [(7, dInt (i + 1 : Nat)), (6, dBool false), (5, .row 0), (0, .dat (.list (l.map encS))), (1, .dat (.str s))] [(0, .rows 9 1 ((out).map encS) true)] ⟨.same (congrArg dInt (wrap_up (by omega))), (by first | exact .same rfl | exact .kb _), .same rfl, .same rfl, .same rfl, trivial⟩ ⟨⟨rfl, rfl, rfl, by simp [encS]⟩, trivial⟩ rfl rfl) fun s' h => ⟨m - 1, by omega, i + 1, out, false, by omega, by first | omega | (simp; omega), ?_, h⟩
          rw [hw]; have hle' := he ▸ hle; simp [hle', he]
        · refine BoolCase.yes (by simp [he]) ?_
          conv => whnf
          repeat (first | (refine Conf.mk (by kernel_rfl) ?_; conv => whnf) | (refine SeqOk.go ?_; conv => whnf))
          refine AtIdx.ofMap hi' rfl ?_
          conv => whnf
          repeat (first | (refine Conf.mk (by kernel_rfl) ?_; conv => whnf) | (refine SeqOk.go ?_; conv => whnf))
          refine .mk (by simp [encS]) (by simp; omega) ?_
          conv => whnf
          repeat (first | (refine Conf.mk (by kernel_rfl) ?_; conv => whnf) | (refine SeqOk.go ?_; conv => whnf))
          refine Into.mono (Into.to [2] [(7, dInt (i + 1 : Nat)), (6, dBool false), (5, .row 0), (0, .dat (.list (l.map encS))), (1, .dat (.str s))] [(0, .rows 9 1 ((out ++ [l[i]]).map encS) true)] ⟨.same (congrArg dInt (wrap_up (by omega))), (by first | exact .same rfl | exact .kb _), .same rfl, .same rfl, .same rfl, trivial⟩ ⟨⟨rfl, rfl, rfl, by simp [encS]⟩, trivial⟩ rfl rfl) fun s' h => ⟨m - 1, by omega, i + 1, out ++ [l[i]], false, by omega, by first | omega | (simp; omega), ?_, h⟩
          rw [hw]; simp [hle, he]
      · refine BoolCase.yes hle ?_
        conv => whnf
        repeat (first | (refine Conf.mk (by kernel_rfl) ?_; conv => whnf) | (refine SeqOk.go ?_; conv => whnf))
        refine .mk (by simp [encS]) (by simp; omega) ?_
        conv => whnf
        repeat (first | (refine Conf.mk (by kernel_rfl) ?_; conv => whnf) | (refine SeqOk.go ?_; conv => whnf))
        refine AtIdx.ofMap hi' rfl ?_
        conv => whnf
        repeat (first | (refine Conf.mk (by kernel_rfl) ?_; conv => whnf) | (refine SeqOk.go ?_; conv => whnf))
        by_cases he : l[i] = s
        · refine BoolCase.no (by simp [he]) ?_
          conv => whnf
          repeat (first | (refine Conf.mk (by kernel_rfl) ?_; conv => whnf) | (refine SeqOk.go ?_; conv => whnf))
          refine Into.mono (Into.to [2] [(7, dInt (i + 1 : Nat)), (6, dBool true), (5, .row 0), (0, .dat (.list (l.map encS))), (1, .dat (.str s))] [(0, .rows 9 1 ((out ++ [s]).map encS) true)] ⟨.same (congrArg dInt (wrap_up (by omega))), (by first | exact .same rfl | exact .kb _), .same rfl, .same rfl, .same rfl, trivial⟩ ⟨⟨rfl, rfl, rfl, by simp [encS]⟩, trivial⟩ rfl rfl) fun s' h => ⟨m - 1, by omega, i + 1, out ++ [s], true, by omega, by first | omega | (simp; omega), ?_, h⟩
          rw [hw]; have hle' := he ▸ hle; simp [hle', he]
        · refine BoolCase.yes (by simp [he]) ?_
          conv => whnf
          repeat (first | (refine Conf.mk (by kernel_rfl) ?_; conv => whnf) | (refine SeqOk.go ?_; conv => whnf))
          refine AtIdx.ofMap hi' rfl ?_
          conv => whnf
          repeat (first | (refine Conf.mk (by kernel_rfl) ?_; conv => whnf) | (refine SeqOk.go ?_; conv => whnf))
          refine .mk (by simp [encS]) (by simp; omega) ?_
          conv => whnf
          repeat (first | (refine Conf.mk (by kernel_rfl) ?_; conv => whnf) | (refine SeqOk.go ?_; conv => whnf))
          refine Into.mono (Into.to [4] [(7, dInt (i + 1 : Nat)), (6, dBool true), (5, .row 0), (0, .dat (.list (l.map encS))), (1, .dat (.str s))] [(0, .rows 9 1 ((out ++ [s] ++ [l[i]]).map encS) true)] ⟨.same (congrArg dInt (wrap_up (by omega))), (by first | exact .same rfl | exact .kb _), .same rfl, .same rfl, .same rfl, trivial⟩ ⟨⟨rfl, rfl, rfl, by simp [encS]⟩, trivial⟩ rfl rfl) fun s' h => ⟨m - 1, by omega, i + 1, out ++ [s] ++ [l[i]], true, by omega, by first | omega | (simp; omega), ?_, h⟩
          rw [hw]; simp [hle, he]
    · conv => whnf
      repeat (first | (refine Conf.mk (by kernel_rfl) ?_; conv => whnf) | (refine SeqOk.go ?_; conv => whnf))
      refine BoolCase.no rfl ?_
      conv => whnf
      repeat (first | (refine Conf.mk (by kernel_rfl) ?_; conv => whnf) | (refine SeqOk.go ?_; conv => whnf))
      refine AtIdx.ofMap hi' rfl ?_
      conv => whnf
      repeat (first | (refine Conf.mk (by kernel_rfl) ?_; conv => whnf) | (refine SeqOk.go ?_; conv => whnf))
      by_cases he : l[i] = s
      · refine BoolCase.no (by simp [he]) ?_
        conv => whnf
        repeat (first | (refine Conf.mk (by kernel_rfl) ?_; conv => whnf) | (refine SeqOk.go ?_; conv => whnf))
        refine Into.mono (Into.to [0] [(7, dInt (i + 1 : Nat)), (6, dBool true), (5, .row 0), (0, .dat (.list (l.map encS))), (1, .dat (.str s))] [(0, .rows 9 1 ((out).map encS) true)] ⟨.same (congrArg dInt (wrap_up (by omega))), (by first | exact .same rfl | exact .kb _), .same rfl, .same rfl, .same rfl, trivial⟩ ⟨⟨rfl, rfl, rfl, by simp [encS]⟩, trivial⟩ rfl rfl) fun s' h => ⟨m - 1, by omega, i + 1, out, true, by omega, by first | omega | (simp; omega), ?_, h⟩
        rw [hw]; simp [Bool.true_or, he]
      · refine BoolCase.yes (by simp [he]) ?_
        conv => whnf
        repeat (first | (refine Conf.mk (by kernel_rfl) ?_; conv => whnf) | (refine SeqOk.go ?_; conv => whnf))
        refine AtIdx.ofMap hi' rfl ?_
        conv => whnf
        repeat (first | (refine Conf.mk (by kernel_rfl) ?_; conv => whnf) | (refine SeqOk.go ?_; conv => whnf))
        refine .mk (by simp [encS]) (by simp; omega) ?_
        conv => whnf
        repeat (first | (refine Conf.mk (by kernel_rfl) ?_; conv => whnf) | (refine SeqOk.go ?_; conv => whnf))
        refine Into.mono (Into.to [2] [(7, dInt (i + 1 : Nat)), (6, dBool true), (5, .row 0), (0, .dat (.list (l.map encS))), (1, .dat (.str s))] [(0, .rows 9 1 ((out ++ [l[i]]).map encS) true)] ⟨.same (congrArg dInt (wrap_up (by omega))), (by first | exact .same rfl | exact .kb _), .same rfl, .same rfl, .same rfl, trivial⟩ ⟨⟨rfl, rfl, rfl, by simp [encS]⟩, trivial⟩ rfl rfl) fun s' h => ⟨m - 1, by omega, i + 1, out ++ [l[i]], true, by omega, by first | omega | (simp; omega), ?_, h⟩
        rw [hw]; simp [Bool.true_or, he]
  · have hi' := ge_of_len h
    rw [List.drop_eq_nil_of_le hi'] at hw
    conv => whnf
    repeat (first | (refine Conf.mk (by kernel_rfl) ?_; conv => whnf) | (refine SeqOk.go ?_; conv => whnf))
    subst hQ1
    conv => whnf
    repeat (first | (refine Conf.mk (by kernel_rfl) ?_; conv => whnf) | (refine SeqOk.go ?_; conv => whnf))
    cases put
    · refine BoolCase.yes rfl ?_
      conv => whnf
      repeat (first | (refine Conf.mk (by kernel_rfl) ?_; conv => whnf) | (refine SeqOk.go ?_; conv => whnf))
      refine .mk (by simp [encS]) (by simp; omega) ?_
      conv => whnf
      repeat (first | (refine Conf.mk (by kernel_rfl) ?_; conv => whnf) | (refine SeqOk.go ?_; conv => whnf))
      exact Ret.to (by rw [hw]; simp [wtGo, encS])
    · refine BoolCase.no rfl ?_
      conv => whnf
      repeat (first | (refine Conf.mk (by kernel_rfl) ?_; conv => whnf) | (refine SeqOk.go ?_; conv => whnf))
      exact Ret.to (by rw [hw]; simp [wtGo, encS])
end Go.Proofs.YtlioojekjnigiaeGreat.AM.Fo
/- Reference: values of a key. -/
namespace Go.Proofs.YtlioojekjnigiaeGreat.AM.Fo
set_option linter.unusedVariables false
set_option linter.unusedSimpArgs false

set_option maxHeartbeats 0 in
theorem sameS_kb (a : List ByteArray) (h : a.length ≤ 140737488355327) : PCall Tryz.prog 15 [.dat (.list (a.map encS)), .dat (.list (a.map encS))] (.kb true) := by
  refine PCall.kb ?_
  refine pcall_cut tab_all tab_mixed Tryz.func15 (by kernel_rfl) Tryz.ntmps15 rfl ?_
  conv => whnf
  conv => whnf
  repeat (first | (refine Conf.mk (by kernel_rfl) ?_; conv => whnf) | (refine SeqOk.go ?_; conv => whnf))
  refine BoolCase.no (by simp) ?_
  conv => whnf
  repeat (first | (refine Conf.mk (by kernel_rfl) ?_; conv => whnf) | (refine SeqOk.go ?_; conv => whnf))
  refine LoopOk.hide fun Q1 hQ1 => ?_
  refine LoopOk.mk (fun m s => ∃ i, i + m = a.length ∧ s = ⟨[(5, dInt i), (0, .dat (.list (a.map encS))), (1, .dat (.list (a.map encS)))], 0, []⟩) a.length (Into.mono (Into.to [] [(5, dInt (0 : Nat)), (0, .dat (.list (a.map encS))), (1, .dat (.list (a.map encS)))] [] (by repeat (first | exact trivial | refine ⟨.same (congrArg dInt (wrap_up (by omega))), ?_⟩ | refine ⟨.same rfl, ?_⟩ | refine ⟨.any _, ?_⟩)) trivial rfl rfl) fun s' h => ⟨0, by omega, h⟩) ?_
  rintro m s ⟨i, him, rfl⟩
  conv => whnf
  repeat (first | (refine Conf.mk (by kernel_rfl) ?_; conv => whnf) | (refine SeqOk.go ?_; conv => whnf))
  refine ⟨fun h => ?_, fun h => ?_⟩
  · have hi' := lt_of_len h
    conv => whnf
    repeat (first | (refine Conf.mk (by kernel_rfl) ?_; conv => whnf) | (refine SeqOk.go ?_; conv => whnf))
    refine AtIdx.ofMap hi' rfl ?_
    conv => whnf
    repeat (first | (refine Conf.mk (by kernel_rfl) ?_; conv => whnf) | (refine SeqOk.go ?_; conv => whnf))
    refine AtIdx.ofMap hi' rfl ?_
    conv => whnf
    repeat (first | (refine Conf.mk (by kernel_rfl) ?_; conv => whnf) | (refine SeqOk.go ?_; conv => whnf))
    refine BoolCase.no (by simp) ?_
    conv => whnf
    repeat (first | (refine Conf.mk (by kernel_rfl) ?_; conv => whnf) | (refine SeqOk.go ?_; conv => whnf))
    exact Into.mono (Into.to [] [(5, dInt (i + 1 : Nat)), (0, .dat (.list (a.map encS))), (1, .dat (.list (a.map encS)))] [] (by repeat (first | exact trivial | refine ⟨.same (congrArg dInt (wrap_up (by omega))), ?_⟩ | refine ⟨.same rfl, ?_⟩ | refine ⟨.any _, ?_⟩)) trivial rfl rfl) fun s' h => ⟨m - 1, by omega, i + 1, by omega, h⟩
  · conv => whnf
    repeat (first | (refine Conf.mk (by kernel_rfl) ?_; conv => whnf) | (refine SeqOk.go ?_; conv => whnf))
    subst hQ1
    conv => whnf
    exact Ret.bool rfl
set_option maxHeartbeats 0 in
theorem sameMap_kb (a : List PairD) (h : a.length ≤ 140737488355327) (hv : ∀ p ∈ a, p.vals.length ≤ 140737488355327) : PCall Tryz.prog 14 [.dat (.list (a.map PairD.enc)), .dat (.list (a.map PairD.enc))] (.kb true) := by
  refine PCall.kb ?_
  refine pcall_cut tab_all tab_mixed Tryz.func14 (by kernel_rfl) Tryz.ntmps14 rfl ?_
  conv => whnf
  conv => whnf
  repeat (first | (refine Conf.mk (by kernel_rfl) ?_; conv => whnf) | (refine SeqOk.go ?_; conv => whnf))
  refine BoolCase.no (by simp) ?_
  conv => whnf
  repeat (first | (refine Conf.mk (by kernel_rfl) ?_; conv => whnf) | (refine SeqOk.go ?_; conv => whnf))
  refine LoopOk.hide fun Q1 hQ1 => ?_
  refine LoopOk.mk (fun m s => ∃ i, i + m = a.length ∧ s = ⟨[(5, dInt i), (0, .dat (.list (a.map PairD.enc))), (1, .dat (.list (a.map PairD.enc)))], 0, []⟩) a.length (Into.mono (Into.to [] [(5, dInt (0 : Nat)), (0, .dat (.list (a.map PairD.enc))), (1, .dat (.list (a.map PairD.enc)))] [] (by repeat (first | exact trivial | refine ⟨.same (congrArg dInt (wrap_up (by omega))), ?_⟩ | refine ⟨.same rfl, ?_⟩ | refine ⟨.any _, ?_⟩)) trivial rfl rfl) fun s' h => ⟨0, by omega, h⟩) ?_
  rintro m s ⟨i, him, rfl⟩
  conv => whnf
  repeat (first | (refine Conf.mk (by kernel_rfl) ?_; conv => whnf) | (refine SeqOk.go ?_; conv => whnf))
  refine ⟨fun h => ?_, fun h => ?_⟩
  · have hi' := lt_of_len h
    conv => whnf
    repeat (first | (refine Conf.mk (by kernel_rfl) ?_; conv => whnf) | (refine SeqOk.go ?_; conv => whnf))
    refine AtIdx.ofMap hi' rfl ?_
    conv => whnf
    repeat (first | (refine Conf.mk (by kernel_rfl) ?_; conv => whnf) | (refine SeqOk.go ?_; conv => whnf))
    refine AtIdx.ofMap hi' rfl ?_
    conv => whnf
    repeat (first | (refine Conf.mk (by kernel_rfl) ?_; conv => whnf) | (refine SeqOk.go ?_; conv => whnf))
    refine BoolCase.no (by simp) ?_
    conv => whnf
    repeat (first | (refine Conf.mk (by kernel_rfl) ?_; conv => whnf) | (refine SeqOk.go ?_; conv => whnf))
    refine AtIdx.ofMap hi' rfl ?_
    conv => whnf
    repeat (first | (refine Conf.mk (by kernel_rfl) ?_; conv => whnf) | (refine SeqOk.go ?_; conv => whnf))
    refine AtIdx.ofMap hi' rfl ?_
    conv => whnf
    repeat (first | (refine Conf.mk (by kernel_rfl) ?_; conv => whnf) | (refine SeqOk.go ?_; conv => whnf))
    refine .look _ _ (sameS_kb a[i].vals (hv _ (List.getElem_mem hi'))) rfl rfl ?_
    conv => whnf
    repeat (first | (refine Conf.mk (by kernel_rfl) ?_; conv => whnf) | (refine SeqOk.go ?_; conv => whnf))
    exact Into.mono (Into.to [] [(5, dInt (i + 1 : Nat)), (0, .dat (.list (a.map PairD.enc))), (1, .dat (.list (a.map PairD.enc)))] [] (by repeat (first | exact trivial | refine ⟨.same (congrArg dInt (wrap_up (by omega))), ?_⟩ | refine ⟨.same rfl, ?_⟩ | refine ⟨.any _, ?_⟩)) trivial rfl rfl) fun s' h => ⟨m - 1, by omega, i + 1, by omega, h⟩
  · conv => whnf
    repeat (first | (refine Conf.mk (by kernel_rfl) ?_; conv => whnf) | (refine SeqOk.go ?_; conv => whnf))
    subst hQ1
    conv => whnf
    exact Ret.bool rfl
/-- Is an entry an op of a key, of some colors, that has a place in its past? -/
def hides (l : List Entry') (c : Int) (k : ByteArray) (i n : Nat) : Bool := match l[n]? with
  | some e => opKind e.text != 0 && (decide (opKey e.text = k) && (meets e.colors c && isIn (pastBs l n) i))
  | none => false
def hidTo (l : List Entry') (c : Int) (k : ByteArray) (i n : Nat) : Bool := (List.range n).any (hides l c k i)
theorem hidTo_up (l : List Entry') (c : Int) (k : ByteArray) (i n : Nat) : hidTo l c k i (n + 1) = (hidTo l c k i n || hides l c k i n) := by
  unfold hidTo
  rw [List.range_succ, List.any_append]
  simp
/-- Does a value stand? -/
def valAt (l : List Entry') (c : Int) (k : ByteArray) (i : Nat) : Option ByteArray := match l[i]? with
  | some e => if opKind e.text = 1 ∧ opKey e.text = k ∧ meets e.colors c = true ∧ hidTo l c k i l.length = false then some (opVal e.text) else none
  | none => none
def valsTo (l : List Entry') (c : Int) (k : ByteArray) : Nat → List ByteArray
  | 0 => []
  | i + 1 => match valAt l c k i with
    | some v => withT (valsTo l c k i) v
    | none => valsTo l c k i
def valsOf (l : List Entry') (c : Int) (k : ByteArray) : List ByteArray := valsTo l c k l.length
theorem wtGo_len (s : ByteArray) : ∀ (l : List ByteArray) (b : Bool), (wtGo s l b).length ≤ l.length + if b = true then 0 else 1
  | [], b => by unfold wtGo; split <;> simp
  | x :: t, b => by
    unfold wtGo
    have := wtGo_len s t (b || leS s x)
    rw [List.length_append, List.length_append, List.length_cons]
    have h2 : (if x = s then ([] : List ByteArray) else [x]).length ≤ 1 := by split <;> simp
    generalize (if x = s then ([] : List ByteArray) else [x]).length = z at *
    cases b
    · cases h : leS s x
      · rw [h] at this
        rw [if_neg (fun k => absurd k.2 (by decide))]
        simp only [Bool.or_false, Bool.false_eq_true, if_false, List.length_nil] at this ⊢
        omega
      · rw [h] at this
        rw [if_pos ⟨rfl, rfl⟩]
        simp only [Bool.or_true, Bool.false_eq_true, if_true, if_false, List.length_singleton] at this ⊢
        omega
    · rw [if_neg (fun k => absurd k.1 (by decide))]
      simp only [Bool.true_or, if_true, List.length_nil] at this ⊢
      omega
theorem withT_len (l : List ByteArray) (s : ByteArray) : (withT l s).length ≤ l.length + 1 := wtGo_len s l false
theorem valsTo_len (l : List Entry') (c : Int) (k : ByteArray) : ∀ i, (valsTo l c k i).length ≤ i
  | 0 => Nat.le_refl _
  | i + 1 => by
    unfold valsTo
    have := valsTo_len l c k i
    split
    · rename_i v _
      have := withT_len (valsTo l c k i) v
      omega
    · omega
end Go.Proofs.YtlioojekjnigiaeGreat.AM.Fo
/- Reference: values of a key, the walk. -/
namespace Go.Proofs.YtlioojekjnigiaeGreat.AM.Fo
set_option linter.unusedVariables false
set_option linter.unusedSimpArgs false

theorem valsTo_no {l : List Entry'} {c : Int} {k : ByteArray} {i : Nat} (h : valAt l c k i = none) : valsTo l c k (i + 1) = valsTo l c k i := by
  show (match valAt l c k i with | some v => withT (valsTo l c k i) v | none => valsTo l c k i) = _
  rw [h]
theorem valsTo_yes {l : List Entry'} {c : Int} {k v : ByteArray} {i : Nat} (h : valAt l c k i = some v) : valsTo l c k (i + 1) = withT (valsTo l c k i) v := by
  show (match valAt l c k i with | some v => withT (valsTo l c k i) v | none => valsTo l c k i) = _
  rw [h]
theorem hides_at {l : List Entry'} {c : Int} {k : ByteArray} {i n : Nat} (h : n < l.length) : hides l c k i n = (opKind l[n].text != 0 && (decide (opKey l[n].text = k) && (meets l[n].colors c && isIn (pastBs l n) i))) := by
  unfold hides
  rw [List.getElem?_eq_getElem h]
set_option maxHeartbeats 0 in
theorem valuesOf_ok (l : List Entry') (hr : Right l) (c : Int) (k : ByteArray) : PCall Tryz.prog 11 [.dat (.list (l.map Entry'.enc)), dInt c, .dat (.str k)] (.dat (.list ((valsOf l c k).map encS))) := by
  have hlen := hr.len
  have htx : ∀ e ∈ l, e.text.size ≤ 140737488355327 := fun e he => by have := (six_of (hr.mem he)).1; omega
  refine pcall_cut tab_all tab_mixed Tryz.func11 (by kernel_rfl) Tryz.ntmps11 rfl ?_
  conv => whnf
  conv => whnf
  repeat (first | (refine Conf.mk (by kernel_rfl) ?_; conv => whnf) | (refine SeqOk.go ?_; conv => whnf))
  refine LoopOk.hide fun Q1 hQ1 => ?_
  refine LoopOk.mk (fun m st => ∃ i, i + m = l.length ∧ st = ⟨[(8, dInt i), (7, .dat (.list ((valsTo l c k i).map encS))), (0, .dat (.list (l.map Entry'.enc))), (1, dInt c), (2, .dat (.str k))], 0, []⟩) l.length (Into.mono (Into.to [] [(8, dInt (0 : Nat)), (7, .dat (.list ((valsTo l c k 0).map encS))), (0, .dat (.list (l.map Entry'.enc))), (1, dInt c), (2, .dat (.str k))] [] ⟨.same rfl, .data rfl, .same rfl, .same rfl, .same rfl, trivial⟩ trivial rfl rfl) fun s' h => ⟨0, by omega, h⟩) ?_
  rintro m st ⟨i, hi, rfl⟩
  have hvl := valsTo_len l c k i
  conv => whnf
  repeat (first | (refine Conf.mk (by kernel_rfl) ?_; conv => whnf) | (refine SeqOk.go ?_; conv => whnf))
  refine ⟨fun h => ?_, fun h => ?_⟩
  · have hi' := lt_of_len h
    conv => whnf
    repeat (first | (refine Conf.mk (by kernel_rfl) ?_; conv => whnf) | (refine SeqOk.go ?_; conv => whnf))
    refine AtIdx.ofMap hi' rfl ?_
    conv => whnf
    repeat (first | (refine Conf.mk (by kernel_rfl) ?_; conv => whnf) | (refine SeqOk.go ?_; conv => whnf))
    refine .data _ _ (opOf_ok l[i].text (htx _ (List.getElem_mem hi'))) rfl ?_
    conv => whnf
    repeat (first | (refine Conf.mk (by kernel_rfl) ?_; conv => whnf) | (refine SeqOk.go ?_; conv => whnf))
    by_cases h1 : opKind l[i].text = 1
    · refine BoolCase.no (by simp [h1]) ?_
      conv => whnf
      repeat (first | (refine Conf.mk (by kernel_rfl) ?_; conv => whnf) | (refine SeqOk.go ?_; conv => whnf))
      by_cases h2 : opKey l[i].text = k
      · refine BoolCase.no (by simp [h2]) ?_
        conv => whnf
        repeat (first | (refine Conf.mk (by kernel_rfl) ?_; conv => whnf) | (refine SeqOk.go ?_; conv => whnf))
        refine AtIdx.ofMap hi' rfl ?_
        conv => whnf
        repeat (first | (refine Conf.mk (by kernel_rfl) ?_; conv => whnf) | (refine SeqOk.go ?_; conv => whnf))
        refine .look _ _ (meets_ok _ _) rfl rfl ?_
        conv => whnf
        repeat (first | (refine Conf.mk (by kernel_rfl) ?_; conv => whnf) | (refine SeqOk.go ?_; conv => whnf))
        cases h3 : meets l[i].colors c
        · have hno : valAt l c k i = none := by unfold valAt; rw [List.getElem?_eq_getElem hi']; exact if_neg fun h => by rw [h3] at h; exact absurd h.2.2.1 (by decide)
          refine BoolCase.yes rfl ?_
          conv => whnf
          repeat (first | (refine Conf.mk (by kernel_rfl) ?_; conv => whnf) | (refine SeqOk.go ?_; conv => whnf))
          refine Into.mono (Into.to [] [(8, dInt (i + 1 : Nat)), (7, .dat (.list ((valsTo l c k (i + 1)).map encS))), (0, .dat (.list (l.map Entry'.enc))), (1, dInt c), (2, .dat (.str k))] [] ⟨.same (congrArg dInt (wrap_up (by omega))), .same (by rw [valsTo_no hno]; rfl), .same rfl, .same rfl, .same rfl, trivial⟩ trivial rfl rfl) fun s' h => ⟨m - 1, by omega, i + 1, by omega, h⟩
        · refine BoolCase.no rfl ?_
          conv => whnf
          repeat (first | (refine Conf.mk (by kernel_rfl) ?_; conv => whnf) | (refine SeqOk.go ?_; conv => whnf))
          refine LoopOk.hide fun Q2 hQ2 => ?_
          refine LoopOk.mk (fun m2 st => ∃ n, n + m2 = l.length ∧ st = ⟨[(13, dInt n), (12, dBool (!hidTo l c k i n)), (8, dInt i), (7, .dat (.list ((valsTo l c k i).map encS))), (11, .dat (.str (opVal l[i].text))), (0, .dat (.list (l.map Entry'.enc))), (1, dInt c), (2, .dat (.str k))], 0, []⟩) l.length (Into.mono (Into.to [] [(13, dInt (0 : Nat)), (12, dBool (!hidTo l c k i 0)), (8, dInt i), (7, .dat (.list ((valsTo l c k i).map encS))), (11, .dat (.str (opVal l[i].text))), (0, .dat (.list (l.map Entry'.enc))), (1, dInt c), (2, .dat (.str k))] [] ⟨.same rfl, .kb _, .same rfl, .same rfl, .same rfl, .same rfl, .same rfl, .same rfl, trivial⟩ trivial rfl rfl) fun s' h => ⟨0, by omega, h⟩) ?_
          rintro m2 st ⟨n, hn, rfl⟩
          have hup := hidTo_up l c k i n
          conv => whnf
          repeat (first | (refine Conf.mk (by kernel_rfl) ?_; conv => whnf) | (refine SeqOk.go ?_; conv => whnf))
          refine ⟨fun h => ?_, fun h => ?_⟩
          · have hn' := lt_of_len h
            rw [hides_at hn'] at hup
            conv => whnf
            repeat (first | (refine Conf.mk (by kernel_rfl) ?_; conv => whnf) | (refine SeqOk.go ?_; conv => whnf))
            refine AtIdx.ofMap hn' rfl ?_
            conv => whnf
            repeat (first | (refine Conf.mk (by kernel_rfl) ?_; conv => whnf) | (refine SeqOk.go ?_; conv => whnf))
            refine .data _ _ (opOf_ok l[n].text (htx _ (List.getElem_mem hn'))) rfl ?_
            conv => whnf
            repeat (first | (refine Conf.mk (by kernel_rfl) ?_; conv => whnf) | (refine SeqOk.go ?_; conv => whnf))
            by_cases g1 : opKind l[n].text = 0
            · have hno2 : (opKind l[n].text != 0 && (decide (opKey l[n].text = k) && (meets l[n].colors c && isIn (pastBs l n) i))) = false := by simp [g1]
              refine BoolCase.no (by simp [g1]) ?_
              conv => whnf
              repeat (first | (refine Conf.mk (by kernel_rfl) ?_; conv => whnf) | (refine SeqOk.go ?_; conv => whnf))
              refine Into.mono (Into.to [] [(13, dInt (n + 1 : Nat)), (12, dBool (!hidTo l c k i (n + 1))), (8, dInt i), (7, .dat (.list ((valsTo l c k i).map encS))), (11, .dat (.str (opVal l[i].text))), (0, .dat (.list (l.map Entry'.enc))), (1, dInt c), (2, .dat (.str k))] [] ⟨.same (congrArg dInt (wrap_up (by omega))), .same (by rw [hup, hno2, Bool.or_false]; rfl), .same rfl, .same rfl, .same rfl, .same rfl, .same rfl, .same rfl, trivial⟩ trivial rfl rfl) fun s' h => ⟨m2 - 1, by omega, n + 1, by omega, h⟩
            · refine BoolCase.yes (by simp [g1]) ?_
              conv => whnf
              repeat (first | (refine Conf.mk (by kernel_rfl) ?_; conv => whnf) | (refine SeqOk.go ?_; conv => whnf))
              by_cases g2 : opKey l[n].text = k
              · refine BoolCase.yes (by simp [g2]) ?_
                conv => whnf
                repeat (first | (refine Conf.mk (by kernel_rfl) ?_; conv => whnf) | (refine SeqOk.go ?_; conv => whnf))
                refine AtIdx.ofMap hn' rfl ?_
                conv => whnf
                repeat (first | (refine Conf.mk (by kernel_rfl) ?_; conv => whnf) | (refine SeqOk.go ?_; conv => whnf))
                refine .look _ _ (meets_ok _ _) rfl rfl ?_
                conv => whnf
                repeat (first | (refine Conf.mk (by kernel_rfl) ?_; conv => whnf) | (refine SeqOk.go ?_; conv => whnf))
                cases g3 : meets l[n].colors c
                · have hno2 : (opKind l[n].text != 0 && (decide (opKey l[n].text = k) && (meets l[n].colors c && isIn (pastBs l n) i))) = false := by simp [g3]
                  refine BoolCase.no rfl ?_
                  conv => whnf
                  repeat (first | (refine Conf.mk (by kernel_rfl) ?_; conv => whnf) | (refine SeqOk.go ?_; conv => whnf))
                  refine Into.mono (Into.to [] [(13, dInt (n + 1 : Nat)), (12, dBool (!hidTo l c k i (n + 1))), (8, dInt i), (7, .dat (.list ((valsTo l c k i).map encS))), (11, .dat (.str (opVal l[i].text))), (0, .dat (.list (l.map Entry'.enc))), (1, dInt c), (2, .dat (.str k))] [] ⟨.same (congrArg dInt (wrap_up (by omega))), .same (by rw [hup, hno2, Bool.or_false]; rfl), .same rfl, .same rfl, .same rfl, .same rfl, .same rfl, .same rfl, trivial⟩ trivial rfl rfl) fun s' h => ⟨m2 - 1, by omega, n + 1, by omega, h⟩
                · refine BoolCase.yes rfl ?_
                  conv => whnf
                  repeat (first | (refine Conf.mk (by kernel_rfl) ?_; conv => whnf) | (refine SeqOk.go ?_; conv => whnf))
                  refine .data _ _ (pastOfB_ok l hr n hn') rfl ?_
                  conv => whnf
                  repeat (first | (refine Conf.mk (by kernel_rfl) ?_; conv => whnf) | (refine SeqOk.go ?_; conv => whnf))
                  have hpl : i < (pastBs l n).length := by unfold pastBs; rw [pastB_length]; exact hi'
                  have hin : isIn (pastBs l n) i = (pastBs l n)[i] := by unfold isIn; rw [List.getElem?_eq_getElem hpl]; rfl
                  refine AtIdx.ofMap hpl rfl ?_
                  conv => whnf
                  repeat (first | (refine Conf.mk (by kernel_rfl) ?_; conv => whnf) | (refine SeqOk.go ?_; conv => whnf))
                  cases g4 : (pastBs l n)[i]
                  · have hno2 : (opKind l[n].text != 0 && (decide (opKey l[n].text = k) && (meets l[n].colors c && isIn (pastBs l n) i))) = false := by simp [hin, g4]
                    refine BoolCase.no rfl ?_
                    conv => whnf
                    repeat (first | (refine Conf.mk (by kernel_rfl) ?_; conv => whnf) | (refine SeqOk.go ?_; conv => whnf))
                    refine Into.mono (Into.to [] [(13, dInt (n + 1 : Nat)), (12, dBool (!hidTo l c k i (n + 1))), (8, dInt i), (7, .dat (.list ((valsTo l c k i).map encS))), (11, .dat (.str (opVal l[i].text))), (0, .dat (.list (l.map Entry'.enc))), (1, dInt c), (2, .dat (.str k))] [] ⟨.same (congrArg dInt (wrap_up (by omega))), .same (by rw [hup, hno2, Bool.or_false]; rfl), .same rfl, .same rfl, .same rfl, .same rfl, .same rfl, .same rfl, trivial⟩ trivial rfl rfl) fun s' h => ⟨m2 - 1, by omega, n + 1, by omega, h⟩
                  · have hyes : hidTo l c k i (n + 1) = true := by rw [hup, hin, g4, g3]; simp [g1, g2]
                    refine BoolCase.yes rfl ?_
                    conv => whnf
                    repeat (first | (refine Conf.mk (by kernel_rfl) ?_; conv => whnf) | (refine SeqOk.go ?_; conv => whnf))
                    refine Into.mono (Into.to [] [(13, dInt (n + 1 : Nat)), (12, dBool (!hidTo l c k i (n + 1))), (8, dInt i), (7, .dat (.list ((valsTo l c k i).map encS))), (11, .dat (.str (opVal l[i].text))), (0, .dat (.list (l.map Entry'.enc))), (1, dInt c), (2, .dat (.str k))] [] ⟨.same (congrArg dInt (wrap_up (by omega))), (by rw [hyes]; first | exact .same rfl | exact .kb _), .same rfl, .same rfl, .same rfl, .same rfl, .same rfl, .same rfl, trivial⟩ trivial rfl rfl) fun s' h => ⟨m2 - 1, by omega, n + 1, by omega, h⟩
              · have hno2 : (opKind l[n].text != 0 && (decide (opKey l[n].text = k) && (meets l[n].colors c && isIn (pastBs l n) i))) = false := by simp [g2]
                refine BoolCase.no (by simp [g2]) ?_
                conv => whnf
                repeat (first | (refine Conf.mk (by kernel_rfl) ?_; conv => whnf) | (refine SeqOk.go ?_; conv => whnf))
                refine Into.mono (Into.to [] [(13, dInt (n + 1 : Nat)), (12, dBool (!hidTo l c k i (n + 1))), (8, dInt i), (7, .dat (.list ((valsTo l c k i).map encS))), (11, .dat (.str (opVal l[i].text))), (0, .dat (.list (l.map Entry'.enc))), (1, dInt c), (2, .dat (.str k))] [] ⟨.same (congrArg dInt (wrap_up (by omega))), .same (by rw [hup, hno2, Bool.or_false]; rfl), .same rfl, .same rfl, .same rfl, .same rfl, .same rfl, .same rfl, trivial⟩ trivial rfl rfl) fun s' h => ⟨m2 - 1, by omega, n + 1, by omega, h⟩
          · have hn' := ge_of_len h
            obtain rfl : n = l.length := by omega
            conv => whnf
            repeat (first | (refine Conf.mk (by kernel_rfl) ?_; conv => whnf) | (refine SeqOk.go ?_; conv => whnf))
            subst hQ2
            conv => whnf
            conv => whnf
            repeat (first | (refine Conf.mk (by kernel_rfl) ?_; conv => whnf) | (refine SeqOk.go ?_; conv => whnf))
            cases g5 : hidTo l c k i l.length
            · have hyes : valAt l c k i = some (opVal l[i].text) := by unfold valAt; rw [List.getElem?_eq_getElem hi']; exact if_pos ⟨h1, h2, h3, g5⟩
              refine BoolCase.yes rfl ?_
              conv => whnf
              repeat (first | (refine Conf.mk (by kernel_rfl) ?_; conv => whnf) | (refine SeqOk.go ?_; conv => whnf))
              refine .data _ _ (withText_ok (valsTo l c k i) (opVal l[i].text) (by omega)) rfl ?_
              conv => whnf
              repeat (first | (refine Conf.mk (by kernel_rfl) ?_; conv => whnf) | (refine SeqOk.go ?_; conv => whnf))
              refine Into.mono (Into.to [] [(8, dInt (i + 1 : Nat)), (7, .dat (.list ((valsTo l c k (i + 1)).map encS))), (0, .dat (.list (l.map Entry'.enc))), (1, dInt c), (2, .dat (.str k))] [] ⟨.same (congrArg dInt (wrap_up (by omega))), .same (by rw [valsTo_yes hyes]; rfl), .same rfl, .same rfl, .same rfl, trivial⟩ trivial rfl rfl) fun s' h => ⟨m - 1, by omega, i + 1, by omega, h⟩
            · have hno : valAt l c k i = none := by unfold valAt; rw [List.getElem?_eq_getElem hi']; exact if_neg fun h => by rw [g5] at h; exact absurd h.2.2.2 (by decide)
              refine BoolCase.no rfl ?_
              conv => whnf
              repeat (first | (refine Conf.mk (by kernel_rfl) ?_; conv => whnf) | (refine SeqOk.go ?_; conv => whnf))
              refine Into.mono (Into.to [] [(8, dInt (i + 1 : Nat)), (7, .dat (.list ((valsTo l c k (i + 1)).map encS))), (0, .dat (.list (l.map Entry'.enc))), (1, dInt c), (2, .dat (.str k))] [] ⟨.same (congrArg dInt (wrap_up (by omega))), .same (by rw [valsTo_no hno]; rfl), .same rfl, .same rfl, .same rfl, trivial⟩ trivial rfl rfl) fun s' h => ⟨m - 1, by omega, i + 1, by omega, h⟩
      · have hno : valAt l c k i = none := by unfold valAt; rw [List.getElem?_eq_getElem hi']; exact if_neg fun h => h2 h.2.1
        refine BoolCase.yes (by simp [h2]) ?_
        conv => whnf
        repeat (first | (refine Conf.mk (by kernel_rfl) ?_; conv => whnf) | (refine SeqOk.go ?_; conv => whnf))
        refine Into.mono (Into.to [] [(8, dInt (i + 1 : Nat)), (7, .dat (.list ((valsTo l c k (i + 1)).map encS))), (0, .dat (.list (l.map Entry'.enc))), (1, dInt c), (2, .dat (.str k))] [] ⟨.same (congrArg dInt (wrap_up (by omega))), .same (by rw [valsTo_no hno]; rfl), .same rfl, .same rfl, .same rfl, trivial⟩ trivial rfl rfl) fun s' h => ⟨m - 1, by omega, i + 1, by omega, h⟩
    · have hno : valAt l c k i = none := by unfold valAt; rw [List.getElem?_eq_getElem hi']; exact if_neg fun h => h1 h.1
      refine BoolCase.yes (by simp [h1]) ?_
      conv => whnf
      repeat (first | (refine Conf.mk (by kernel_rfl) ?_; conv => whnf) | (refine SeqOk.go ?_; conv => whnf))
      refine Into.mono (Into.to [] [(8, dInt (i + 1 : Nat)), (7, .dat (.list ((valsTo l c k (i + 1)).map encS))), (0, .dat (.list (l.map Entry'.enc))), (1, dInt c), (2, .dat (.str k))] [] ⟨.same (congrArg dInt (wrap_up (by omega))), .same (by rw [valsTo_no hno]; rfl), .same rfl, .same rfl, .same rfl, trivial⟩ trivial rfl rfl) fun s' h => ⟨m - 1, by omega, i + 1, by omega, h⟩
  · have hi' := ge_of_len h
    obtain rfl : i = l.length := by omega
    conv => whnf
    repeat (first | (refine Conf.mk (by kernel_rfl) ?_; conv => whnf) | (refine SeqOk.go ?_; conv => whnf))
    subst hQ1
    conv => whnf
    exact Ret.to rfl
end Go.Proofs.YtlioojekjnigiaeGreat.AM.Fo
/- Reference: the map. -/
namespace Go.Proofs.YtlioojekjnigiaeGreat.AM.Fo
set_option linter.unusedVariables false
set_option linter.unusedSimpArgs false
def keysTo (l : List Entry') : Nat → List ByteArray
  | 0 => []
  | i + 1 => match l[i]? with
    | some e => if opKind e.text = 1 then withT (keysTo l i) (opKey e.text) else keysTo l i
    | none => keysTo l i
theorem keysTo_up {l : List Entry'} {i : Nat} (h : i < l.length) : keysTo l (i + 1) = if opKind l[i].text = 1 then withT (keysTo l i) (opKey l[i].text) else keysTo l i := by
  show (match l[i]? with | some e => if opKind e.text = 1 then withT (keysTo l i) (opKey e.text) else keysTo l i | none => keysTo l i) = _
  rw [List.getElem?_eq_getElem h]
theorem keysTo_len (l : List Entry') : ∀ i, (keysTo l i).length ≤ i
  | 0 => Nat.le_refl _
  | i + 1 => by
    unfold keysTo
    have := keysTo_len l i
    split
    · rename_i e _
      have := withT_len (keysTo l i) (opKey e.text)
      split <;> omega
    · omega
def keysOf (l : List Entry') : List ByteArray := keysTo l l.length
def pairAt (l : List Entry') (c : Int) (k : ByteArray) : Option PairD := if 0 < (valsOf l c k).length then some ⟨k, valsOf l c k⟩ else none
def mapOf (l : List Entry') (c : Int) : List PairD := (keysOf l).filterMap (pairAt l c)
def mapTo (l : List Entry') (c : Int) (j : Nat) : List PairD := ((keysOf l).take j).filterMap (pairAt l c)
theorem mapTo_up {l : List Entry'} {c : Int} {j : Nat} (h : j < (keysOf l).length) : mapTo l c (j + 1) = mapTo l c j ++ (match pairAt l c (keysOf l)[j] with | some p => [p] | none => []) := by
  unfold mapTo
  rw [List.take_add_one, List.getElem?_eq_getElem h, List.filterMap_append]
  congr 1
  show List.filterMap _ [_] = _
  cases h2 : pairAt l c (keysOf l)[j] <;> simp [h2]
theorem mapTo_len (l : List Entry') (c : Int) (j : Nat) : (mapTo l c j).length ≤ j := by
  unfold mapTo
  exact Nat.le_trans (List.length_filterMap_le _ _) (by simp; omega)
set_option maxHeartbeats 0 in
theorem mapOf_ok (l : List Entry') (hr : Right l) (c : Int) : PCall Tryz.prog 10 [.dat (.list (l.map Entry'.enc)), dInt c] (.dat (.list ((mapOf l c).map PairD.enc))) := by
  have hlen := hr.len
  have htx : ∀ e ∈ l, e.text.size ≤ 140737488355327 := fun e he => by have := (six_of (hr.mem he)).1; omega
  have hkl : (keysOf l).length ≤ l.length := keysTo_len l _
  refine pcall_cut tab_all tab_mixed Tryz.func10 (by kernel_rfl) Tryz.ntmps10 rfl ?_
  conv => whnf
  conv => whnf
  repeat (first | (refine Conf.mk (by kernel_rfl) ?_; conv => whnf) | (refine SeqOk.go ?_; conv => whnf))
  refine LoopOk.hide fun Q1 hQ1 => ?_
  refine LoopOk.mk (fun m st => ∃ i, i + m = l.length ∧ st = ⟨[(6, dInt i), (5, .dat (.list ((keysTo l i).map encS))), (0, .dat (.list (l.map Entry'.enc))), (1, dInt c)], 0, []⟩) l.length (Into.mono (Into.to [] [(6, dInt (0 : Nat)), (5, .dat (.list ((keysTo l 0).map encS))), (0, .dat (.list (l.map Entry'.enc))), (1, dInt c)] [] ⟨.same rfl, .data rfl, .same rfl, .same rfl, trivial⟩ trivial rfl rfl) fun s' h => ⟨0, by omega, h⟩) ?_
  rintro m st ⟨i, hi, rfl⟩
  have hvl := keysTo_len l i
  conv => whnf
  repeat (first | (refine Conf.mk (by kernel_rfl) ?_; conv => whnf) | (refine SeqOk.go ?_; conv => whnf))
  refine ⟨fun h => ?_, fun h => ?_⟩
  · have hi' := lt_of_len h
    have hup := keysTo_up hi'
    conv => whnf
    repeat (first | (refine Conf.mk (by kernel_rfl) ?_; conv => whnf) | (refine SeqOk.go ?_; conv => whnf))
    refine AtIdx.ofMap hi' rfl ?_
    conv => whnf
    repeat (first | (refine Conf.mk (by kernel_rfl) ?_; conv => whnf) | (refine SeqOk.go ?_; conv => whnf))
    refine .data _ _ (opOf_ok l[i].text (htx _ (List.getElem_mem hi'))) rfl ?_
    conv => whnf
    repeat (first | (refine Conf.mk (by kernel_rfl) ?_; conv => whnf) | (refine SeqOk.go ?_; conv => whnf))
    by_cases h1 : opKind l[i].text = 1
    · rw [if_pos h1] at hup
      refine BoolCase.yes (by simp [h1]) ?_
      conv => whnf
      repeat (first | (refine Conf.mk (by kernel_rfl) ?_; conv => whnf) | (refine SeqOk.go ?_; conv => whnf))
      refine .data _ _ (withText_ok (keysTo l i) (opKey l[i].text) (by omega)) rfl ?_
      conv => whnf
      repeat (first | (refine Conf.mk (by kernel_rfl) ?_; conv => whnf) | (refine SeqOk.go ?_; conv => whnf))
      refine Into.mono (Into.to [] [(6, dInt (i + 1 : Nat)), (5, .dat (.list ((keysTo l (i + 1)).map encS))), (0, .dat (.list (l.map Entry'.enc))), (1, dInt c)] [] ⟨.same (congrArg dInt (wrap_up (by omega))), .same (by rw [hup]; rfl), .same rfl, .same rfl, trivial⟩ trivial rfl rfl) fun s' h => ⟨m - 1, by omega, i + 1, by omega, h⟩
    · rw [if_neg h1] at hup
      refine BoolCase.no (by simp [h1]) ?_
      conv => whnf
      repeat (first | (refine Conf.mk (by kernel_rfl) ?_; conv => whnf) | (refine SeqOk.go ?_; conv => whnf))
      refine Into.mono (Into.to [] [(6, dInt (i + 1 : Nat)), (5, .dat (.list ((keysTo l (i + 1)).map encS))), (0, .dat (.list (l.map Entry'.enc))), (1, dInt c)] [] ⟨.same (congrArg dInt (wrap_up (by omega))), .same (by rw [hup]; rfl), .same rfl, .same rfl, trivial⟩ trivial rfl rfl) fun s' h => ⟨m - 1, by omega, i + 1, by omega, h⟩
  · have hi' := ge_of_len h
    obtain rfl : i = l.length := by omega
    conv => whnf
    repeat (first | (refine Conf.mk (by kernel_rfl) ?_; conv => whnf) | (refine SeqOk.go ?_; conv => whnf))
    subst hQ1
    conv => whnf
    conv => whnf
    repeat (first | (refine Conf.mk (by kernel_rfl) ?_; conv => whnf) | (refine SeqOk.go ?_; conv => whnf))
    refine LoopOk.hide fun Q2 hQ2 => ?_
    refine LoopOk.mk (fun m st => ∃ j, j + m = (keysOf l).length ∧ st = ⟨[(11, dInt j), (10, .row 0), (5, .dat (.list ((keysOf l).map encS))), (0, .dat (.list (l.map Entry'.enc))), (1, dInt c)], 1, [(0, .rows 60 2 ((mapTo l c j).map PairD.enc) true)]⟩) (keysOf l).length ((Into.row 10 60 2 rfl).trans fun s' hs' => by
      subst hs'
      exact Into.mono (Into.to [0] [(11, dInt (0 : Nat)), (10, .row 0), (5, .dat (.list ((keysOf l).map encS))), (0, .dat (.list (l.map Entry'.enc))), (1, dInt c)] [(0, .rows 60 2 ((mapTo l c 0).map PairD.enc) true)] (by repeat (first | exact trivial | refine ⟨.same (congrArg dInt (wrap_up (by omega))), ?_⟩ | refine ⟨.same rfl, ?_⟩ | refine ⟨.any _, ?_⟩)) ⟨⟨rfl, rfl, rfl, rfl⟩, trivial⟩ rfl rfl) fun s' h => ⟨0, by omega, h⟩) ?_
    rintro m st ⟨j, hj, rfl⟩
    have hml := mapTo_len l c j
    conv => whnf
    repeat (first | (refine Conf.mk (by kernel_rfl) ?_; conv => whnf) | (refine SeqOk.go ?_; conv => whnf))
    refine ⟨fun h => ?_, fun h => ?_⟩
    · have hj' := lt_of_len h
      have hup := mapTo_up (l := l) (c := c) hj'
      conv => whnf
      repeat (first | (refine Conf.mk (by kernel_rfl) ?_; conv => whnf) | (refine SeqOk.go ?_; conv => whnf))
      refine AtIdx.ofMap hj' rfl ?_
      conv => whnf
      repeat (first | (refine Conf.mk (by kernel_rfl) ?_; conv => whnf) | (refine SeqOk.go ?_; conv => whnf))
      refine .data _ _ (valuesOf_ok l hr c (keysOf l)[j]) rfl ?_
      conv => whnf
      repeat (first | (refine Conf.mk (by kernel_rfl) ?_; conv => whnf) | (refine SeqOk.go ?_; conv => whnf))
      by_cases h1 : 0 < (valsOf l c (keysOf l)[j]).length
      · have hp : pairAt l c (keysOf l)[j] = some ⟨(keysOf l)[j], valsOf l c (keysOf l)[j]⟩ := by unfold pairAt; rw [if_pos h1]
        rw [hp] at hup
        refine BoolCase.yes (by simp; omega) ?_
        conv => whnf
        repeat (first | (refine Conf.mk (by kernel_rfl) ?_; conv => whnf) | (refine SeqOk.go ?_; conv => whnf))
        refine AtIdx.ofMap hj' rfl ?_
        conv => whnf
        repeat (first | (refine Conf.mk (by kernel_rfl) ?_; conv => whnf) | (refine SeqOk.go ?_; conv => whnf))
        refine .mk (by simp) (by simp; omega) ?_
        conv => whnf
        repeat (first | (refine Conf.mk (by kernel_rfl) ?_; conv => whnf) | (refine SeqOk.go ?_; conv => whnf))
        refine Into.mono (Into.to [2] [(11, dInt (j + 1 : Nat)), (10, .row 0), (5, .dat (.list ((keysOf l).map encS))), (0, .dat (.list (l.map Entry'.enc))), (1, dInt c)] [(0, .rows 60 2 ((mapTo l c (j + 1)).map PairD.enc) true)] (by repeat (first | exact trivial | refine ⟨.same (congrArg dInt (wrap_up (by omega))), ?_⟩ | refine ⟨.same rfl, ?_⟩ | refine ⟨.any _, ?_⟩)) ⟨⟨rfl, rfl, rfl, by rw [hup, List.map_append]; rfl⟩, trivial⟩ rfl rfl) fun s' h => ⟨m - 1, by omega, j + 1, by omega, h⟩
      · have hp : pairAt l c (keysOf l)[j] = none := by unfold pairAt; rw [if_neg h1]
        rw [hp, List.append_nil] at hup
        have h0 : (valsOf l c (keysOf l)[j]).length = 0 := by omega
        refine BoolCase.no (by rw [List.length_map, h0]; rfl) ?_
        conv => whnf
        repeat (first | (refine Conf.mk (by kernel_rfl) ?_; conv => whnf) | (refine SeqOk.go ?_; conv => whnf))
        refine Into.mono (Into.to [0] [(11, dInt (j + 1 : Nat)), (10, .row 0), (5, .dat (.list ((keysOf l).map encS))), (0, .dat (.list (l.map Entry'.enc))), (1, dInt c)] [(0, .rows 60 2 ((mapTo l c (j + 1)).map PairD.enc) true)] (by repeat (first | exact trivial | refine ⟨.same (congrArg dInt (wrap_up (by omega))), ?_⟩ | refine ⟨.same rfl, ?_⟩ | refine ⟨.any _, ?_⟩)) ⟨⟨rfl, rfl, rfl, by rw [hup]⟩, trivial⟩ rfl rfl) fun s' h => ⟨m - 1, by omega, j + 1, by omega, h⟩
    · have hj' := ge_of_len h
      have hme : mapTo l c j = mapOf l c := by unfold mapTo mapOf; rw [List.take_of_length_le hj']
      rw [hme]
      conv => whnf
      repeat (first | (refine Conf.mk (by kernel_rfl) ?_; conv => whnf) | (refine SeqOk.go ?_; conv => whnf))
      subst hQ2
      conv => whnf
      exact Ret.to rfl
end Go.Proofs.YtlioojekjnigiaeGreat.AM.Fo
/- Pairs, plainly: the program's are the reference's. -/
namespace Go.Proofs.YtlioojekjnigiaeGreat.AM.Fo
set_option linter.unusedVariables false
set_option linter.unusedSimpArgs false

/-- One text ahead of another one. -/
def Bef (a b : ByteArray) : Prop := a.toList < b.toList
theorem toList_inj {a b : ByteArray} (h : a.toList = b.toList) : a = b := by
  rw [Lib.toList_data, Lib.toList_data] at h
  exact ByteArray.ext (Array.toList_inj.1 h)
theorem bef_irrefl (a : ByteArray) : ¬ Bef a a := List.lt_irrefl _
theorem bef_trans {a b c : ByteArray} (h : Bef a b) (k : Bef b c) : Bef a c := List.lt_trans h k
theorem bef_tri (a b : ByteArray) : Bef a b ∨ a = b ∨ Bef b a := by
  rcases str_tri a b with h | h | h
  · exact .inl h
  · exact .inr (.inl (toList_inj h))
  · exact .inr (.inr h)
theorem leS_iff {a b : ByteArray} : leS a b = true ↔ Bef a b ∨ a = b := by
  unfold leS
  rw [Bool.or_eq_true, slt_iff, decide_eq_true_eq]
  rfl
theorem leS_not {a b : ByteArray} (h : leS a b = false) : Bef b a := by
  rcases bef_tri a b with k | k | k
  · exact absurd (leS_iff.2 (.inl k)) (by simp [h])
  · exact absurd (leS_iff.2 (.inr k)) (by simp [h])
  · exact k
theorem mem_wtGo (s : ByteArray) : ∀ (l : List ByteArray) (put : Bool) (x : ByteArray), x ∈ wtGo s l put ↔ (x ∈ l ∧ x ≠ s) ∨ (x = s ∧ put = false)
  | [], put, x => by cases put <;> simp [wtGo]
  | y :: t, put, x => by
    unfold wtGo
    rw [List.mem_append, List.mem_append, mem_wtGo s t]
    cases put <;> cases h : leS s y <;> by_cases hy : y = s <;> by_cases hx : x = s <;> simp [h, hy, hx] <;> first | exact fun e => hy e.symm | (subst hy; simp_all [leS_iff])
theorem wtGo_true (s : ByteArray) {l : List ByteArray} (h : l.Pairwise Bef) : (wtGo s l true).Pairwise Bef := by
  induction l with
  | nil => unfold wtGo; simp
  | cons y t ih =>
    rw [List.pairwise_cons] at h
    unfold wtGo
    rw [if_neg (fun k => absurd k.1 (by decide)), List.nil_append, Bool.true_or]
    by_cases hy : y = s
    · rw [if_pos hy]; exact ih h.2
    · rw [if_neg hy, List.singleton_append, List.pairwise_cons]
      refine ⟨fun x hx => ?_, ih h.2⟩
      rcases (mem_wtGo s t true x).1 hx with k | k
      · exact h.1 x k.1
      · exact absurd k.2 (by decide)
theorem wtGo_false (s : ByteArray) {l : List ByteArray} (h : l.Pairwise Bef) : (wtGo s l false).Pairwise Bef := by
  induction l with
  | nil => unfold wtGo; simp
  | cons y t ih =>
    have h0 := h
    rw [List.pairwise_cons] at h
    unfold wtGo
    cases hle : leS s y
    · have hys := leS_not hle
      have hy : y ≠ s := fun k => bef_irrefl s (by rw [k] at hys; exact hys)
      rw [if_neg (fun k => absurd k.2 (by decide)), List.nil_append, Bool.false_or, if_neg hy, List.singleton_append, List.pairwise_cons]
      refine ⟨fun x hx => ?_, ih h.2⟩
      rcases (mem_wtGo s t false x).1 hx with k | k
      · exact h.1 x k.1
      · rw [k.1]; exact hys
    · rw [if_pos ⟨rfl, rfl⟩, Bool.false_or, List.append_assoc, List.singleton_append, List.pairwise_cons]
      have hst := leS_iff.1 hle
      have e : (if y = s then [] else [y]) ++ wtGo s t true = wtGo s (y :: t) true := by
        show _ = ((if true = false ∧ leS s y = true then [s] else []) ++ if y = s then [] else [y]) ++ wtGo s t (true || leS s y)
        have c : ¬ (true = false ∧ leS s y = true) := fun k => absurd k.1 (by decide)
        rw [if_neg c, List.nil_append, Bool.true_or]
      rw [e]
      refine ⟨fun x hx => ?_, wtGo_true s h0⟩
      rcases (mem_wtGo s (y :: t) true x).1 hx with k | k
      · have hxy : x = y ∨ Bef y x := by
          rcases List.mem_cons.1 k.1 with k1 | k1
          · exact .inl k1
          · exact .inr (h.1 x k1)
        rcases hst with a | a
        · rcases hxy with b | b
          · rw [b]; exact a
          · exact bef_trans a b
        · rcases hxy with b | b
          · exact absurd (b.trans a.symm) k.2
          · rw [a]; exact b
      · exact absurd k.2 (by decide)
theorem mem_withT {l : List ByteArray} {s x : ByteArray} : x ∈ withT l s ↔ x ∈ l ∨ x = s := by
  unfold withT
  rw [mem_wtGo]
  by_cases h : x = s <;> simp [h]
theorem withT_up {l : List ByteArray} (s : ByteArray) (h : l.Pairwise Bef) : (withT l s).Pairwise Bef := wtGo_false s h
/-- Rising lists of the same members are one. -/
theorem up_ext : ∀ {l k : List ByteArray}, l.Pairwise Bef → k.Pairwise Bef → (∀ x, x ∈ l ↔ x ∈ k) → l = k
  | [], [], _, _, _ => rfl
  | [], b :: k, _, _, h => absurd ((h b).2 (by simp)) (by simp)
  | a :: l, [], _, _, h => absurd ((h a).1 (by simp)) (by simp)
  | a :: l, b :: k, hl, hk, h => by
    rw [List.pairwise_cons] at hl hk
    have hab : a = b := by
      rcases List.mem_cons.1 ((h a).1 (by simp)) with e | e
      · exact e
      · rcases List.mem_cons.1 ((h b).2 (by simp)) with e2 | e2
        · exact e2.symm
        · exact absurd (bef_trans (hl.1 b e2) (hk.1 a e)) (bef_irrefl a)
    subst hab
    rw [up_ext hl.2 hk.2 fun x => ?_]
    constructor
    · intro hx
      rcases List.mem_cons.1 ((h x).1 (by simp [hx])) with e | e
      · subst e; exact absurd (hl.1 x hx) (bef_irrefl x)
      · exact e
    · intro hx
      rcases List.mem_cons.1 ((h x).2 (by simp [hx])) with e | e
      · subst e; exact absurd (hk.1 x hx) (bef_irrefl x)
      · exact e
/-- Pairs as they must be: keys rising, each with values, rising. -/
structure Canon (ps : List PairD) : Prop where
  keys : ps.Pairwise (fun p q => Bef p.key q.key)
  vals : ∀ p ∈ ps, p.vals.Pairwise Bef ∧ p.vals ≠ []
def Has (ps : List PairD) (k v : ByteArray) : Prop := ∃ p ∈ ps, p.key = k ∧ v ∈ p.vals
theorem canon_ext : ∀ {ps qs : List PairD}, Canon ps → Canon qs → (∀ k v, Has ps k v ↔ Has qs k v) → ps = qs
  | [], [], _, _, _ => rfl
  | [], q :: qs, _, hq, h => by
    obtain ⟨v, hv⟩ := List.exists_mem_of_ne_nil _ (hq.vals q (by simp)).2
    obtain ⟨p, hp, _⟩ := (h q.key v).2 ⟨q, by simp, rfl, hv⟩
    simp at hp
  | p :: ps, [], hp, _, h => by
    obtain ⟨v, hv⟩ := List.exists_mem_of_ne_nil _ (hp.vals p (by simp)).2
    obtain ⟨q, hq, _⟩ := (h p.key v).1 ⟨p, by simp, rfl, hv⟩
    simp at hq
  | p :: ps, q :: qs, hp, hq, h => by
    have hpk := List.pairwise_cons.1 hp.keys
    have hqk := List.pairwise_cons.1 hq.keys
    have hk : p.key = q.key := by
      obtain ⟨v, hv⟩ := List.exists_mem_of_ne_nil _ (hp.vals p (by simp)).2
      obtain ⟨u, hu⟩ := List.exists_mem_of_ne_nil _ (hq.vals q (by simp)).2
      obtain ⟨q', hq', e1, _⟩ := (h p.key v).1 ⟨p, by simp, rfl, hv⟩
      obtain ⟨p', hp', e2, _⟩ := (h q.key u).2 ⟨q, by simp, rfl, hu⟩
      rcases List.mem_cons.1 hq' with a | a
      · rw [← e1, a]
      · rcases List.mem_cons.1 hp' with b | b
        · rw [← e2, b]
        · have c1 := hqk.1 q' a
          have c2 := hpk.1 p' b
          rw [e1] at c1
          rw [e2] at c2
          exact absurd (bef_trans c1 c2) (bef_irrefl _)
    have hrest : ∀ k v, Has ps k v ↔ Has qs k v := by
      intro k v
      constructor
      · rintro ⟨x, hx, e, hv⟩
        obtain ⟨y, hy, e', hv'⟩ := (h k v).1 ⟨x, by simp [hx], e, hv⟩
        rcases List.mem_cons.1 hy with a | a
        · have := hpk.1 x hx
          rw [hk, e, ← e', a] at this
          exact absurd this (bef_irrefl _)
        · exact ⟨y, a, e', hv'⟩
      · rintro ⟨x, hx, e, hv⟩
        obtain ⟨y, hy, e', hv'⟩ := (h k v).2 ⟨x, by simp [hx], e, hv⟩
        rcases List.mem_cons.1 hy with a | a
        · have := hqk.1 x hx
          rw [← hk, e, ← e', a] at this
          exact absurd this (bef_irrefl _)
        · exact ⟨y, a, e', hv'⟩
    have hvals : p.vals = q.vals := by
      refine up_ext (hp.vals p (by simp)).1 (hq.vals q (by simp)).1 fun v => ?_
      constructor
      · intro hv
        obtain ⟨y, hy, e, hv'⟩ := (h p.key v).1 ⟨p, by simp, rfl, hv⟩
        rcases List.mem_cons.1 hy with a | a
        · rw [← a]; exact hv'
        · have := hqk.1 y a
          rw [e, hk] at this
          exact absurd this (bef_irrefl _)
      · intro hv
        obtain ⟨y, hy, e, hv'⟩ := (h q.key v).2 ⟨q, by simp, rfl, hv⟩
        rcases List.mem_cons.1 hy with a | a
        · rw [← a]; exact hv'
        · have := hpk.1 y a
          rw [e, hk] at this
          exact absurd this (bef_irrefl _)
    have hpq : p = q := by cases p; cases q; simp_all
    rw [hpq, canon_ext ⟨hpk.2, fun x hx => hp.vals x (by simp [hx])⟩ ⟨hqk.2, fun x hx => hq.vals x (by simp [hx])⟩ hrest]
end Go.Proofs.YtlioojekjnigiaeGreat.AM.Fo
/- The program's map is the reference's. -/
namespace Go.Proofs.YtlioojekjnigiaeGreat.AM.Fo
set_option linter.unusedVariables false
set_option linter.unusedSimpArgs false

/-- Ops in order: none behind is ahead. -/
def Ups (os : List OpD) : Prop := os.Pairwise fun a b => ¬ OpLt b.key b.val a.key a.val
theorem not_lt {k v k' v' : ByteArray} (h : ¬ OpLt k v k' v') : Bef k' k ∨ (k' = k ∧ (Bef v' v ∨ v' = v)) := by
  rcases opLt_tri k v k' v' with a | ⟨a, b⟩ | a
  · exact absurd a h
  · exact .inr ⟨toList_inj a.symm, .inr (toList_inj b.symm)⟩
  · rcases a with a | ⟨a, b⟩
    · exact .inl a
    · exact .inr ⟨toList_inj a, .inl b⟩
theorem mem_one {v x : ByteArray} (h : v ∈ [x]) : v = x := by simpa using h
structure Inv (os : List OpD) (s : PS) : Prop where
  canon : Canon (flatS s)
  has : ∀ k v, Has (flatS s) k v ↔ ∃ o ∈ os, o.key = k ∧ o.val = v
theorem inv_step {os : List OpD} {s : PS} {o : OpD} (h : Inv os s) (ho : ∀ x ∈ os, ¬ OpLt o.key o.val x.key x.val) : Inv (os ++ [o]) (addS s o.key o.val) := by
  have hmem : ∀ k v, (∃ x ∈ os ++ [o], x.key = k ∧ x.val = v) ↔ (∃ x ∈ os, x.key = k ∧ x.val = v) ∨ (o.key = k ∧ o.val = v) := by
    intro k v
    constructor
    · rintro ⟨x, hx, e⟩
      rcases List.mem_append.1 hx with a | a
      · exact .inl ⟨x, a, e⟩
      · obtain rfl : x = o := by simpa using a
        exact .inr e
    · rintro (⟨x, hx, e⟩ | e)
      · exact ⟨x, List.mem_append_left _ hx, e⟩
      · exact ⟨o, by simp, e⟩
  match s, h with
  | none, h =>
    have hn : ∀ k v, ¬ ∃ x ∈ os, x.key = k ∧ x.val = v := fun k v e => by
      obtain ⟨p, hp, _⟩ := (h.has k v).2 e
      simp [flatS] at hp
    refine ⟨⟨by simp [addS, flatS], by simp [addS, flatS]⟩, fun k v => ?_⟩
    rw [hmem]
    constructor
    · rintro ⟨p, hp, e1, e2⟩
      obtain rfl : p = ⟨o.key, [o.val]⟩ := by simpa [addS, flatS] using hp
      exact .inr ⟨e1, (mem_one e2).symm⟩
    · rintro (e | ⟨e1, e2⟩)
      · exact absurd e (hn k v)
      · exact ⟨⟨o.key, [o.val]⟩, by simp [addS, flatS], e1, by simp [e2]⟩
  | some (d, p), h =>
    have hc := h.canon
    have hpm : p ∈ d ++ [p] := by simp
    rw [addS_some]
    by_cases hk : p.key = o.key
    · rw [if_pos hk]
      by_cases hv : p.vals.any (isS o.val) = true
      · rw [if_pos hv]
        have hvm : o.val ∈ p.vals := by
          obtain ⟨x, hx, e⟩ := List.any_eq_true.1 hv
          have : o.val = x := of_decide_eq_true e
          rw [this]; exact hx
        refine ⟨hc, fun k v => ?_⟩
        rw [hmem, ← h.has]
        constructor
        · exact .inl
        · rintro (e | ⟨e1, e2⟩)
          · exact e
          · exact ⟨p, hpm, hk.trans e1, e2 ▸ hvm⟩
      · rw [if_neg hv]
        have hvn : o.val ∉ p.vals := fun hm => hv (List.any_eq_true.2 ⟨o.val, hm, decide_eq_true rfl⟩)
        have hq : ∀ q ∈ d, Bef q.key p.key := by
          intro q hq
          have := hc.keys
          simp only [flatS, List.pairwise_append] at this
          exact this.2.2 q hq p (by simp)
        have hbef : ∀ u ∈ p.vals, Bef u o.val := by
          intro u hu
          obtain ⟨x, hx, e1, e2⟩ := (h.has p.key u).1 ⟨p, hpm, rfl, hu⟩
          rcases not_lt (ho x hx) with a | ⟨a, b⟩
          · rw [e1, hk] at a; exact absurd a (bef_irrefl _)
          · rw [e2] at b
            rcases b with b | b
            · exact b
            · rw [b] at hu; exact absurd hu hvn
        refine ⟨⟨?_, ?_⟩, fun k v => ?_⟩
        · have := hc.keys
          simp only [flatS, List.pairwise_append] at this ⊢
          refine ⟨this.1, by simp, fun a ha b hb => ?_⟩
          obtain rfl : b = ⟨o.key, p.vals ++ [o.val]⟩ := by simpa using hb
          show Bef a.key o.key
          rw [← hk]
          exact hq a ha
        · intro q hq
          simp only [flatS, List.mem_append, List.mem_singleton] at hq
          rcases hq with hq | rfl
          · exact hc.vals q (by simp [flatS, hq])
          · refine ⟨?_, by simp⟩
            rw [List.pairwise_append]
            exact ⟨(hc.vals p hpm).1, by simp, fun a ha b hb => by
              have e : b = o.val := by simpa using hb
              rw [e]; exact hbef a ha⟩
        · rw [hmem, ← h.has]
          constructor
          · rintro ⟨q, hq, e1, e2⟩
            simp only [flatS, List.mem_append, List.mem_singleton] at hq
            rcases hq with hq | rfl
            · exact .inl ⟨q, by simp [flatS, hq], e1, e2⟩
            · rcases List.mem_append.1 e2 with e2 | e2
              · exact .inl ⟨p, hpm, hk.trans e1, e2⟩
              · exact .inr ⟨e1, (mem_one e2).symm⟩
          · rintro (⟨q, hq, e1, e2⟩ | ⟨e1, e2⟩)
            · simp only [flatS, List.mem_append, List.mem_singleton] at hq
              rcases hq with hq | rfl
              · exact ⟨q, by simp [flatS, hq], e1, e2⟩
              · exact ⟨⟨o.key, q.vals ++ [o.val]⟩, by simp [flatS], hk.symm.trans e1, by simp [e2]⟩
            · exact ⟨⟨o.key, p.vals ++ [o.val]⟩, by simp [flatS], e1, by simp [e2]⟩
    · rw [if_neg hk]
      have hpo : Bef p.key o.key := by
        obtain ⟨v, hv⟩ := List.exists_mem_of_ne_nil _ (hc.vals p hpm).2
        obtain ⟨x, hx, e1, e2⟩ := (h.has p.key v).1 ⟨p, hpm, rfl, hv⟩
        rcases not_lt (ho x hx) with a | ⟨a, b⟩
        · rw [e1] at a; exact a
        · exact absurd (e1.symm.trans a) hk
      refine ⟨⟨?_, ?_⟩, fun k v => ?_⟩
      · have hck : (d ++ [p]).Pairwise (fun p q => Bef p.key q.key) := hc.keys
        simp only [flatS]
        rw [List.pairwise_append]
        refine ⟨hck, by simp, fun a ha b hb => ?_⟩
        obtain rfl : b = ⟨o.key, [o.val]⟩ := by simpa using hb
        show Bef a.key o.key
        rcases List.mem_append.1 ha with e | e
        · rw [List.pairwise_append] at hck
          exact bef_trans (hck.2.2 a e p (by simp)) hpo
        · obtain rfl : a = p := by simpa using e
          exact hpo
      · intro q hq
        simp only [flatS, List.mem_append, List.mem_singleton] at hq
        rcases hq with (hq | rfl) | rfl
        · exact hc.vals q (by simp [flatS, hq])
        · exact hc.vals q hpm
        · simp
      · rw [hmem, ← h.has]
        constructor
        · rintro ⟨q, hq, e1, e2⟩
          rcases List.mem_append.1 hq with hq | hq
          · exact .inl ⟨q, hq, e1, e2⟩
          · obtain rfl : q = ⟨o.key, [o.val]⟩ := by simpa using hq
            exact .inr ⟨e1, (mem_one e2).symm⟩
        · rintro (⟨q, hq, e1, e2⟩ | ⟨e1, e2⟩)
          · exact ⟨q, List.mem_append_left _ hq, e1, e2⟩
          · exact ⟨⟨o.key, [o.val]⟩, by simp [flatS], e1, by simp [e2]⟩
theorem inv_all {os : List OpD} (h : Ups os) : Inv os (pairsS os) := by
  suffices H : ∀ r : List OpD, Ups r.reverse → Inv r.reverse (pairsS r.reverse) by
    have := H os.reverse (by rw [List.reverse_reverse]; exact h)
    rw [List.reverse_reverse] at this
    exact this
  intro r
  induction r with
  | nil => intro _; exact ⟨⟨by simp [pairsS, flatS], by simp [pairsS, flatS]⟩, fun k v => ⟨fun ⟨p, hp, _⟩ => by simp [pairsS, flatS] at hp, fun ⟨o, ho, _⟩ => by simp at ho⟩⟩
  | cons o r ih =>
    intro h
    rw [List.reverse_cons] at h ⊢
    unfold Ups at h
    rw [List.pairwise_append] at h
    rw [pairsS_snoc]
    exact inv_step (ih h.1) fun x hx => h.2.2 x hx o (by simp)
end Go.Proofs.YtlioojekjnigiaeGreat.AM.Fo
/- The program's map is the reference's: the same members. -/
namespace Go.Proofs.YtlioojekjnigiaeGreat.AM.Fo
set_option linter.unusedVariables false
set_option linter.unusedSimpArgs false

theorem keysTo_up' (l : List Entry') : ∀ i, (keysTo l i).Pairwise Bef
  | 0 => by unfold keysTo; simp
  | i + 1 => by
    unfold keysTo
    have := keysTo_up' l i
    split
    · split
      · exact withT_up _ this
      · exact this
    · exact this
theorem mem_keysTo (l : List Entry') (k : ByteArray) : ∀ i, i ≤ l.length → (k ∈ keysTo l i ↔ ∃ e ∈ l.take i, opKind e.text = 1 ∧ opKey e.text = k)
  | 0, _ => by simp [keysTo]
  | i + 1, hi => by
    have ih := mem_keysTo l k i (by omega)
    have hi' : i < l.length := by omega
    have htk : l.take (i + 1) = l.take i ++ [l[i]] := by rw [List.take_add_one, List.getElem?_eq_getElem hi']; rfl
    rw [keysTo_up hi', htk]
    by_cases h1 : opKind l[i].text = 1
    · rw [if_pos h1, mem_withT, ih]
      constructor
      · rintro (⟨e, he, h⟩ | h)
        · exact ⟨e, List.mem_append_left _ he, h⟩
        · exact ⟨l[i], List.mem_append_right _ (List.mem_singleton.2 rfl), h1, h.symm⟩
      · rintro ⟨e, he, h⟩
        rcases List.mem_append.1 he with a | a
        · exact .inl ⟨e, a, h⟩
        · obtain rfl : e = l[i] := by simpa using a
          exact .inr h.2.symm
    · rw [if_neg h1, ih]
      constructor
      · rintro ⟨e, he, h⟩
        exact ⟨e, List.mem_append_left _ he, h⟩
      · rintro ⟨e, he, h⟩
        rcases List.mem_append.1 he with a | a
        · exact ⟨e, a, h⟩
        · obtain rfl : e = l[i] := by simpa using a
          exact absurd h.1 h1
theorem valsTo_up (l : List Entry') (c : Int) (k : ByteArray) : ∀ i, (valsTo l c k i).Pairwise Bef
  | 0 => by unfold valsTo; simp
  | i + 1 => by
    unfold valsTo
    have := valsTo_up l c k i
    split
    · exact withT_up _ this
    · exact this
theorem mem_valsTo (l : List Entry') (c : Int) (k v : ByteArray) : ∀ i, v ∈ valsTo l c k i ↔ ∃ j, j < i ∧ valAt l c k j = some v
  | 0 => by simp [valsTo]
  | i + 1 => by
    have ih := mem_valsTo l c k v i
    cases h : valAt l c k i with
    | none =>
      rw [valsTo_no h, ih]
      constructor
      · rintro ⟨j, hj, e⟩; exact ⟨j, by omega, e⟩
      · rintro ⟨j, hj, e⟩
        by_cases hji : j = i
        · rw [hji, h] at e; cases e
        · exact ⟨j, by omega, e⟩
    | some u =>
      rw [valsTo_yes h, mem_withT, ih]
      constructor
      · rintro (⟨j, hj, e⟩ | e)
        · exact ⟨j, by omega, e⟩
        · exact ⟨i, by omega, by rw [h, e]⟩
      · rintro ⟨j, hj, e⟩
        by_cases hji : j = i
        · rw [hji, h] at e
          exact .inr (Option.some.inj e).symm
        · exact .inl ⟨j, by omega, e⟩
theorem valAt_some {l : List Entry'} {c : Int} {k v : ByteArray} {i : Nat} : valAt l c k i = some v ↔ ∃ h : i < l.length, opKind l[i].text = 1 ∧ opKey l[i].text = k ∧ meets l[i].colors c = true ∧ hidTo l c k i l.length = false ∧ opVal l[i].text = v := by
  unfold valAt
  by_cases hi : i < l.length
  · rw [List.getElem?_eq_getElem hi]
    show (if _ then _ else _) = _ ↔ _
    by_cases h : opKind l[i].text = 1 ∧ opKey l[i].text = k ∧ meets l[i].colors c = true ∧ hidTo l c k i l.length = false
    · rw [if_pos h]
      exact ⟨fun e => ⟨hi, h.1, h.2.1, h.2.2.1, h.2.2.2, Option.some.inj e⟩, fun ⟨_, e⟩ => by rw [e.2.2.2.2]⟩
    · rw [if_neg h]
      exact ⟨fun e => (by cases e), fun ⟨_, e⟩ => absurd ⟨e.1, e.2.1, e.2.2.1, e.2.2.2.1⟩ h⟩
  · rw [List.getElem?_eq_none (by omega)]
    exact ⟨fun e => (by cases e), fun ⟨h, _⟩ => absurd h hi⟩
theorem mapOf_canon (l : List Entry') (c : Int) : Canon (mapOf l c) := by
  refine ⟨?_, fun p hp => ?_⟩
  · unfold mapOf
    refine List.Pairwise.filterMap (pairAt l c) ?_ (keysTo_up' l l.length)
    intro a b hab p hp q hq
    unfold pairAt at hp hq
    split at hp
    · split at hq
      · cases hp; cases hq; exact hab
      · cases hq
    · cases hp
  · unfold mapOf at hp
    obtain ⟨k, hk, e⟩ := List.mem_filterMap.1 hp
    unfold pairAt at e
    split at e
    · rename_i h
      cases e
      exact ⟨valsTo_up l c k _, List.ne_nil_of_length_pos h⟩
    · cases e
theorem has_mapOf {l : List Entry'} {c : Int} {k v : ByteArray} : Has (mapOf l c) k v ↔ v ∈ valsOf l c k := by
  constructor
  · rintro ⟨p, hp, e1, e2⟩
    unfold mapOf at hp
    obtain ⟨k', hk, e⟩ := List.mem_filterMap.1 hp
    unfold pairAt at e
    split at e
    · cases e
      have e1 : k' = k := e1
      rw [← e1]
      exact e2
    · cases e
  · intro hv
    have hv' := hv
    unfold valsOf at hv'
    obtain ⟨j, hj, e⟩ := (mem_valsTo l c k v l.length).1 hv'
    obtain ⟨hjl, a1, a2, _⟩ := valAt_some.1 e
    have hk : k ∈ keysOf l := by
      unfold keysOf
      rw [mem_keysTo l k l.length (Nat.le_refl _), List.take_length]
      exact ⟨l[j], List.getElem_mem hjl, a1, a2⟩
    refine ⟨⟨k, valsOf l c k⟩, ?_, rfl, hv⟩
    unfold mapOf
    refine List.mem_filterMap.2 ⟨k, hk, ?_⟩
    unfold pairAt
    rw [if_pos (List.length_pos_of_mem hv)]
theorem opErr_zero {s : ByteArray} : opErr s = 0 ↔ opKind s ≠ 0 := by
  unfold opErr
  by_cases h : opKind s = 0
  · rw [if_pos h]; simp [h]
  · rw [if_neg h]; simp [h]
theorem takes_iff {l : List Entry'} (hr : Right l) {c : Int} (hc : 1 ≤ c ∧ c ≤ 7) {e : Entry'} (he : e ∈ l) : takes c e = true ↔ opKind e.text ≠ 0 ∧ meets e.colors c = true := by
  unfold takes
  rw [Bool.and_eq_true, meets_bothOf (hr.colors he) hc, ← opErr_zero]
  simp
theorem pastAns_in {l : List Entry'} (hr : Right l) {f : Entry'} (hf : f ∈ l) {x : Id} : x ∈ pastAns l f.id ↔ Anc l f.id x := by
  have h0 : pastErr l f.id = 0 := by
    unfold pastErr
    rw [if_pos (right_iff.2 hr), if_pos (any_isThe.2 ⟨f, hf, rfl⟩)]
  unfold pastAns
  rw [if_pos h0, mem_pastOfId hr]
theorem hidTo_iff {l : List Entry'} {c : Int} {k : ByteArray} {i : Nat} : hidTo l c k i l.length = false ↔ ∀ n (h : n < l.length), ¬ (opKind l[n].text ≠ 0 ∧ opKey l[n].text = k ∧ meets l[n].colors c = true ∧ isIn (pastBs l n) i = true) := by
  unfold hidTo
  rw [List.any_eq_false]
  constructor
  · intro h n hn hx
    refine h n (List.mem_range.2 hn) ?_
    rw [hides_at hn, hx.2.2.1, hx.2.2.2]
    simp [hx.1, hx.2.1]
  · intro h n hn hx
    have hn := List.mem_range.1 hn
    rw [hides_at hn] at hx
    simp only [Bool.and_eq_true, decide_eq_true_eq, bne_iff_ne] at hx
    exact h n hn ⟨hx.1, hx.2.1, hx.2.2.1, hx.2.2.2⟩
theorem stands_iff {l : List Entry'} (hr : Right l) {c : Int} (hc : 1 ≤ c ∧ c ≤ 7) {i : Nat} (hi : i < l.length) : stands (opsL l c l) (opD l l[i]) = true ↔ opKind l[i].text = 1 ∧ hidTo l c (opKey l[i].text) i l.length = false := by
  unfold stands
  rw [Bool.and_eq_true, decide_eq_true_eq, Bool.not_eq_true', hidTo_iff]
  refine and_congr Iff.rfl ?_
  rw [List.any_eq_false]
  constructor
  · intro h n hn ⟨a1, a2, a3, a4⟩
    have hm : l[n] ∈ l := List.getElem_mem hn
    refine h (opD l l[n]) ?_ ?_
    · unfold opsL
      exact List.mem_map.2 ⟨l[n], List.mem_filter.2 ⟨hm, (takes_iff hr hc hm).2 ⟨a1, a3⟩⟩, rfl⟩
    · unfold behind
      rw [Bool.and_eq_true]
      refine ⟨decide_eq_true a2, ?_⟩
      rw [any_isId2]
      exact (pastAns_in hr hm).2 ((pastBs_iff hr hn hi).1 a4)
  · intro h x hx hb
    unfold opsL at hx
    obtain ⟨f, hf, rfl⟩ := List.mem_map.1 hx
    obtain ⟨hm, ht⟩ := List.mem_filter.1 hf
    obtain ⟨n, hn, rfl⟩ := List.mem_iff_getElem.1 hm
    have ht := (takes_iff hr hc hm).1 ht
    unfold behind at hb
    rw [Bool.and_eq_true] at hb
    have hb2 := hb.2
    rw [any_isId2] at hb2
    exact h n hn ⟨ht.1, of_decide_eq_true hb.1, ht.2, (pastBs_iff hr hn hi).2 ((pastAns_in hr hm).1 hb2)⟩
theorem mapIs {l : List Entry'} (hr : Right l) {c : Int} (hc : 1 ≤ c ∧ c ≤ 7) : MapIs l c (mapOf l c) := by
  refine ⟨fun l' hs => ?_⟩
  have hi := inv_all (os := keptOps (opsL l c l) l') (List.Pairwise.filter _ hs.2)
  refine canon_ext hi.canon (mapOf_canon l c) fun k v => ?_
  rw [hi.has, has_mapOf]
  unfold valsOf
  rw [mem_valsTo]
  constructor
  · rintro ⟨o, ho, e1, e2⟩
    unfold keptOps at ho
    obtain ⟨ho, hst⟩ := List.mem_filter.1 ho
    have ho := hs.1.mem_iff.1 ho
    unfold opsL at ho
    obtain ⟨f, hf, rfl⟩ := List.mem_map.1 ho
    obtain ⟨hm, ht⟩ := List.mem_filter.1 hf
    obtain ⟨n, hn, rfl⟩ := List.mem_iff_getElem.1 hm
    have ht := (takes_iff hr hc hm).1 ht
    obtain ⟨g1, g2⟩ := (stands_iff hr hc hn).1 hst
    have e1 : opKey l[n].text = k := e1
    rw [e1] at g2
    exact ⟨n, hn, valAt_some.2 ⟨hn, g1, e1, ht.2, g2, e2⟩⟩
  · rintro ⟨n, hn, e⟩
    obtain ⟨hn, g1, g2, g3, g4, g5⟩ := valAt_some.1 e
    have hm : l[n] ∈ l := List.getElem_mem hn
    refine ⟨opD l l[n], ?_, g2, g5⟩
    unfold keptOps
    refine List.mem_filter.2 ⟨hs.1.mem_iff.2 ?_, (stands_iff hr hc hn).2 ⟨g1, by rw [g2]; exact g4⟩⟩
    unfold opsL
    exact List.mem_map.2 ⟨l[n], List.mem_filter.2 ⟨hm, (takes_iff hr hc hm).2 ⟨by rw [g1]; decide, g3⟩⟩, rfl⟩
theorem valuesIn_mapOf (l : List Entry') (c : Int) (k : ByteArray) : valuesIn (mapOf l c) k = valsOf l c k := by
  unfold valuesIn
  cases h : (mapOf l c).find? (fun p => decide (p.key = k)) with
  | some p =>
    have hk : p.key = k := of_decide_eq_true (List.find?_some (p := fun p : PairD => decide (p.key = k)) h)
    have hm := List.mem_of_find?_eq_some h
    unfold mapOf at hm
    obtain ⟨k', _, e⟩ := List.mem_filterMap.1 hm
    unfold pairAt at e
    split at e
    · cases e
      have hk : k' = k := hk
      rw [← hk]
    · cases e
  | none =>
    show [] = _
    cases hv : valsOf l c k with
    | nil => rfl
    | cons v t =>
      obtain ⟨p, hp, e1, e2⟩ := has_mapOf.2 (show v ∈ valsOf l c k by rw [hv]; simp)
      exact absurd (decide_eq_true e1) (List.find?_eq_none.1 h p hp)
end Go.Proofs.YtlioojekjnigiaeGreat.AM.Fo
/- The law of maps: what must be in any case. -/
namespace Go.Proofs.YtlioojekjnigiaeGreat.AM.Fo
set_option linter.unusedVariables false
set_option linter.unusedSimpArgs false

def tA : ByteArray := ⟨#[97]⟩
def tB : ByteArray := ⟨#[98]⟩
def tY : ByteArray := ⟨#[121]⟩
def tZ : ByteArray := ⟨#[122]⟩
def tPut : ByteArray := ⟨#[112, 117, 116, 32, 97, 98, 32, 99, 49]⟩
def tBad : ByteArray := ⟨#[112, 117, 116, 32, 97, 98]⟩
theorem some_map : mapOf someLog 3 = [⟨tA, [tY]⟩, ⟨tB, [tZ]⟩] := by kernel_rfl
theorem some_col : colErr someLog 3 = 0 := by kernel_rfl
theorem some_get : getErr someLog 3 tA = 0 := by kernel_rfl
theorem op_put : OpAns tPut = .tup [dInt 1, .dat (.str ⟨#[97, 98]⟩), .dat (.str ⟨#[99, 49]⟩), dInt 0] := by kernel_rfl
theorem op_bad : OpAns tBad = .tup [dInt 0, .dat (.str ⟨#[]⟩), .dat (.str ⟨#[]⟩), dInt 1] := by kernel_rfl
theorem mapIs' (l : List Entry') (c : Int) : colErr l c = 0 → MapIs l c (mapOf l c) := fun h => mapIs (colErr_ok h).1 (colErr_ok h).2
theorem mapOf_len (l : List Entry') (c : Int) : (mapOf l c).length ≤ l.length := by
  unfold mapOf
  exact Nat.le_trans (List.length_filterMap_le _ _) (keysTo_len l _)
set_option maxHeartbeats 0 in
theorem foldBegun_ok : PCall Tryz.prog 13 [] (dBool true) := by
  have hm := map_ok someLog someLog_ok 3 (mapOf someLog 3) (mapIs' someLog 3)
  have hg := get_ok someLog someLog_ok 3 (mapOf someLog 3) (by rw [some_map]; decide) (mapIs' someLog 3) tA
  have e1 : mapAns someLog 3 (mapOf someLog 3) = [⟨tA, [tY]⟩, ⟨tB, [tZ]⟩] := by unfold mapAns; rw [some_col, if_pos rfl, some_map]
  have e2 : getAns someLog 3 (mapOf someLog 3) tA = [tY] := by unfold getAns; rw [some_get, if_pos rfl, some_map]; rfl
  have hp := op_ok tPut (by decide)
  have hb := op_ok tBad (by decide)
  rw [e1, some_col] at hm
  rw [e2, some_get] at hg
  rw [op_put] at hp
  rw [op_bad] at hb
  refine pcall_intro tab_all tab_mixed Tryz.func13 (by kernel_rfl) Tryz.ntmps13 rfl ?_
  conv => whnf
  refine .data _ _ entries_ok rfl ?_
  conv => whnf
  repeat (first | (refine Conf.mk (by kernel_rfl) ?_; conv => whnf) | (refine SeqOk.go ?_; conv => whnf))
  refine .data _ _ hm rfl ?_
  conv => whnf
  repeat (first | (refine Conf.mk (by kernel_rfl) ?_; conv => whnf) | (refine SeqOk.go ?_; conv => whnf))
  refine .data _ _ entries_ok rfl ?_
  conv => whnf
  repeat (first | (refine Conf.mk (by kernel_rfl) ?_; conv => whnf) | (refine SeqOk.go ?_; conv => whnf))
  refine .data _ _ hg rfl ?_
  conv => whnf
  repeat (first | (refine Conf.mk (by kernel_rfl) ?_; conv => whnf) | (refine SeqOk.go ?_; conv => whnf))
  refine .data _ _ hp rfl ?_
  conv => whnf
  repeat (first | (refine Conf.mk (by kernel_rfl) ?_; conv => whnf) | (refine SeqOk.go ?_; conv => whnf))
  refine .data _ _ hb rfl ?_
  conv => whnf
  repeat (first | (refine Conf.mk (by kernel_rfl) ?_; conv => whnf) | (refine SeqOk.go ?_; conv => whnf))
  refine BoolCase.yes rfl ?_
  conv => whnf
  repeat (first | (refine Conf.mk (by kernel_rfl) ?_; conv => whnf) | (refine SeqOk.go ?_; conv => whnf))
  refine BoolCase.yes rfl ?_
  conv => whnf
  repeat (first | (refine Conf.mk (by kernel_rfl) ?_; conv => whnf) | (refine SeqOk.go ?_; conv => whnf))
  refine BoolCase.yes rfl ?_
  conv => whnf
  repeat (first | (refine Conf.mk (by kernel_rfl) ?_; conv => whnf) | (refine SeqOk.go ?_; conv => whnf))
  refine BoolCase.yes rfl ?_
  conv => whnf
  repeat (first | (refine Conf.mk (by kernel_rfl) ?_; conv => whnf) | (refine SeqOk.go ?_; conv => whnf))
  refine BoolCase.yes rfl ?_
  conv => whnf
  repeat (first | (refine Conf.mk (by kernel_rfl) ?_; conv => whnf) | (refine SeqOk.go ?_; conv => whnf))
  refine AtIdx.ofMap (enc := PairD.enc) (l := [⟨tA, [tY]⟩, ⟨tB, [tZ]⟩]) (i := 1) (by decide) rfl ?_
  conv => whnf
  repeat (first | (refine Conf.mk (by kernel_rfl) ?_; conv => whnf) | (refine SeqOk.go ?_; conv => whnf))
  refine BoolCase.yes rfl ?_
  conv => whnf
  repeat (first | (refine Conf.mk (by kernel_rfl) ?_; conv => whnf) | (refine SeqOk.go ?_; conv => whnf))
  refine .look _ _ (sameS_kb [tY] (by decide)) rfl rfl ?_
  conv => whnf
  repeat (first | (refine Conf.mk (by kernel_rfl) ?_; conv => whnf) | (refine SeqOk.go ?_; conv => whnf))
  refine BoolCase.yes rfl ?_
  conv => whnf
  repeat (first | (refine Conf.mk (by kernel_rfl) ?_; conv => whnf) | (refine SeqOk.go ?_; conv => whnf))
  refine BoolCase.yes rfl ?_
  conv => whnf
  repeat (first | (refine Conf.mk (by kernel_rfl) ?_; conv => whnf) | (refine SeqOk.go ?_; conv => whnf))
  exact Ret.to rfl
end Go.Proofs.YtlioojekjnigiaeGreat.AM.Fo
/- The law of maps. -/
namespace Go.Proofs.YtlioojekjnigiaeGreat.AM.Fo
set_option linter.unusedVariables false
set_option linter.unusedSimpArgs false

theorem valsOf_len (l : List Entry') (c : Int) (k : ByteArray) : (valsOf l c k).length ≤ l.length := valsTo_len l c k _
theorem mapOf_vals {l : List Entry'} {c : Int} {p : PairD} (h : p ∈ mapOf l c) : p.vals.length ≤ l.length := by
  unfold mapOf at h
  obtain ⟨k, _, e⟩ := List.mem_filterMap.1 h
  unfold pairAt at e
  split at e
  · cases e; exact valsOf_len l c k
  · cases e
set_option maxHeartbeats 0 in
theorem ft_bad (l : List Entry') (hl : LogOk l) (c : Int) (k t : ByteArray) (hk : k.size ≤ 140737488355327) (ht : t.size ≤ 140737488355327) (h1 : logErr l ≠ 0) : PCall Tryz.prog 3 [.dat (.list (l.map Entry'.enc)), dInt c, .dat (.str k), .dat (.str t)] (dBool true) := by
  have hlen0 := hl.len
  have hvl := valsOf_len l c k
  have hml := mapOf_len l c
  have hmv := fun p (h : p ∈ mapOf l c) => mapOf_vals h
  have hbeg := foldBegun_ok.kb
  have hop := op_ok t (by omega)
  have hof := opOf_ok t ht
  have hwd := refIsWord_ok k hk
  have hcl := checkLog_ok l hl
  have he0 : opKind t = 0 → opErr t = 1 := fun h => by unfold opErr; rw [if_pos h]
  have he1 : opKind t ≠ 0 → opErr t = 0 := fun h => by unfold opErr; rw [if_neg h]
  have e1 : colErr l c = logErr l := by unfold colErr; rw [if_neg h1]
  have e2 : getErr l c k = logErr l := by unfold getErr; rw [e1, if_neg h1]
  have hm := map_ok l hl c [] (fun h => absurd (e1 ▸ h) h1)
  have hg := get_ok l hl c [] (by simp) (fun h => absurd (e1 ▸ h) h1) k
  have a1 : mapAns l c [] = [] := by unfold mapAns; split <;> rfl
  have a2 : getAns l c [] k = [] := by unfold getAns; rw [e2, if_neg h1]
  rw [a1, e1] at hm
  rw [a2, e2] at hg
  have hsm := sameMap_kb [] (by simp) (by simp)
  have hsv := sameS_kb [] (by simp)
  refine pcall_cut tab_all tab_mixed Tryz.func3 (by kernel_rfl) Tryz.ntmps3 rfl ?_
  conv => whnf
  conv => whnf
  repeat (first | (refine Conf.mk (by kernel_rfl) ?_; conv => whnf) | (refine SeqOk.go ?_; conv => whnf))
  try simp only
  refine .data _ _ hm rfl ?_
  conv => whnf
  repeat (first | (refine Conf.mk (by kernel_rfl) ?_; conv => whnf) | (refine SeqOk.go ?_; conv => whnf))
  try simp only
  refine .data _ _ hg rfl ?_
  conv => whnf
  repeat (first | (refine Conf.mk (by kernel_rfl) ?_; conv => whnf) | (refine SeqOk.go ?_; conv => whnf))
  try simp only
  refine .data _ _ hop rfl ?_
  conv => whnf
  repeat (first | (refine Conf.mk (by kernel_rfl) ?_; conv => whnf) | (refine SeqOk.go ?_; conv => whnf))
  try simp only
  refine .data _ _ hcl rfl ?_
  conv => whnf
  repeat (first | (refine Conf.mk (by kernel_rfl) ?_; conv => whnf) | (refine SeqOk.go ?_; conv => whnf))
  try simp only
  refine BoolCase.no (by simp [h1]) ?_
  conv => whnf
  repeat (first | (refine Conf.mk (by kernel_rfl) ?_; conv => whnf) | (refine SeqOk.go ?_; conv => whnf))
  refine BoolCase.no (by simp [h1]) ?_
  conv => whnf
  repeat (first | (refine Conf.mk (by kernel_rfl) ?_; conv => whnf) | (refine SeqOk.go ?_; conv => whnf))
  refine BoolCase.no (by simp [h1]) ?_
  conv => whnf
  repeat (first | (refine Conf.mk (by kernel_rfl) ?_; conv => whnf) | (refine SeqOk.go ?_; conv => whnf))
  refine BoolCase.no (by simp [h1]) ?_
  conv => whnf
  repeat (first | (refine Conf.mk (by kernel_rfl) ?_; conv => whnf) | (refine SeqOk.go ?_; conv => whnf))
  refine .data _ _ hof rfl ?_
  conv => whnf
  repeat (first | (refine Conf.mk (by kernel_rfl) ?_; conv => whnf) | (refine SeqOk.go ?_; conv => whnf))
  try simp only
  by_cases hkd : opKind t = 0
  · have ho := he0 hkd
    refine BoolCase.yes (by simp [hkd]) ?_
    conv => whnf
    repeat (first | (refine Conf.mk (by kernel_rfl) ?_; conv => whnf) | (refine SeqOk.go ?_; conv => whnf))
    try simp only
    refine .look _ _ hbeg rfl rfl ?_
    conv => whnf
    repeat (first | (refine Conf.mk (by kernel_rfl) ?_; conv => whnf) | (refine SeqOk.go ?_; conv => whnf))
    refine BoolCase.yes (by simp) ?_
    conv => whnf
    repeat (first | (refine Conf.mk (by kernel_rfl) ?_; conv => whnf) | (refine SeqOk.go ?_; conv => whnf))
    try simp only
    refine .look _ _ hsm rfl rfl ?_
    conv => whnf
    repeat (first | (refine Conf.mk (by kernel_rfl) ?_; conv => whnf) | (refine SeqOk.go ?_; conv => whnf))
    refine BoolCase.yes (by simp) ?_
    conv => whnf
    repeat (first | (refine Conf.mk (by kernel_rfl) ?_; conv => whnf) | (refine SeqOk.go ?_; conv => whnf))
    try simp only
    refine .look _ _ hsv rfl rfl ?_
    conv => whnf
    repeat (first | (refine Conf.mk (by kernel_rfl) ?_; conv => whnf) | (refine SeqOk.go ?_; conv => whnf))
    refine BoolCase.yes (by simp [ho]) ?_
    conv => whnf
    repeat (first | (refine Conf.mk (by kernel_rfl) ?_; conv => whnf) | (refine SeqOk.go ?_; conv => whnf))
    try simp only
    refine BoolCase.yes (by simp) ?_
    conv => whnf
    repeat (first | (refine Conf.mk (by kernel_rfl) ?_; conv => whnf) | (refine SeqOk.go ?_; conv => whnf))
    refine BoolCase.yes (by simp) ?_
    conv => whnf
    repeat (first | (refine Conf.mk (by kernel_rfl) ?_; conv => whnf) | (refine SeqOk.go ?_; conv => whnf))
    try simp only
    exact Ret.bool (by simp)
  · have ho := he1 hkd
    refine BoolCase.no (by simp [hkd]) ?_
    conv => whnf
    repeat (first | (refine Conf.mk (by kernel_rfl) ?_; conv => whnf) | (refine SeqOk.go ?_; conv => whnf))
    try simp only
    refine .look _ _ hbeg rfl rfl ?_
    conv => whnf
    repeat (first | (refine Conf.mk (by kernel_rfl) ?_; conv => whnf) | (refine SeqOk.go ?_; conv => whnf))
    refine BoolCase.yes (by simp) ?_
    conv => whnf
    repeat (first | (refine Conf.mk (by kernel_rfl) ?_; conv => whnf) | (refine SeqOk.go ?_; conv => whnf))
    try simp only
    refine .look _ _ hsm rfl rfl ?_
    conv => whnf
    repeat (first | (refine Conf.mk (by kernel_rfl) ?_; conv => whnf) | (refine SeqOk.go ?_; conv => whnf))
    refine BoolCase.yes (by simp) ?_
    conv => whnf
    repeat (first | (refine Conf.mk (by kernel_rfl) ?_; conv => whnf) | (refine SeqOk.go ?_; conv => whnf))
    try simp only
    refine .look _ _ hsv rfl rfl ?_
    conv => whnf
    repeat (first | (refine Conf.mk (by kernel_rfl) ?_; conv => whnf) | (refine SeqOk.go ?_; conv => whnf))
    refine BoolCase.yes (by simp [ho]) ?_
    conv => whnf
    repeat (first | (refine Conf.mk (by kernel_rfl) ?_; conv => whnf) | (refine SeqOk.go ?_; conv => whnf))
    try simp only
    refine BoolCase.yes (by simp) ?_
    conv => whnf
    repeat (first | (refine Conf.mk (by kernel_rfl) ?_; conv => whnf) | (refine SeqOk.go ?_; conv => whnf))
    refine BoolCase.yes (by simp) ?_
    conv => whnf
    repeat (first | (refine Conf.mk (by kernel_rfl) ?_; conv => whnf) | (refine SeqOk.go ?_; conv => whnf))
    try simp only
    exact Ret.bool (by simp)
set_option maxHeartbeats 0 in
theorem ft_range (l : List Entry') (hl : LogOk l) (c : Int) (k t : ByteArray) (hk : k.size ≤ 140737488355327) (ht : t.size ≤ 140737488355327) (h1 : logErr l = 0) (hc : c < 1 ∨ 7 < c) : PCall Tryz.prog 3 [.dat (.list (l.map Entry'.enc)), dInt c, .dat (.str k), .dat (.str t)] (dBool true) := by
  have hlen0 := hl.len
  have hvl := valsOf_len l c k
  have hml := mapOf_len l c
  have hmv := fun p (h : p ∈ mapOf l c) => mapOf_vals h
  have hbeg := foldBegun_ok.kb
  have hop := op_ok t (by omega)
  have hof := opOf_ok t ht
  have hwd := refIsWord_ok k hk
  have hcl := checkLog_ok l hl
  have he0 : opKind t = 0 → opErr t = 1 := fun h => by unfold opErr; rw [if_pos h]
  have he1 : opKind t ≠ 0 → opErr t = 0 := fun h => by unfold opErr; rw [if_neg h]
  have hr := right_iff.1 h1
  have hll := hr.len
  have hmo := mapOf_ok l hr c
  have hvo := valuesOf_ok l hr c k
  rw [h1] at hcl
  have e1 : colErr l c = 3 := by unfold colErr; rw [if_pos h1, if_pos hc]
  have e2 : getErr l c k = 3 := by unfold getErr; rw [e1]; rfl
  have hm := map_ok l hl c [] (fun h => by rw [e1] at h; cases h)
  have hg := get_ok l hl c [] (by simp) (fun h => by rw [e1] at h; cases h) k
  have a1 : mapAns l c [] = [] := by unfold mapAns; split <;> rfl
  have a2 : getAns l c [] k = [] := by unfold getAns; rw [e2]; rfl
  rw [a1, e1] at hm
  rw [a2, e2] at hg
  have hsm := sameMap_kb [] (by simp) (by simp)
  have hsv := sameS_kb [] (by simp)
  refine pcall_cut tab_all tab_mixed Tryz.func3 (by kernel_rfl) Tryz.ntmps3 rfl ?_
  conv => whnf
  conv => whnf
  repeat (first | (refine Conf.mk (by kernel_rfl) ?_; conv => whnf) | (refine SeqOk.go ?_; conv => whnf))
  try simp only
  refine .data _ _ hm rfl ?_
  conv => whnf
  repeat (first | (refine Conf.mk (by kernel_rfl) ?_; conv => whnf) | (refine SeqOk.go ?_; conv => whnf))
  try simp only
  refine .data _ _ hg rfl ?_
  conv => whnf
  repeat (first | (refine Conf.mk (by kernel_rfl) ?_; conv => whnf) | (refine SeqOk.go ?_; conv => whnf))
  try simp only
  refine .data _ _ hop rfl ?_
  conv => whnf
  repeat (first | (refine Conf.mk (by kernel_rfl) ?_; conv => whnf) | (refine SeqOk.go ?_; conv => whnf))
  try simp only
  refine .data _ _ hcl rfl ?_
  conv => whnf
  repeat (first | (refine Conf.mk (by kernel_rfl) ?_; conv => whnf) | (refine SeqOk.go ?_; conv => whnf))
  try simp only
  refine BoolCase.yes rfl ?_
  conv => whnf
  repeat (first | (refine Conf.mk (by kernel_rfl) ?_; conv => whnf) | (refine SeqOk.go ?_; conv => whnf))
  by_cases hc1 : c < 1
  · refine BoolCase.yes (decide_eq_true hc1) ?_
    conv => whnf
    repeat (first | (refine Conf.mk (by kernel_rfl) ?_; conv => whnf) | (refine SeqOk.go ?_; conv => whnf))
    refine BoolCase.no rfl ?_
    conv => whnf
    repeat (first | (refine Conf.mk (by kernel_rfl) ?_; conv => whnf) | (refine SeqOk.go ?_; conv => whnf))
    refine BoolCase.no rfl ?_
    conv => whnf
    repeat (first | (refine Conf.mk (by kernel_rfl) ?_; conv => whnf) | (refine SeqOk.go ?_; conv => whnf))
    refine BoolCase.no rfl ?_
    conv => whnf
    repeat (first | (refine Conf.mk (by kernel_rfl) ?_; conv => whnf) | (refine SeqOk.go ?_; conv => whnf))
    refine .data _ _ hof rfl ?_
    conv => whnf
    repeat (first | (refine Conf.mk (by kernel_rfl) ?_; conv => whnf) | (refine SeqOk.go ?_; conv => whnf))
    try simp only
    by_cases hkd : opKind t = 0
    · have ho := he0 hkd
      refine BoolCase.yes (by simp [hkd]) ?_
      conv => whnf
      repeat (first | (refine Conf.mk (by kernel_rfl) ?_; conv => whnf) | (refine SeqOk.go ?_; conv => whnf))
      try simp only
      refine .look _ _ hbeg rfl rfl ?_
      conv => whnf
      repeat (first | (refine Conf.mk (by kernel_rfl) ?_; conv => whnf) | (refine SeqOk.go ?_; conv => whnf))
      refine BoolCase.yes (by simp) ?_
      conv => whnf
      repeat (first | (refine Conf.mk (by kernel_rfl) ?_; conv => whnf) | (refine SeqOk.go ?_; conv => whnf))
      try simp only
      refine .look _ _ hsm rfl rfl ?_
      conv => whnf
      repeat (first | (refine Conf.mk (by kernel_rfl) ?_; conv => whnf) | (refine SeqOk.go ?_; conv => whnf))
      refine BoolCase.yes (by simp) ?_
      conv => whnf
      repeat (first | (refine Conf.mk (by kernel_rfl) ?_; conv => whnf) | (refine SeqOk.go ?_; conv => whnf))
      try simp only
      refine .look _ _ hsv rfl rfl ?_
      conv => whnf
      repeat (first | (refine Conf.mk (by kernel_rfl) ?_; conv => whnf) | (refine SeqOk.go ?_; conv => whnf))
      refine BoolCase.yes (by simp [ho]) ?_
      conv => whnf
      repeat (first | (refine Conf.mk (by kernel_rfl) ?_; conv => whnf) | (refine SeqOk.go ?_; conv => whnf))
      try simp only
      refine BoolCase.yes (by simp) ?_
      conv => whnf
      repeat (first | (refine Conf.mk (by kernel_rfl) ?_; conv => whnf) | (refine SeqOk.go ?_; conv => whnf))
      refine BoolCase.yes (by simp) ?_
      conv => whnf
      repeat (first | (refine Conf.mk (by kernel_rfl) ?_; conv => whnf) | (refine SeqOk.go ?_; conv => whnf))
      try simp only
      exact Ret.bool (by simp)
    · have ho := he1 hkd
      refine BoolCase.no (by simp [hkd]) ?_
      conv => whnf
      repeat (first | (refine Conf.mk (by kernel_rfl) ?_; conv => whnf) | (refine SeqOk.go ?_; conv => whnf))
      try simp only
      refine .look _ _ hbeg rfl rfl ?_
      conv => whnf
      repeat (first | (refine Conf.mk (by kernel_rfl) ?_; conv => whnf) | (refine SeqOk.go ?_; conv => whnf))
      refine BoolCase.yes (by simp) ?_
      conv => whnf
      repeat (first | (refine Conf.mk (by kernel_rfl) ?_; conv => whnf) | (refine SeqOk.go ?_; conv => whnf))
      try simp only
      refine .look _ _ hsm rfl rfl ?_
      conv => whnf
      repeat (first | (refine Conf.mk (by kernel_rfl) ?_; conv => whnf) | (refine SeqOk.go ?_; conv => whnf))
      refine BoolCase.yes (by simp) ?_
      conv => whnf
      repeat (first | (refine Conf.mk (by kernel_rfl) ?_; conv => whnf) | (refine SeqOk.go ?_; conv => whnf))
      try simp only
      refine .look _ _ hsv rfl rfl ?_
      conv => whnf
      repeat (first | (refine Conf.mk (by kernel_rfl) ?_; conv => whnf) | (refine SeqOk.go ?_; conv => whnf))
      refine BoolCase.yes (by simp [ho]) ?_
      conv => whnf
      repeat (first | (refine Conf.mk (by kernel_rfl) ?_; conv => whnf) | (refine SeqOk.go ?_; conv => whnf))
      try simp only
      refine BoolCase.yes (by simp) ?_
      conv => whnf
      repeat (first | (refine Conf.mk (by kernel_rfl) ?_; conv => whnf) | (refine SeqOk.go ?_; conv => whnf))
      refine BoolCase.yes (by simp) ?_
      conv => whnf
      repeat (first | (refine Conf.mk (by kernel_rfl) ?_; conv => whnf) | (refine SeqOk.go ?_; conv => whnf))
      try simp only
      exact Ret.bool (by simp)
  · refine BoolCase.no (decide_eq_false hc1) ?_
    conv => whnf
    repeat (first | (refine Conf.mk (by kernel_rfl) ?_; conv => whnf) | (refine SeqOk.go ?_; conv => whnf))
    refine BoolCase.yes (by simp; omega) ?_
    conv => whnf
    repeat (first | (refine Conf.mk (by kernel_rfl) ?_; conv => whnf) | (refine SeqOk.go ?_; conv => whnf))
    refine BoolCase.no rfl ?_
    conv => whnf
    repeat (first | (refine Conf.mk (by kernel_rfl) ?_; conv => whnf) | (refine SeqOk.go ?_; conv => whnf))
    refine BoolCase.no rfl ?_
    conv => whnf
    repeat (first | (refine Conf.mk (by kernel_rfl) ?_; conv => whnf) | (refine SeqOk.go ?_; conv => whnf))
    refine BoolCase.no rfl ?_
    conv => whnf
    repeat (first | (refine Conf.mk (by kernel_rfl) ?_; conv => whnf) | (refine SeqOk.go ?_; conv => whnf))
    refine .data _ _ hof rfl ?_
    conv => whnf
    repeat (first | (refine Conf.mk (by kernel_rfl) ?_; conv => whnf) | (refine SeqOk.go ?_; conv => whnf))
    try simp only
    by_cases hkd : opKind t = 0
    · have ho := he0 hkd
      refine BoolCase.yes (by simp [hkd]) ?_
      conv => whnf
      repeat (first | (refine Conf.mk (by kernel_rfl) ?_; conv => whnf) | (refine SeqOk.go ?_; conv => whnf))
      try simp only
      refine .look _ _ hbeg rfl rfl ?_
      conv => whnf
      repeat (first | (refine Conf.mk (by kernel_rfl) ?_; conv => whnf) | (refine SeqOk.go ?_; conv => whnf))
      refine BoolCase.yes (by simp) ?_
      conv => whnf
      repeat (first | (refine Conf.mk (by kernel_rfl) ?_; conv => whnf) | (refine SeqOk.go ?_; conv => whnf))
      try simp only
      refine .look _ _ hsm rfl rfl ?_
      conv => whnf
      repeat (first | (refine Conf.mk (by kernel_rfl) ?_; conv => whnf) | (refine SeqOk.go ?_; conv => whnf))
      refine BoolCase.yes (by simp) ?_
      conv => whnf
      repeat (first | (refine Conf.mk (by kernel_rfl) ?_; conv => whnf) | (refine SeqOk.go ?_; conv => whnf))
      try simp only
      refine .look _ _ hsv rfl rfl ?_
      conv => whnf
      repeat (first | (refine Conf.mk (by kernel_rfl) ?_; conv => whnf) | (refine SeqOk.go ?_; conv => whnf))
      refine BoolCase.yes (by simp [ho]) ?_
      conv => whnf
      repeat (first | (refine Conf.mk (by kernel_rfl) ?_; conv => whnf) | (refine SeqOk.go ?_; conv => whnf))
      try simp only
      refine BoolCase.yes (by simp) ?_
      conv => whnf
      repeat (first | (refine Conf.mk (by kernel_rfl) ?_; conv => whnf) | (refine SeqOk.go ?_; conv => whnf))
      refine BoolCase.yes (by simp) ?_
      conv => whnf
      repeat (first | (refine Conf.mk (by kernel_rfl) ?_; conv => whnf) | (refine SeqOk.go ?_; conv => whnf))
      try simp only
      exact Ret.bool (by simp)
    · have ho := he1 hkd
      refine BoolCase.no (by simp [hkd]) ?_
      conv => whnf
      repeat (first | (refine Conf.mk (by kernel_rfl) ?_; conv => whnf) | (refine SeqOk.go ?_; conv => whnf))
      try simp only
      refine .look _ _ hbeg rfl rfl ?_
      conv => whnf
      repeat (first | (refine Conf.mk (by kernel_rfl) ?_; conv => whnf) | (refine SeqOk.go ?_; conv => whnf))
      refine BoolCase.yes (by simp) ?_
      conv => whnf
      repeat (first | (refine Conf.mk (by kernel_rfl) ?_; conv => whnf) | (refine SeqOk.go ?_; conv => whnf))
      try simp only
      refine .look _ _ hsm rfl rfl ?_
      conv => whnf
      repeat (first | (refine Conf.mk (by kernel_rfl) ?_; conv => whnf) | (refine SeqOk.go ?_; conv => whnf))
      refine BoolCase.yes (by simp) ?_
      conv => whnf
      repeat (first | (refine Conf.mk (by kernel_rfl) ?_; conv => whnf) | (refine SeqOk.go ?_; conv => whnf))
      try simp only
      refine .look _ _ hsv rfl rfl ?_
      conv => whnf
      repeat (first | (refine Conf.mk (by kernel_rfl) ?_; conv => whnf) | (refine SeqOk.go ?_; conv => whnf))
      refine BoolCase.yes (by simp [ho]) ?_
      conv => whnf
      repeat (first | (refine Conf.mk (by kernel_rfl) ?_; conv => whnf) | (refine SeqOk.go ?_; conv => whnf))
      try simp only
      refine BoolCase.yes (by simp) ?_
      conv => whnf
      repeat (first | (refine Conf.mk (by kernel_rfl) ?_; conv => whnf) | (refine SeqOk.go ?_; conv => whnf))
      refine BoolCase.yes (by simp) ?_
      conv => whnf
      repeat (first | (refine Conf.mk (by kernel_rfl) ?_; conv => whnf) | (refine SeqOk.go ?_; conv => whnf))
      try simp only
      exact Ret.bool (by simp)
set_option maxHeartbeats 0 in
theorem ft_key (l : List Entry') (hl : LogOk l) (c : Int) (k t : ByteArray) (hk : k.size ≤ 140737488355327) (ht : t.size ≤ 140737488355327) (h1 : logErr l = 0) (hc : ¬ (c < 1 ∨ 7 < c)) (hw : isW k = false) : PCall Tryz.prog 3 [.dat (.list (l.map Entry'.enc)), dInt c, .dat (.str k), .dat (.str t)] (dBool true) := by
  have hlen0 := hl.len
  have hvl := valsOf_len l c k
  have hml := mapOf_len l c
  have hmv := fun p (h : p ∈ mapOf l c) => mapOf_vals h
  have hbeg := foldBegun_ok.kb
  have hop := op_ok t (by omega)
  have hof := opOf_ok t ht
  have hwd := refIsWord_ok k hk
  have hcl := checkLog_ok l hl
  have he0 : opKind t = 0 → opErr t = 1 := fun h => by unfold opErr; rw [if_pos h]
  have he1 : opKind t ≠ 0 → opErr t = 0 := fun h => by unfold opErr; rw [if_neg h]
  have hr := right_iff.1 h1
  have hll := hr.len
  have hmo := mapOf_ok l hr c
  have hvo := valuesOf_ok l hr c k
  rw [h1] at hcl
  have e1 : colErr l c = 0 := by unfold colErr; rw [if_pos h1, if_neg hc]
  have hm := map_ok l hl c (mapOf l c) (mapIs' l c)
  have hg := get_ok l hl c (mapOf l c) (by omega) (mapIs' l c) k
  have a1 : mapAns l c (mapOf l c) = mapOf l c := by unfold mapAns; rw [if_pos e1]
  rw [a1, e1] at hm
  have hsm := sameMap_kb (mapOf l c) (by omega) (fun p hp => by have := hmv p hp; omega)
  have e2 : getErr l c k = 1 := by unfold getErr; rw [if_pos e1, hw]; rfl
  have a2 : getAns l c (mapOf l c) k = [] := by unfold getAns; rw [e2]; rfl
  rw [a2, e2] at hg
  have hsv := sameS_kb [] (by simp)
  refine pcall_cut tab_all tab_mixed Tryz.func3 (by kernel_rfl) Tryz.ntmps3 rfl ?_
  conv => whnf
  conv => whnf
  repeat (first | (refine Conf.mk (by kernel_rfl) ?_; conv => whnf) | (refine SeqOk.go ?_; conv => whnf))
  try simp only
  refine .data _ _ hm rfl ?_
  conv => whnf
  repeat (first | (refine Conf.mk (by kernel_rfl) ?_; conv => whnf) | (refine SeqOk.go ?_; conv => whnf))
  try simp only
  refine .data _ _ hg rfl ?_
  conv => whnf
  repeat (first | (refine Conf.mk (by kernel_rfl) ?_; conv => whnf) | (refine SeqOk.go ?_; conv => whnf))
  try simp only
  refine .data _ _ hop rfl ?_
  conv => whnf
  repeat (first | (refine Conf.mk (by kernel_rfl) ?_; conv => whnf) | (refine SeqOk.go ?_; conv => whnf))
  try simp only
  refine .data _ _ hcl rfl ?_
  conv => whnf
  repeat (first | (refine Conf.mk (by kernel_rfl) ?_; conv => whnf) | (refine SeqOk.go ?_; conv => whnf))
  try simp only
  refine BoolCase.yes rfl ?_
  conv => whnf
  repeat (first | (refine Conf.mk (by kernel_rfl) ?_; conv => whnf) | (refine SeqOk.go ?_; conv => whnf))
  refine BoolCase.no (decide_eq_false (by omega)) ?_
  conv => whnf
  repeat (first | (refine Conf.mk (by kernel_rfl) ?_; conv => whnf) | (refine SeqOk.go ?_; conv => whnf))
  refine BoolCase.no (decide_eq_false (by omega)) ?_
  conv => whnf
  repeat (first | (refine Conf.mk (by kernel_rfl) ?_; conv => whnf) | (refine SeqOk.go ?_; conv => whnf))
  refine BoolCase.yes rfl ?_
  conv => whnf
  repeat (first | (refine Conf.mk (by kernel_rfl) ?_; conv => whnf) | (refine SeqOk.go ?_; conv => whnf))
  refine .look _ _ (hw ▸ hwd).kb rfl rfl ?_
  conv => whnf
  repeat (first | (refine Conf.mk (by kernel_rfl) ?_; conv => whnf) | (refine SeqOk.go ?_; conv => whnf))
  refine BoolCase.yes rfl ?_
  conv => whnf
  repeat (first | (refine Conf.mk (by kernel_rfl) ?_; conv => whnf) | (refine SeqOk.go ?_; conv => whnf))
  refine .data _ _ hmo rfl ?_
  conv => whnf
  repeat (first | (refine Conf.mk (by kernel_rfl) ?_; conv => whnf) | (refine SeqOk.go ?_; conv => whnf))
  refine BoolCase.no rfl ?_
  conv => whnf
  repeat (first | (refine Conf.mk (by kernel_rfl) ?_; conv => whnf) | (refine SeqOk.go ?_; conv => whnf))
  refine .data _ _ hof rfl ?_
  conv => whnf
  repeat (first | (refine Conf.mk (by kernel_rfl) ?_; conv => whnf) | (refine SeqOk.go ?_; conv => whnf))
  try simp only
  by_cases hkd : opKind t = 0
  · have ho := he0 hkd
    refine BoolCase.yes (by simp [hkd]) ?_
    conv => whnf
    repeat (first | (refine Conf.mk (by kernel_rfl) ?_; conv => whnf) | (refine SeqOk.go ?_; conv => whnf))
    try simp only
    refine .look _ _ hbeg rfl rfl ?_
    conv => whnf
    repeat (first | (refine Conf.mk (by kernel_rfl) ?_; conv => whnf) | (refine SeqOk.go ?_; conv => whnf))
    refine BoolCase.yes (by simp) ?_
    conv => whnf
    repeat (first | (refine Conf.mk (by kernel_rfl) ?_; conv => whnf) | (refine SeqOk.go ?_; conv => whnf))
    try simp only
    refine .look _ _ hsm rfl rfl ?_
    conv => whnf
    repeat (first | (refine Conf.mk (by kernel_rfl) ?_; conv => whnf) | (refine SeqOk.go ?_; conv => whnf))
    refine BoolCase.yes (by simp) ?_
    conv => whnf
    repeat (first | (refine Conf.mk (by kernel_rfl) ?_; conv => whnf) | (refine SeqOk.go ?_; conv => whnf))
    try simp only
    refine .look _ _ hsv rfl rfl ?_
    conv => whnf
    repeat (first | (refine Conf.mk (by kernel_rfl) ?_; conv => whnf) | (refine SeqOk.go ?_; conv => whnf))
    refine BoolCase.yes (by simp [ho]) ?_
    conv => whnf
    repeat (first | (refine Conf.mk (by kernel_rfl) ?_; conv => whnf) | (refine SeqOk.go ?_; conv => whnf))
    try simp only
    refine BoolCase.yes (by simp) ?_
    conv => whnf
    repeat (first | (refine Conf.mk (by kernel_rfl) ?_; conv => whnf) | (refine SeqOk.go ?_; conv => whnf))
    refine BoolCase.yes (by simp) ?_
    conv => whnf
    repeat (first | (refine Conf.mk (by kernel_rfl) ?_; conv => whnf) | (refine SeqOk.go ?_; conv => whnf))
    try simp only
    exact Ret.bool (by simp)
  · have ho := he1 hkd
    refine BoolCase.no (by simp [hkd]) ?_
    conv => whnf
    repeat (first | (refine Conf.mk (by kernel_rfl) ?_; conv => whnf) | (refine SeqOk.go ?_; conv => whnf))
    try simp only
    refine .look _ _ hbeg rfl rfl ?_
    conv => whnf
    repeat (first | (refine Conf.mk (by kernel_rfl) ?_; conv => whnf) | (refine SeqOk.go ?_; conv => whnf))
    refine BoolCase.yes (by simp) ?_
    conv => whnf
    repeat (first | (refine Conf.mk (by kernel_rfl) ?_; conv => whnf) | (refine SeqOk.go ?_; conv => whnf))
    try simp only
    refine .look _ _ hsm rfl rfl ?_
    conv => whnf
    repeat (first | (refine Conf.mk (by kernel_rfl) ?_; conv => whnf) | (refine SeqOk.go ?_; conv => whnf))
    refine BoolCase.yes (by simp) ?_
    conv => whnf
    repeat (first | (refine Conf.mk (by kernel_rfl) ?_; conv => whnf) | (refine SeqOk.go ?_; conv => whnf))
    try simp only
    refine .look _ _ hsv rfl rfl ?_
    conv => whnf
    repeat (first | (refine Conf.mk (by kernel_rfl) ?_; conv => whnf) | (refine SeqOk.go ?_; conv => whnf))
    refine BoolCase.yes (by simp [ho]) ?_
    conv => whnf
    repeat (first | (refine Conf.mk (by kernel_rfl) ?_; conv => whnf) | (refine SeqOk.go ?_; conv => whnf))
    try simp only
    refine BoolCase.yes (by simp) ?_
    conv => whnf
    repeat (first | (refine Conf.mk (by kernel_rfl) ?_; conv => whnf) | (refine SeqOk.go ?_; conv => whnf))
    refine BoolCase.yes (by simp) ?_
    conv => whnf
    repeat (first | (refine Conf.mk (by kernel_rfl) ?_; conv => whnf) | (refine SeqOk.go ?_; conv => whnf))
    try simp only
    exact Ret.bool (by simp)
set_option maxHeartbeats 0 in
theorem ft_all (l : List Entry') (hl : LogOk l) (c : Int) (k t : ByteArray) (hk : k.size ≤ 140737488355327) (ht : t.size ≤ 140737488355327) (h1 : logErr l = 0) (hc : ¬ (c < 1 ∨ 7 < c)) (hw : isW k = true) : PCall Tryz.prog 3 [.dat (.list (l.map Entry'.enc)), dInt c, .dat (.str k), .dat (.str t)] (dBool true) := by
  have hlen0 := hl.len
  have hvl := valsOf_len l c k
  have hml := mapOf_len l c
  have hmv := fun p (h : p ∈ mapOf l c) => mapOf_vals h
  have hbeg := foldBegun_ok.kb
  have hop := op_ok t (by omega)
  have hof := opOf_ok t ht
  have hwd := refIsWord_ok k hk
  have hcl := checkLog_ok l hl
  have he0 : opKind t = 0 → opErr t = 1 := fun h => by unfold opErr; rw [if_pos h]
  have he1 : opKind t ≠ 0 → opErr t = 0 := fun h => by unfold opErr; rw [if_neg h]
  have hr := right_iff.1 h1
  have hll := hr.len
  have hmo := mapOf_ok l hr c
  have hvo := valuesOf_ok l hr c k
  rw [h1] at hcl
  have e1 : colErr l c = 0 := by unfold colErr; rw [if_pos h1, if_neg hc]
  have hm := map_ok l hl c (mapOf l c) (mapIs' l c)
  have hg := get_ok l hl c (mapOf l c) (by omega) (mapIs' l c) k
  have a1 : mapAns l c (mapOf l c) = mapOf l c := by unfold mapAns; rw [if_pos e1]
  rw [a1, e1] at hm
  have hsm := sameMap_kb (mapOf l c) (by omega) (fun p hp => by have := hmv p hp; omega)
  have e2 : getErr l c k = 0 := by unfold getErr; rw [if_pos e1, hw]; rfl
  have a2 : getAns l c (mapOf l c) k = valsOf l c k := by unfold getAns; rw [if_pos e2, valuesIn_mapOf]
  rw [a2, e2] at hg
  have hsv := sameS_kb (valsOf l c k) (by omega)
  refine pcall_cut tab_all tab_mixed Tryz.func3 (by kernel_rfl) Tryz.ntmps3 rfl ?_
  conv => whnf
  conv => whnf
  repeat (first | (refine Conf.mk (by kernel_rfl) ?_; conv => whnf) | (refine SeqOk.go ?_; conv => whnf))
  try simp only
  refine .data _ _ hm rfl ?_
  conv => whnf
  repeat (first | (refine Conf.mk (by kernel_rfl) ?_; conv => whnf) | (refine SeqOk.go ?_; conv => whnf))
  try simp only
  refine .data _ _ hg rfl ?_
  conv => whnf
  repeat (first | (refine Conf.mk (by kernel_rfl) ?_; conv => whnf) | (refine SeqOk.go ?_; conv => whnf))
  try simp only
  refine .data _ _ hop rfl ?_
  conv => whnf
  repeat (first | (refine Conf.mk (by kernel_rfl) ?_; conv => whnf) | (refine SeqOk.go ?_; conv => whnf))
  try simp only
  refine .data _ _ hcl rfl ?_
  conv => whnf
  repeat (first | (refine Conf.mk (by kernel_rfl) ?_; conv => whnf) | (refine SeqOk.go ?_; conv => whnf))
  try simp only
  refine BoolCase.yes rfl ?_
  conv => whnf
  repeat (first | (refine Conf.mk (by kernel_rfl) ?_; conv => whnf) | (refine SeqOk.go ?_; conv => whnf))
  refine BoolCase.no (decide_eq_false (by omega)) ?_
  conv => whnf
  repeat (first | (refine Conf.mk (by kernel_rfl) ?_; conv => whnf) | (refine SeqOk.go ?_; conv => whnf))
  refine BoolCase.no (decide_eq_false (by omega)) ?_
  conv => whnf
  repeat (first | (refine Conf.mk (by kernel_rfl) ?_; conv => whnf) | (refine SeqOk.go ?_; conv => whnf))
  refine BoolCase.yes rfl ?_
  conv => whnf
  repeat (first | (refine Conf.mk (by kernel_rfl) ?_; conv => whnf) | (refine SeqOk.go ?_; conv => whnf))
  refine .look _ _ (hw ▸ hwd).kb rfl rfl ?_
  conv => whnf
  repeat (first | (refine Conf.mk (by kernel_rfl) ?_; conv => whnf) | (refine SeqOk.go ?_; conv => whnf))
  refine BoolCase.yes rfl ?_
  conv => whnf
  repeat (first | (refine Conf.mk (by kernel_rfl) ?_; conv => whnf) | (refine SeqOk.go ?_; conv => whnf))
  refine .data _ _ hmo rfl ?_
  conv => whnf
  repeat (first | (refine Conf.mk (by kernel_rfl) ?_; conv => whnf) | (refine SeqOk.go ?_; conv => whnf))
  refine BoolCase.yes rfl ?_
  conv => whnf
  repeat (first | (refine Conf.mk (by kernel_rfl) ?_; conv => whnf) | (refine SeqOk.go ?_; conv => whnf))
  refine .data _ _ hvo rfl ?_
  conv => whnf
  repeat (first | (refine Conf.mk (by kernel_rfl) ?_; conv => whnf) | (refine SeqOk.go ?_; conv => whnf))
  refine .data _ _ hof rfl ?_
  conv => whnf
  repeat (first | (refine Conf.mk (by kernel_rfl) ?_; conv => whnf) | (refine SeqOk.go ?_; conv => whnf))
  try simp only
  by_cases hkd : opKind t = 0
  · have ho := he0 hkd
    refine BoolCase.yes (by simp [hkd]) ?_
    conv => whnf
    repeat (first | (refine Conf.mk (by kernel_rfl) ?_; conv => whnf) | (refine SeqOk.go ?_; conv => whnf))
    try simp only
    refine .look _ _ hbeg rfl rfl ?_
    conv => whnf
    repeat (first | (refine Conf.mk (by kernel_rfl) ?_; conv => whnf) | (refine SeqOk.go ?_; conv => whnf))
    refine BoolCase.yes (by simp) ?_
    conv => whnf
    repeat (first | (refine Conf.mk (by kernel_rfl) ?_; conv => whnf) | (refine SeqOk.go ?_; conv => whnf))
    try simp only
    refine .look _ _ hsm rfl rfl ?_
    conv => whnf
    repeat (first | (refine Conf.mk (by kernel_rfl) ?_; conv => whnf) | (refine SeqOk.go ?_; conv => whnf))
    refine BoolCase.yes (by simp) ?_
    conv => whnf
    repeat (first | (refine Conf.mk (by kernel_rfl) ?_; conv => whnf) | (refine SeqOk.go ?_; conv => whnf))
    try simp only
    refine .look _ _ hsv rfl rfl ?_
    conv => whnf
    repeat (first | (refine Conf.mk (by kernel_rfl) ?_; conv => whnf) | (refine SeqOk.go ?_; conv => whnf))
    refine BoolCase.yes (by simp [ho]) ?_
    conv => whnf
    repeat (first | (refine Conf.mk (by kernel_rfl) ?_; conv => whnf) | (refine SeqOk.go ?_; conv => whnf))
    try simp only
    refine BoolCase.yes (by simp) ?_
    conv => whnf
    repeat (first | (refine Conf.mk (by kernel_rfl) ?_; conv => whnf) | (refine SeqOk.go ?_; conv => whnf))
    refine BoolCase.yes (by simp) ?_
    conv => whnf
    repeat (first | (refine Conf.mk (by kernel_rfl) ?_; conv => whnf) | (refine SeqOk.go ?_; conv => whnf))
    try simp only
    exact Ret.bool (by simp)
  · have ho := he1 hkd
    refine BoolCase.no (by simp [hkd]) ?_
    conv => whnf
    repeat (first | (refine Conf.mk (by kernel_rfl) ?_; conv => whnf) | (refine SeqOk.go ?_; conv => whnf))
    try simp only
    refine .look _ _ hbeg rfl rfl ?_
    conv => whnf
    repeat (first | (refine Conf.mk (by kernel_rfl) ?_; conv => whnf) | (refine SeqOk.go ?_; conv => whnf))
    refine BoolCase.yes (by simp) ?_
    conv => whnf
    repeat (first | (refine Conf.mk (by kernel_rfl) ?_; conv => whnf) | (refine SeqOk.go ?_; conv => whnf))
    try simp only
    refine .look _ _ hsm rfl rfl ?_
    conv => whnf
    repeat (first | (refine Conf.mk (by kernel_rfl) ?_; conv => whnf) | (refine SeqOk.go ?_; conv => whnf))
    refine BoolCase.yes (by simp) ?_
    conv => whnf
    repeat (first | (refine Conf.mk (by kernel_rfl) ?_; conv => whnf) | (refine SeqOk.go ?_; conv => whnf))
    try simp only
    refine .look _ _ hsv rfl rfl ?_
    conv => whnf
    repeat (first | (refine Conf.mk (by kernel_rfl) ?_; conv => whnf) | (refine SeqOk.go ?_; conv => whnf))
    refine BoolCase.yes (by simp [ho]) ?_
    conv => whnf
    repeat (first | (refine Conf.mk (by kernel_rfl) ?_; conv => whnf) | (refine SeqOk.go ?_; conv => whnf))
    try simp only
    refine BoolCase.yes (by simp) ?_
    conv => whnf
    repeat (first | (refine Conf.mk (by kernel_rfl) ?_; conv => whnf) | (refine SeqOk.go ?_; conv => whnf))
    refine BoolCase.yes (by simp) ?_
    conv => whnf
    repeat (first | (refine Conf.mk (by kernel_rfl) ?_; conv => whnf) | (refine SeqOk.go ?_; conv => whnf))
    try simp only
    exact Ret.bool (by simp)
set_option maxHeartbeats 0 in
theorem foldTells_ok (l : List Entry') (hl : LogOk l) (c : Int) (k t : ByteArray) (hk : k.size ≤ 140737488355327) (ht : t.size ≤ 140737488355327) : PCall Tryz.prog 3 [.dat (.list (l.map Entry'.enc)), dInt c, .dat (.str k), .dat (.str t)] (dBool true) := by
  by_cases h1 : logErr l = 0
  · by_cases hc : c < 1 ∨ 7 < c
    · exact ft_range l hl c k t hk ht h1 hc
    · cases hw : isW k
      · exact ft_key l hl c k t hk ht h1 hc hw
      · exact ft_all l hl c k t hk ht h1 hc hw
  · exact ft_bad l hl c k t hk ht h1
end Go.Proofs.YtlioojekjnigiaeGreat.AM.Fo
/- What came in, opened: numbers, texts, lists. -/
namespace Go.Proofs.YtlioojekjnigiaeGreat
theorem ownT : ownKnob Tryz.prog.godebug = none := by kernel_rfl
theorem laidT : laidOutB Tryz.prog = true := by kernel_rfl
namespace AM
set_option linter.unusedVariables false
set_option linter.unusedSimpArgs false

theorem allWT_cons {tab : Tab} {n t : Nat} {ts : List Nat} {dss : List (List D)} (h : AllWT tab n (t :: ts) dss) : ∃ d ds, dss = d :: ds ∧ WT tab n t d ∧ AllWT tab n ts ds := by
  cases dss with
  | nil => exact h.elim
  | cons d ds => exact ⟨d, ds, rfl, h.1, h.2⟩
theorem allWT_nil {tab : Tab} {n : Nat} {dss : List (List D)} (h : AllWT tab n [] dss) : dss = [] := by
  cases dss with
  | nil => rfl
  | cons d ds => exact h.elim
theorem all_enc {α : Type} {enc : α → List D} {p : List D → Prop} {q : α → Prop} (h : ∀ e, p e → ∃ x, e = enc x ∧ q x) : ∀ (es : List (List D)), (∀ e ∈ es, p e) → ∃ l : List α, es = l.map enc ∧ ∀ x ∈ l, q x
  | [], _ => ⟨[], rfl, by simp⟩
  | e :: t, hs => by
    obtain ⟨x, rfl, hx⟩ := h e (hs e (by simp))
    obtain ⟨l, rfl, hl⟩ := all_enc h t fun e he => hs e (by simp [he])
    exact ⟨x :: l, rfl, fun y hy => by
      rcases List.mem_cons.1 hy with rfl | hy
      · exact hx
      · exact hl y hy⟩
def I64 (n : Int) : Prop := -9223372036854775808 ≤ n ∧ n ≤ 9223372036854775807
theorem wt_int {n : Nat} {ds : List D} (h : WT tab (n + 1) 3 ds) : ∃ m, ds = [.int .i64 m] ∧ I64 m := by
  have h : ∃ m, ds = [.int .i64 m] ∧ (Lit.int .i64 m).wf = true := h
  obtain ⟨m, rfl, hm⟩ := h
  refine ⟨m, rfl, ?_⟩
  simp [Lit.wf, IntKind.wrap, IntKind.bits, IntKind.signed] at hm
  exact hm
theorem wt_bool {n : Nat} {ds : List D} (h : WT tab (n + 1) 4 ds) : ∃ b, ds = [.bool b] := h
theorem wt_string {n : Nat} {ds : List D} (h : WT tab (n + 1) 9 ds) : ∃ s, ds = [.str s] ∧ s.size ≤ 140737488351232 := h
def encInt (x : Int) : List D := [.int .i64 x]
theorem wt_ints {n : Nat} {ds : List D} (h : WT tab (n + 2) 120 ds) : ∃ l : List Int, ds = [.list (l.map encInt)] ∧ l.length * 8 ≤ 140737488351232 ∧ ∀ x ∈ l, I64 x := by
  obtain ⟨es, rfl, h1, h2⟩ := (h : ∃ es, ds = [.list es] ∧ es.length * 8 ≤ 140737488351232 ∧ ∀ e' ∈ es, WT tab (n + 1) 3 e')
  obtain ⟨l, rfl, hl⟩ := all_enc (enc := encInt) (fun e he => wt_int he) es h2
  exact ⟨l, rfl, by rw [List.length_map] at h1; exact h1, hl⟩
end AM
end Go.Proofs.YtlioojekjnigiaeGreat
/- What came in, opened: ids, entries, logs. -/
namespace Go.Proofs.YtlioojekjnigiaeGreat
namespace AM
set_option linter.unusedVariables false
set_option linter.unusedSimpArgs false

theorem wt_id {n : Nat} {ds : List D} (h : WT tab (n + 2) 45 ds) : ∃ x : Id, ds = x.enc ∧ I64 x.r ∧ I64 x.n := by
  obtain ⟨a, y, rfl, h1, b, z, rfl, h2, rfl⟩ := (h : ∃ xs ys, ds = xs ++ ys ∧ WT tab (n + 1) 3 xs ∧ ∃ xs' ys', ys = xs' ++ ys' ∧ WT tab (n + 1) 3 xs' ∧ ys' = [])
  obtain ⟨r, rfl, hr⟩ := wt_int h1
  obtain ⟨m, rfl, hm⟩ := wt_int h2
  exact ⟨⟨r, m⟩, rfl, hr, hm⟩
theorem wt_ids {n : Nat} {ds : List D} (h : WT tab (n + 3) 46 ds) : ∃ l : List Id, ds = [.list (l.map Id.enc)] ∧ l.length * 16 ≤ 140737488351232 ∧ ∀ x ∈ l, I64 x.r ∧ I64 x.n := by
  obtain ⟨es, rfl, h1, h2⟩ := (h : ∃ es, ds = [.list es] ∧ es.length * 16 ≤ 140737488351232 ∧ ∀ e' ∈ es, WT tab (n + 2) 45 e')
  obtain ⟨l, rfl, hl⟩ := all_enc (fun e he => wt_id he) es h2
  exact ⟨l, rfl, by rw [List.length_map] at h1; exact h1, hl⟩
structure EntryIn (e : Entry') : Prop where
  r : I64 e.id.r
  n : I64 e.id.n
  colors : I64 e.colors
  text : e.text.size ≤ 140737488351232
  len : e.links.length * 16 ≤ 140737488351232
  links : ∀ x ∈ e.links, I64 x.r ∧ I64 x.n
theorem wt_entry {n : Nat} {ds : List D} (h : WT tab (n + 4) 48 ds) : ∃ e : Entry', ds = e.enc ∧ EntryIn e := by
  obtain ⟨a, y, rfl, h1, b, z, rfl, h2, c, u, rfl, h3, d, v, rfl, h4, rfl⟩ := (h : ∃ a y, ds = a ++ y ∧ WT tab (n + 3) 45 a ∧ ∃ b z, y = b ++ z ∧ WT tab (n + 3) 3 b ∧ ∃ c u, z = c ++ u ∧ WT tab (n + 3) 9 c ∧ ∃ d v, u = d ++ v ∧ WT tab (n + 3) 46 d ∧ v = [])
  obtain ⟨x, rfl, hx⟩ := wt_id h1
  obtain ⟨k, rfl, hk⟩ := wt_int h2
  obtain ⟨s, rfl, hs⟩ := wt_string h3
  obtain ⟨l, rfl, hl, hl2⟩ := wt_ids h4
  exact ⟨⟨x, k, s, l⟩, rfl, hx.1, hx.2, hk, hs, hl, hl2⟩
theorem wt_log {n : Nat} {ds : List D} (h : WT tab (n + 5) 22 ds) : ∃ l : List Entry', ds = [.list (l.map Entry'.enc)] ∧ l.length * 64 ≤ 140737488351232 ∧ ∀ e ∈ l, EntryIn e := by
  obtain ⟨es, rfl, h1, h2⟩ := (h : ∃ es, ds = [.list es] ∧ es.length * 64 ≤ 140737488351232 ∧ ∀ e' ∈ es, WT tab (n + 4) 48 e')
  obtain ⟨l, rfl, hl⟩ := all_enc (fun e he => wt_entry he) es h2
  exact ⟨l, rfl, by rw [List.length_map] at h1; exact h1, hl⟩
theorem logOk_in {l : List Entry'} (h : l.length * 64 ≤ 140737488351232) (k : ∀ e ∈ l, EntryIn e) : LogOk l := ⟨by omega, fun e he => by have := (k e he).len; omega⟩
end AM
end Go.Proofs.YtlioojekjnigiaeGreat
