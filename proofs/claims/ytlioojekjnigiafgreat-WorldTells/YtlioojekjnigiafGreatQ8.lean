/- What is leaned on: part 8. -/
import Derived.Test.YtlioojekjnigiafGreatQ7
/- Worlds: Do, as the document says. -/
namespace Go.Proofs.YtlioojekjnigiafGreat.AM
set_option linter.unusedVariables false
set_option linter.unusedSimpArgs false

set_option maxHeartbeats 0 in
theorem doOf30_ok (x : W4) (hR : WorldR x) (n c : Int) (tx : ByteArray) : PCall Tryz.prog 45 [.agg [.dat (.list ([x.a, x.b].map Site'.enc)), .dat (.list ([x.u, x.v].map wayEnc))], .agg [dInt 3, dInt 0, dInt n, dInt c, .dat (.str tx)]] (.tup [(doAns x.w ⟨3, 0, n, c, tx⟩).arg, dInt (doErr x.w ⟨3, 0, n, c, tx⟩)]) := by
  have h1 := worldR_err hR
  have hlu := hR.lu
  have hlv := hR.lv
  have hD : doErr x.w ⟨3, 0, n, c, tx⟩ = if actErr ⟨3, 0, n, c, tx⟩ ≠ 0 then actErr ⟨3, 0, n, c, tx⟩ else doErr4 x ⟨3, 0, n, c, tx⟩ := by unfold doErr; rw [if_neg (by simp [h1])]; rfl
  refine pcall_cut tab_all tab_mixed Tryz.func45 (by kernel_rfl) Tryz.ntmps45 rfl ?_
  conv => whnf
  conv => whnf
  repeat (first | (refine Conf.mk (by kernel_rfl) ?_; conv => whnf) | (refine SeqOk.go ?_; conv => whnf))
  refine .data _ _ (between_ok 3 1 5) rfl ?_
  conv => whnf
  repeat (first | (refine Conf.mk (by kernel_rfl) ?_; conv => whnf) | (refine SeqOk.go ?_; conv => whnf))
  refine BoolCase.no rfl ?_
  conv => whnf
  repeat (first | (refine Conf.mk (by kernel_rfl) ?_; conv => whnf) | (refine SeqOk.go ?_; conv => whnf))
  refine BoolCase.yes rfl ?_
  conv => whnf
  repeat (first | (refine Conf.mk (by kernel_rfl) ?_; conv => whnf) | (refine SeqOk.go ?_; conv => whnf))
  by_cases hc : c = 0
  · refine BoolCase.no (by simp [hc]) ?_
    conv => whnf
    repeat (first | (refine Conf.mk (by kernel_rfl) ?_; conv => whnf) | (refine SeqOk.go ?_; conv => whnf))
    by_cases ht : tx = ByteArray.empty
    · refine BoolCase.no (by simp [ht]; rfl) ?_
      conv => whnf
      repeat (first | (refine Conf.mk (by kernel_rfl) ?_; conv => whnf) | (refine SeqOk.go ?_; conv => whnf))
      refine BoolCase.no rfl ?_
      conv => whnf
      repeat (first | (refine Conf.mk (by kernel_rfl) ?_; conv => whnf) | (refine SeqOk.go ?_; conv => whnf))
      refine BoolCase.no rfl ?_
      have hF : formOk ⟨3, 0, n, c, tx⟩ = true := by unfold formOk; simp [hc, ht]
      conv => whnf
      repeat (first | (refine Conf.mk (by kernel_rfl) ?_; conv => whnf) | (refine SeqOk.go ?_; conv => whnf))
      refine .data _ _ (between_ok 0 0 1) rfl ?_
      conv => whnf
      repeat (first | (refine Conf.mk (by kernel_rfl) ?_; conv => whnf) | (refine SeqOk.go ?_; conv => whnf))
      have h0 : actErr ⟨3, 0, n, c, tx⟩ = 0 := by unfold actErr; rw [if_neg (by simp), if_neg (by simp [hF]), if_neg (by simp)]
      rw [h0, if_neg (by decide)] at hD
      simp only at *
      refine BoolCase.no rfl ?_
      conv => whnf
      repeat (first | (refine Conf.mk (by kernel_rfl) ?_; conv => whnf) | (refine SeqOk.go ?_; conv => whnf))
      refine BoolCase.no rfl ?_
      conv => whnf
      repeat (first | (refine Conf.mk (by kernel_rfl) ?_; conv => whnf) | (refine SeqOk.go ?_; conv => whnf))
      refine .eff [] _ _ _ _ 2 (copyWorld_ok x.a x.b x.u x.v) rfl rfl rfl rfl rfl ?_
      conv => whnf
      repeat (first | (refine Conf.mk (by kernel_rfl) ?_; conv => whnf) | (refine SeqOk.go ?_; conv => whnf))
      refine BoolCase.no rfl ?_
      conv => whnf
      repeat (first | (refine Conf.mk (by kernel_rfl) ?_; conv => whnf) | (refine SeqOk.go ?_; conv => whnf))
      refine .mk 0 (wayEnc x.u) rfl rfl rfl ?_
      conv => whnf
      repeat (first | (refine Conf.mk (by kernel_rfl) ?_; conv => whnf) | (refine SeqOk.go ?_; conv => whnf))
      refine .data _ _ (between_ok n 0 (IntKind.i64.wrap (((x.u.map Entry'.enc).length : Int) - 1))) rfl ?_
      conv => whnf
      repeat (first | (refine Conf.mk (by kernel_rfl) ?_; conv => whnf) | (refine SeqOk.go ?_; conv => whnf))
      by_cases h3 : n < 0 ∨ (x.u.length : Int) ≤ n
      · have hE : doErr4 x ⟨3, 0, n, c, tx⟩ = 5 := by
          unfold doErr4
          rw [if_neg (by simp), if_neg (by simp)]
          exact if_pos h3
        rw [hE] at hD
        have hA : doAns x.w ⟨3, 0, n, c, tx⟩ = ⟨[], []⟩ := by unfold doAns; rw [hD, if_pos (by decide)]
        refine BoolCase.yes (by rw [len_less hlu]; simp; omega) ?_
        conv => whnf
        repeat (first | (refine Conf.mk (by kernel_rfl) ?_; conv => whnf) | (refine SeqOk.go ?_; conv => whnf))
        exact Ret.to (by rw [hD, hA]; rfl)
      · obtain ⟨m, rfl⟩ : ∃ m : Nat, n = m := ⟨n.toNat, by omega⟩
        have hm : m < x.u.length := by omega
        obtain ⟨e1, e2⟩ := hR.eu _ (.inl (List.getElem_mem hm))
        have hrc := receiveOf_ok x.a hR.ra x.u[m] e1
        rw [(hR.recv0 e1 e2).1] at hrc
        refine BoolCase.no (by rw [len_less hlu]; simp; omega) ?_
        conv => whnf
        repeat (first | (refine Conf.mk (by kernel_rfl) ?_; conv => whnf) | (refine SeqOk.go ?_; conv => whnf))
        have hE : doErr4 x ⟨3, 0, m, c, tx⟩ = 0 := by show (if (m : Int) < 0 ∨ (x.u.length : Int) ≤ (m : Int) then _ else _) = _; rw [if_neg h3]; rfl
        have hA : doAns x.w ⟨3, 0, m, c, tx⟩ = W4.w ⟨x.a, x.b, (x.u.eraseIdx m), x.v⟩ := by
          unfold doAns
          rw [hD, hE, if_neg (by decide), W4.of_w]
          rfl
        rw [hE] at hD
        refine BoolCase.no rfl ?_
        conv => whnf
        repeat (first | (refine Conf.mk (by kernel_rfl) ?_; conv => whnf) | (refine SeqOk.go ?_; conv => whnf))
        refine BoolCase.yes rfl ?_
        conv => whnf
        repeat (first | (refine Conf.mk (by kernel_rfl) ?_; conv => whnf) | (refine SeqOk.go ?_; conv => whnf))
        refine .data _ _ (without_ok x.u m hm (by omega)) rfl ?_
        conv => whnf
        repeat (first | (refine Conf.mk (by kernel_rfl) ?_; conv => whnf) | (refine SeqOk.go ?_; conv => whnf))
        refine .mk 0 rfl (by show 0 < 2 / 1; decide) ?_
        conv => whnf
        repeat (first | (refine Conf.mk (by kernel_rfl) ?_; conv => whnf) | (refine SeqOk.go ?_; conv => whnf))
        refine ret_of _ _ ?_
        exact ⟨.tup [(W4.w ⟨x.a, x.b, (x.u.eraseIdx m), x.v⟩).arg, dInt 0], by kernel_rfl, by rw [hD, hA]⟩
    · refine BoolCase.yes (by simp; exact ht) ?_
      have hF : formOk ⟨3, 0, n, c, tx⟩ = false := by unfold formOk; simp [ht]
      have h3 : actErr ⟨3, 0, n, c, tx⟩ = 1 := by unfold actErr; rw [if_neg (by simp), if_pos hF]
      have hE : doErr x.w ⟨3, 0, n, c, tx⟩ = 1 := by rw [hD, h3, if_pos (by decide)]
      have hA : doAns x.w ⟨3, 0, n, c, tx⟩ = ⟨[], []⟩ := by unfold doAns; rw [if_pos (by rw [hE]; decide)]
      conv => whnf
      repeat (first | (refine Conf.mk (by kernel_rfl) ?_; conv => whnf) | (refine SeqOk.go ?_; conv => whnf))
      exact Ret.to (by rw [hE, hA]; rfl)
  · refine BoolCase.yes (by simp [hc]) ?_
    have hF : formOk ⟨3, 0, n, c, tx⟩ = false := by unfold formOk; simp [hc]
    have h3 : actErr ⟨3, 0, n, c, tx⟩ = 1 := by unfold actErr; rw [if_neg (by simp), if_pos hF]
    have hE : doErr x.w ⟨3, 0, n, c, tx⟩ = 1 := by rw [hD, h3, if_pos (by decide)]
    have hA : doAns x.w ⟨3, 0, n, c, tx⟩ = ⟨[], []⟩ := by unfold doAns; rw [if_pos (by rw [hE]; decide)]
    conv => whnf
    repeat (first | (refine Conf.mk (by kernel_rfl) ?_; conv => whnf) | (refine SeqOk.go ?_; conv => whnf))
    exact Ret.to (by rw [hE, hA]; rfl)
set_option maxHeartbeats 0 in
theorem doOf31_ok (x : W4) (hR : WorldR x) (n c : Int) (tx : ByteArray) : PCall Tryz.prog 45 [.agg [.dat (.list ([x.a, x.b].map Site'.enc)), .dat (.list ([x.u, x.v].map wayEnc))], .agg [dInt 3, dInt 1, dInt n, dInt c, .dat (.str tx)]] (.tup [(doAns x.w ⟨3, 1, n, c, tx⟩).arg, dInt (doErr x.w ⟨3, 1, n, c, tx⟩)]) := by
  have h1 := worldR_err hR
  have hlu := hR.lu
  have hlv := hR.lv
  have hD : doErr x.w ⟨3, 1, n, c, tx⟩ = if actErr ⟨3, 1, n, c, tx⟩ ≠ 0 then actErr ⟨3, 1, n, c, tx⟩ else doErr4 x ⟨3, 1, n, c, tx⟩ := by unfold doErr; rw [if_neg (by simp [h1])]; rfl
  refine pcall_cut tab_all tab_mixed Tryz.func45 (by kernel_rfl) Tryz.ntmps45 rfl ?_
  conv => whnf
  conv => whnf
  repeat (first | (refine Conf.mk (by kernel_rfl) ?_; conv => whnf) | (refine SeqOk.go ?_; conv => whnf))
  refine .data _ _ (between_ok 3 1 5) rfl ?_
  conv => whnf
  repeat (first | (refine Conf.mk (by kernel_rfl) ?_; conv => whnf) | (refine SeqOk.go ?_; conv => whnf))
  refine BoolCase.no rfl ?_
  conv => whnf
  repeat (first | (refine Conf.mk (by kernel_rfl) ?_; conv => whnf) | (refine SeqOk.go ?_; conv => whnf))
  refine BoolCase.yes rfl ?_
  conv => whnf
  repeat (first | (refine Conf.mk (by kernel_rfl) ?_; conv => whnf) | (refine SeqOk.go ?_; conv => whnf))
  by_cases hc : c = 0
  · refine BoolCase.no (by simp [hc]) ?_
    conv => whnf
    repeat (first | (refine Conf.mk (by kernel_rfl) ?_; conv => whnf) | (refine SeqOk.go ?_; conv => whnf))
    by_cases ht : tx = ByteArray.empty
    · refine BoolCase.no (by simp [ht]; rfl) ?_
      conv => whnf
      repeat (first | (refine Conf.mk (by kernel_rfl) ?_; conv => whnf) | (refine SeqOk.go ?_; conv => whnf))
      refine BoolCase.no rfl ?_
      conv => whnf
      repeat (first | (refine Conf.mk (by kernel_rfl) ?_; conv => whnf) | (refine SeqOk.go ?_; conv => whnf))
      refine BoolCase.no rfl ?_
      have hF : formOk ⟨3, 1, n, c, tx⟩ = true := by unfold formOk; simp [hc, ht]
      conv => whnf
      repeat (first | (refine Conf.mk (by kernel_rfl) ?_; conv => whnf) | (refine SeqOk.go ?_; conv => whnf))
      refine .data _ _ (between_ok 1 0 1) rfl ?_
      conv => whnf
      repeat (first | (refine Conf.mk (by kernel_rfl) ?_; conv => whnf) | (refine SeqOk.go ?_; conv => whnf))
      have h0 : actErr ⟨3, 1, n, c, tx⟩ = 0 := by unfold actErr; rw [if_neg (by simp), if_neg (by simp [hF]), if_neg (by simp)]
      rw [h0, if_neg (by decide)] at hD
      simp only at *
      refine BoolCase.no rfl ?_
      conv => whnf
      repeat (first | (refine Conf.mk (by kernel_rfl) ?_; conv => whnf) | (refine SeqOk.go ?_; conv => whnf))
      refine BoolCase.no rfl ?_
      conv => whnf
      repeat (first | (refine Conf.mk (by kernel_rfl) ?_; conv => whnf) | (refine SeqOk.go ?_; conv => whnf))
      refine .eff [] _ _ _ _ 2 (copyWorld_ok x.a x.b x.u x.v) rfl rfl rfl rfl rfl ?_
      conv => whnf
      repeat (first | (refine Conf.mk (by kernel_rfl) ?_; conv => whnf) | (refine SeqOk.go ?_; conv => whnf))
      refine BoolCase.no rfl ?_
      conv => whnf
      repeat (first | (refine Conf.mk (by kernel_rfl) ?_; conv => whnf) | (refine SeqOk.go ?_; conv => whnf))
      refine .mk 1 (wayEnc x.v) rfl rfl rfl ?_
      conv => whnf
      repeat (first | (refine Conf.mk (by kernel_rfl) ?_; conv => whnf) | (refine SeqOk.go ?_; conv => whnf))
      refine .data _ _ (between_ok n 0 (IntKind.i64.wrap (((x.v.map Entry'.enc).length : Int) - 1))) rfl ?_
      conv => whnf
      repeat (first | (refine Conf.mk (by kernel_rfl) ?_; conv => whnf) | (refine SeqOk.go ?_; conv => whnf))
      by_cases h3 : n < 0 ∨ (x.v.length : Int) ≤ n
      · have hE : doErr4 x ⟨3, 1, n, c, tx⟩ = 5 := by
          unfold doErr4
          rw [if_neg (by simp), if_neg (by simp)]
          exact if_pos h3
        rw [hE] at hD
        have hA : doAns x.w ⟨3, 1, n, c, tx⟩ = ⟨[], []⟩ := by unfold doAns; rw [hD, if_pos (by decide)]
        refine BoolCase.yes (by rw [len_less hlv]; simp; omega) ?_
        conv => whnf
        repeat (first | (refine Conf.mk (by kernel_rfl) ?_; conv => whnf) | (refine SeqOk.go ?_; conv => whnf))
        exact Ret.to (by rw [hD, hA]; rfl)
      · obtain ⟨m, rfl⟩ : ∃ m : Nat, n = m := ⟨n.toNat, by omega⟩
        have hm : m < x.v.length := by omega
        obtain ⟨e1, e2⟩ := hR.eu _ (.inr (List.getElem_mem hm))
        have hrc := receiveOf_ok x.b hR.rb x.v[m] e1
        rw [(hR.recv1 e1 e2).1] at hrc
        refine BoolCase.no (by rw [len_less hlv]; simp; omega) ?_
        conv => whnf
        repeat (first | (refine Conf.mk (by kernel_rfl) ?_; conv => whnf) | (refine SeqOk.go ?_; conv => whnf))
        have hE : doErr4 x ⟨3, 1, m, c, tx⟩ = 0 := by show (if (m : Int) < 0 ∨ (x.v.length : Int) ≤ (m : Int) then _ else _) = _; rw [if_neg h3]; rfl
        have hA : doAns x.w ⟨3, 1, m, c, tx⟩ = W4.w ⟨x.a, x.b, x.u, (x.v.eraseIdx m)⟩ := by
          unfold doAns
          rw [hD, hE, if_neg (by decide), W4.of_w]
          rfl
        rw [hE] at hD
        refine BoolCase.no rfl ?_
        conv => whnf
        repeat (first | (refine Conf.mk (by kernel_rfl) ?_; conv => whnf) | (refine SeqOk.go ?_; conv => whnf))
        refine BoolCase.yes rfl ?_
        conv => whnf
        repeat (first | (refine Conf.mk (by kernel_rfl) ?_; conv => whnf) | (refine SeqOk.go ?_; conv => whnf))
        refine .data _ _ (without_ok x.v m hm (by omega)) rfl ?_
        conv => whnf
        repeat (first | (refine Conf.mk (by kernel_rfl) ?_; conv => whnf) | (refine SeqOk.go ?_; conv => whnf))
        refine .mk 1 rfl (by show 1 < 2 / 1; decide) ?_
        conv => whnf
        repeat (first | (refine Conf.mk (by kernel_rfl) ?_; conv => whnf) | (refine SeqOk.go ?_; conv => whnf))
        refine ret_of _ _ ?_
        exact ⟨.tup [(W4.w ⟨x.a, x.b, x.u, (x.v.eraseIdx m)⟩).arg, dInt 0], by kernel_rfl, by rw [hD, hA]⟩
    · refine BoolCase.yes (by simp; exact ht) ?_
      have hF : formOk ⟨3, 1, n, c, tx⟩ = false := by unfold formOk; simp [ht]
      have h3 : actErr ⟨3, 1, n, c, tx⟩ = 1 := by unfold actErr; rw [if_neg (by simp), if_pos hF]
      have hE : doErr x.w ⟨3, 1, n, c, tx⟩ = 1 := by rw [hD, h3, if_pos (by decide)]
      have hA : doAns x.w ⟨3, 1, n, c, tx⟩ = ⟨[], []⟩ := by unfold doAns; rw [if_pos (by rw [hE]; decide)]
      conv => whnf
      repeat (first | (refine Conf.mk (by kernel_rfl) ?_; conv => whnf) | (refine SeqOk.go ?_; conv => whnf))
      exact Ret.to (by rw [hE, hA]; rfl)
  · refine BoolCase.yes (by simp [hc]) ?_
    have hF : formOk ⟨3, 1, n, c, tx⟩ = false := by unfold formOk; simp [hc]
    have h3 : actErr ⟨3, 1, n, c, tx⟩ = 1 := by unfold actErr; rw [if_neg (by simp), if_pos hF]
    have hE : doErr x.w ⟨3, 1, n, c, tx⟩ = 1 := by rw [hD, h3, if_pos (by decide)]
    have hA : doAns x.w ⟨3, 1, n, c, tx⟩ = ⟨[], []⟩ := by unfold doAns; rw [if_pos (by rw [hE]; decide)]
    conv => whnf
    repeat (first | (refine Conf.mk (by kernel_rfl) ?_; conv => whnf) | (refine SeqOk.go ?_; conv => whnf))
    exact Ret.to (by rw [hE, hA]; rfl)
end Go.Proofs.YtlioojekjnigiafGreat.AM
/- Worlds: Do, as the document says. -/
namespace Go.Proofs.YtlioojekjnigiafGreat.AM
set_option linter.unusedVariables false
set_option linter.unusedSimpArgs false

set_option maxHeartbeats 0 in
theorem doOf40_ok (x : W4) (hR : WorldR x) (n c : Int) (tx : ByteArray) : PCall Tryz.prog 45 [.agg [.dat (.list ([x.a, x.b].map Site'.enc)), .dat (.list ([x.u, x.v].map wayEnc))], .agg [dInt 4, dInt 0, dInt n, dInt c, .dat (.str tx)]] (.tup [(doAns x.w ⟨4, 0, n, c, tx⟩).arg, dInt (doErr x.w ⟨4, 0, n, c, tx⟩)]) := by
  have h1 := worldR_err hR
  have hlu := hR.lu
  have hlv := hR.lv
  have hD : doErr x.w ⟨4, 0, n, c, tx⟩ = if actErr ⟨4, 0, n, c, tx⟩ ≠ 0 then actErr ⟨4, 0, n, c, tx⟩ else doErr4 x ⟨4, 0, n, c, tx⟩ := by unfold doErr; rw [if_neg (by simp [h1])]; rfl
  refine pcall_cut tab_all tab_mixed Tryz.func45 (by kernel_rfl) Tryz.ntmps45 rfl ?_
  conv => whnf
  conv => whnf
  repeat (first | (refine Conf.mk (by kernel_rfl) ?_; conv => whnf) | (refine SeqOk.go ?_; conv => whnf))
  refine .data _ _ (between_ok 4 1 5) rfl ?_
  conv => whnf
  repeat (first | (refine Conf.mk (by kernel_rfl) ?_; conv => whnf) | (refine SeqOk.go ?_; conv => whnf))
  refine BoolCase.no rfl ?_
  conv => whnf
  repeat (first | (refine Conf.mk (by kernel_rfl) ?_; conv => whnf) | (refine SeqOk.go ?_; conv => whnf))
  refine BoolCase.yes rfl ?_
  conv => whnf
  repeat (first | (refine Conf.mk (by kernel_rfl) ?_; conv => whnf) | (refine SeqOk.go ?_; conv => whnf))
  by_cases hc : c = 0
  · refine BoolCase.no (by simp [hc]) ?_
    conv => whnf
    repeat (first | (refine Conf.mk (by kernel_rfl) ?_; conv => whnf) | (refine SeqOk.go ?_; conv => whnf))
    by_cases ht : tx = ByteArray.empty
    · refine BoolCase.no (by simp [ht]; rfl) ?_
      conv => whnf
      repeat (first | (refine Conf.mk (by kernel_rfl) ?_; conv => whnf) | (refine SeqOk.go ?_; conv => whnf))
      refine BoolCase.no rfl ?_
      conv => whnf
      repeat (first | (refine Conf.mk (by kernel_rfl) ?_; conv => whnf) | (refine SeqOk.go ?_; conv => whnf))
      refine BoolCase.no rfl ?_
      have hF : formOk ⟨4, 0, n, c, tx⟩ = true := by unfold formOk; simp [hc, ht]
      conv => whnf
      repeat (first | (refine Conf.mk (by kernel_rfl) ?_; conv => whnf) | (refine SeqOk.go ?_; conv => whnf))
      refine .data _ _ (between_ok 0 0 1) rfl ?_
      conv => whnf
      repeat (first | (refine Conf.mk (by kernel_rfl) ?_; conv => whnf) | (refine SeqOk.go ?_; conv => whnf))
      have h0 : actErr ⟨4, 0, n, c, tx⟩ = 0 := by unfold actErr; rw [if_neg (by simp), if_neg (by simp [hF]), if_neg (by simp)]
      rw [h0, if_neg (by decide)] at hD
      simp only at *
      refine BoolCase.no rfl ?_
      conv => whnf
      repeat (first | (refine Conf.mk (by kernel_rfl) ?_; conv => whnf) | (refine SeqOk.go ?_; conv => whnf))
      refine BoolCase.no rfl ?_
      conv => whnf
      repeat (first | (refine Conf.mk (by kernel_rfl) ?_; conv => whnf) | (refine SeqOk.go ?_; conv => whnf))
      refine .eff [] _ _ _ _ 2 (copyWorld_ok x.a x.b x.u x.v) rfl rfl rfl rfl rfl ?_
      conv => whnf
      repeat (first | (refine Conf.mk (by kernel_rfl) ?_; conv => whnf) | (refine SeqOk.go ?_; conv => whnf))
      refine BoolCase.no rfl ?_
      conv => whnf
      repeat (first | (refine Conf.mk (by kernel_rfl) ?_; conv => whnf) | (refine SeqOk.go ?_; conv => whnf))
      refine .mk 0 (wayEnc x.u) rfl rfl rfl ?_
      conv => whnf
      repeat (first | (refine Conf.mk (by kernel_rfl) ?_; conv => whnf) | (refine SeqOk.go ?_; conv => whnf))
      refine .data _ _ (between_ok n 0 (IntKind.i64.wrap (((x.u.map Entry'.enc).length : Int) - 1))) rfl ?_
      conv => whnf
      repeat (first | (refine Conf.mk (by kernel_rfl) ?_; conv => whnf) | (refine SeqOk.go ?_; conv => whnf))
      by_cases h3 : n < 0 ∨ (x.u.length : Int) ≤ n
      · have hE : doErr4 x ⟨4, 0, n, c, tx⟩ = 5 := by
          unfold doErr4
          rw [if_neg (by simp), if_neg (by simp)]
          exact if_pos h3
        rw [hE] at hD
        have hA : doAns x.w ⟨4, 0, n, c, tx⟩ = ⟨[], []⟩ := by unfold doAns; rw [hD, if_pos (by decide)]
        refine BoolCase.yes (by rw [len_less hlu]; simp; omega) ?_
        conv => whnf
        repeat (first | (refine Conf.mk (by kernel_rfl) ?_; conv => whnf) | (refine SeqOk.go ?_; conv => whnf))
        exact Ret.to (by rw [hD, hA]; rfl)
      · obtain ⟨m, rfl⟩ : ∃ m : Nat, n = m := ⟨n.toNat, by omega⟩
        have hm : m < x.u.length := by omega
        obtain ⟨e1, e2⟩ := hR.eu _ (.inl (List.getElem_mem hm))
        have hrc := receiveOf_ok x.a hR.ra x.u[m] e1
        rw [(hR.recv0 e1 e2).1] at hrc
        refine BoolCase.no (by rw [len_less hlu]; simp; omega) ?_
        conv => whnf
        repeat (first | (refine Conf.mk (by kernel_rfl) ?_; conv => whnf) | (refine SeqOk.go ?_; conv => whnf))
        refine BoolCase.no rfl ?_
        conv => whnf
        repeat (first | (refine Conf.mk (by kernel_rfl) ?_; conv => whnf) | (refine SeqOk.go ?_; conv => whnf))
        refine BoolCase.no rfl ?_
        conv => whnf
        repeat (first | (refine Conf.mk (by kernel_rfl) ?_; conv => whnf) | (refine SeqOk.go ?_; conv => whnf))
        refine BoolCase.yes rfl ?_
        conv => whnf
        repeat (first | (refine Conf.mk (by kernel_rfl) ?_; conv => whnf) | (refine SeqOk.go ?_; conv => whnf))
        by_cases hf : x.u.length = 30
        · skip
          have hE : doErr4 x ⟨4, 0, m, c, tx⟩ = 2 := by show (if (m : Int) < 0 ∨ (x.u.length : Int) ≤ (m : Int) then _ else (if (4 : Int) = 4 ∧ x.u.length = 30 then _ else _)) = _; rw [if_neg h3, if_pos ⟨rfl, hf⟩]
          rw [hE] at hD
          have hA : doAns x.w ⟨4, 0, m, c, tx⟩ = ⟨[], []⟩ := by unfold doAns; rw [hD, if_pos (by first | decide | assumption)]
          refine BoolCase.yes (by simp; omega) ?_
          conv => whnf
          repeat (first | (refine Conf.mk (by kernel_rfl) ?_; conv => whnf) | (refine SeqOk.go ?_; conv => whnf))
          exact Ret.to (by rw [hD, hA]; rfl)
        · skip
          have hE : doErr4 x ⟨4, 0, m, c, tx⟩ = 0 := by show (if (m : Int) < 0 ∨ (x.u.length : Int) ≤ (m : Int) then _ else (if (4 : Int) = 4 ∧ x.u.length = 30 then _ else _)) = _; rw [if_neg h3, if_neg fun k => hf k.2]
          have hA : doAns x.w ⟨4, 0, m, c, tx⟩ = W4.w ⟨x.a, x.b, (x.u ++ [x.u[m]]), x.v⟩ := by
            unfold doAns
            rw [hD, hE, if_neg (by decide), W4.of_w]
            rw [← nth0_lt hm]; rfl
          rw [hE] at hD
          refine BoolCase.no (by simp; omega) ?_
          conv => whnf
          repeat (first | (refine Conf.mk (by kernel_rfl) ?_; conv => whnf) | (refine SeqOk.go ?_; conv => whnf))
          refine ⟨enc5, by simp; omega, ?_⟩
          conv => whnf
          repeat (first | (refine Conf.mk (by kernel_rfl) ?_; conv => whnf) | (refine SeqOk.go ?_; conv => whnf))
          try simp only
          refine AtIdx.ofMap (l := x.u) hm rfl ?_
          conv => whnf
          repeat (first | (refine Conf.mk (by kernel_rfl) ?_; conv => whnf) | (refine SeqOk.go ?_; conv => whnf))
          try simp only
          refine ⟨by simp [Entry'.enc], by simp; omega, ?_⟩
          conv => whnf
          repeat (first | (refine Conf.mk (by kernel_rfl) ?_; conv => whnf) | (refine SeqOk.go ?_; conv => whnf))
          have hrow : (x.u ++ [x.u[m]]).map Entry'.enc = x.u.map Entry'.enc ++ [x.u[m].enc] := by rw [List.map_append]; rfl
          generalize x.u[m] = ge at hA hrow ⊢
          try simp only
          refine .mk 0 rfl (by show 0 < 2 / 1; decide) ?_
          conv => whnf
          repeat (first | (refine Conf.mk (by kernel_rfl) ?_; conv => whnf) | (refine SeqOk.go ?_; conv => whnf))
          refine ret_of _ _ ?_
          exact ⟨.tup [wArg x.a x.b (x.u.map Entry'.enc ++ [ge.enc]) (x.v.map Entry'.enc), dInt 0], by kernel_rfl, by rw [hD, hA]; show _ = AVal.tup [wArg x.a x.b ((x.u ++ [ge]).map Entry'.enc) (x.v.map Entry'.enc), dInt 0]; rw [hrow]⟩
    · refine BoolCase.yes (by simp; exact ht) ?_
      have hF : formOk ⟨4, 0, n, c, tx⟩ = false := by unfold formOk; simp [ht]
      have h3 : actErr ⟨4, 0, n, c, tx⟩ = 1 := by unfold actErr; rw [if_neg (by simp), if_pos hF]
      have hE : doErr x.w ⟨4, 0, n, c, tx⟩ = 1 := by rw [hD, h3, if_pos (by decide)]
      have hA : doAns x.w ⟨4, 0, n, c, tx⟩ = ⟨[], []⟩ := by unfold doAns; rw [if_pos (by rw [hE]; decide)]
      conv => whnf
      repeat (first | (refine Conf.mk (by kernel_rfl) ?_; conv => whnf) | (refine SeqOk.go ?_; conv => whnf))
      exact Ret.to (by rw [hE, hA]; rfl)
  · refine BoolCase.yes (by simp [hc]) ?_
    have hF : formOk ⟨4, 0, n, c, tx⟩ = false := by unfold formOk; simp [hc]
    have h3 : actErr ⟨4, 0, n, c, tx⟩ = 1 := by unfold actErr; rw [if_neg (by simp), if_pos hF]
    have hE : doErr x.w ⟨4, 0, n, c, tx⟩ = 1 := by rw [hD, h3, if_pos (by decide)]
    have hA : doAns x.w ⟨4, 0, n, c, tx⟩ = ⟨[], []⟩ := by unfold doAns; rw [if_pos (by rw [hE]; decide)]
    conv => whnf
    repeat (first | (refine Conf.mk (by kernel_rfl) ?_; conv => whnf) | (refine SeqOk.go ?_; conv => whnf))
    exact Ret.to (by rw [hE, hA]; rfl)
set_option maxHeartbeats 0 in
theorem doOf41_ok (x : W4) (hR : WorldR x) (n c : Int) (tx : ByteArray) : PCall Tryz.prog 45 [.agg [.dat (.list ([x.a, x.b].map Site'.enc)), .dat (.list ([x.u, x.v].map wayEnc))], .agg [dInt 4, dInt 1, dInt n, dInt c, .dat (.str tx)]] (.tup [(doAns x.w ⟨4, 1, n, c, tx⟩).arg, dInt (doErr x.w ⟨4, 1, n, c, tx⟩)]) := by
  have h1 := worldR_err hR
  have hlu := hR.lu
  have hlv := hR.lv
  have hD : doErr x.w ⟨4, 1, n, c, tx⟩ = if actErr ⟨4, 1, n, c, tx⟩ ≠ 0 then actErr ⟨4, 1, n, c, tx⟩ else doErr4 x ⟨4, 1, n, c, tx⟩ := by unfold doErr; rw [if_neg (by simp [h1])]; rfl
  refine pcall_cut tab_all tab_mixed Tryz.func45 (by kernel_rfl) Tryz.ntmps45 rfl ?_
  conv => whnf
  conv => whnf
  repeat (first | (refine Conf.mk (by kernel_rfl) ?_; conv => whnf) | (refine SeqOk.go ?_; conv => whnf))
  refine .data _ _ (between_ok 4 1 5) rfl ?_
  conv => whnf
  repeat (first | (refine Conf.mk (by kernel_rfl) ?_; conv => whnf) | (refine SeqOk.go ?_; conv => whnf))
  refine BoolCase.no rfl ?_
  conv => whnf
  repeat (first | (refine Conf.mk (by kernel_rfl) ?_; conv => whnf) | (refine SeqOk.go ?_; conv => whnf))
  refine BoolCase.yes rfl ?_
  conv => whnf
  repeat (first | (refine Conf.mk (by kernel_rfl) ?_; conv => whnf) | (refine SeqOk.go ?_; conv => whnf))
  by_cases hc : c = 0
  · refine BoolCase.no (by simp [hc]) ?_
    conv => whnf
    repeat (first | (refine Conf.mk (by kernel_rfl) ?_; conv => whnf) | (refine SeqOk.go ?_; conv => whnf))
    by_cases ht : tx = ByteArray.empty
    · refine BoolCase.no (by simp [ht]; rfl) ?_
      conv => whnf
      repeat (first | (refine Conf.mk (by kernel_rfl) ?_; conv => whnf) | (refine SeqOk.go ?_; conv => whnf))
      refine BoolCase.no rfl ?_
      conv => whnf
      repeat (first | (refine Conf.mk (by kernel_rfl) ?_; conv => whnf) | (refine SeqOk.go ?_; conv => whnf))
      refine BoolCase.no rfl ?_
      have hF : formOk ⟨4, 1, n, c, tx⟩ = true := by unfold formOk; simp [hc, ht]
      conv => whnf
      repeat (first | (refine Conf.mk (by kernel_rfl) ?_; conv => whnf) | (refine SeqOk.go ?_; conv => whnf))
      refine .data _ _ (between_ok 1 0 1) rfl ?_
      conv => whnf
      repeat (first | (refine Conf.mk (by kernel_rfl) ?_; conv => whnf) | (refine SeqOk.go ?_; conv => whnf))
      have h0 : actErr ⟨4, 1, n, c, tx⟩ = 0 := by unfold actErr; rw [if_neg (by simp), if_neg (by simp [hF]), if_neg (by simp)]
      rw [h0, if_neg (by decide)] at hD
      simp only at *
      refine BoolCase.no rfl ?_
      conv => whnf
      repeat (first | (refine Conf.mk (by kernel_rfl) ?_; conv => whnf) | (refine SeqOk.go ?_; conv => whnf))
      refine BoolCase.no rfl ?_
      conv => whnf
      repeat (first | (refine Conf.mk (by kernel_rfl) ?_; conv => whnf) | (refine SeqOk.go ?_; conv => whnf))
      refine .eff [] _ _ _ _ 2 (copyWorld_ok x.a x.b x.u x.v) rfl rfl rfl rfl rfl ?_
      conv => whnf
      repeat (first | (refine Conf.mk (by kernel_rfl) ?_; conv => whnf) | (refine SeqOk.go ?_; conv => whnf))
      refine BoolCase.no rfl ?_
      conv => whnf
      repeat (first | (refine Conf.mk (by kernel_rfl) ?_; conv => whnf) | (refine SeqOk.go ?_; conv => whnf))
      refine .mk 1 (wayEnc x.v) rfl rfl rfl ?_
      conv => whnf
      repeat (first | (refine Conf.mk (by kernel_rfl) ?_; conv => whnf) | (refine SeqOk.go ?_; conv => whnf))
      refine .data _ _ (between_ok n 0 (IntKind.i64.wrap (((x.v.map Entry'.enc).length : Int) - 1))) rfl ?_
      conv => whnf
      repeat (first | (refine Conf.mk (by kernel_rfl) ?_; conv => whnf) | (refine SeqOk.go ?_; conv => whnf))
      by_cases h3 : n < 0 ∨ (x.v.length : Int) ≤ n
      · have hE : doErr4 x ⟨4, 1, n, c, tx⟩ = 5 := by
          unfold doErr4
          rw [if_neg (by simp), if_neg (by simp)]
          exact if_pos h3
        rw [hE] at hD
        have hA : doAns x.w ⟨4, 1, n, c, tx⟩ = ⟨[], []⟩ := by unfold doAns; rw [hD, if_pos (by decide)]
        refine BoolCase.yes (by rw [len_less hlv]; simp; omega) ?_
        conv => whnf
        repeat (first | (refine Conf.mk (by kernel_rfl) ?_; conv => whnf) | (refine SeqOk.go ?_; conv => whnf))
        exact Ret.to (by rw [hD, hA]; rfl)
      · obtain ⟨m, rfl⟩ : ∃ m : Nat, n = m := ⟨n.toNat, by omega⟩
        have hm : m < x.v.length := by omega
        obtain ⟨e1, e2⟩ := hR.eu _ (.inr (List.getElem_mem hm))
        have hrc := receiveOf_ok x.b hR.rb x.v[m] e1
        rw [(hR.recv1 e1 e2).1] at hrc
        refine BoolCase.no (by rw [len_less hlv]; simp; omega) ?_
        conv => whnf
        repeat (first | (refine Conf.mk (by kernel_rfl) ?_; conv => whnf) | (refine SeqOk.go ?_; conv => whnf))
        refine BoolCase.no rfl ?_
        conv => whnf
        repeat (first | (refine Conf.mk (by kernel_rfl) ?_; conv => whnf) | (refine SeqOk.go ?_; conv => whnf))
        refine BoolCase.no rfl ?_
        conv => whnf
        repeat (first | (refine Conf.mk (by kernel_rfl) ?_; conv => whnf) | (refine SeqOk.go ?_; conv => whnf))
        refine BoolCase.yes rfl ?_
        conv => whnf
        repeat (first | (refine Conf.mk (by kernel_rfl) ?_; conv => whnf) | (refine SeqOk.go ?_; conv => whnf))
        by_cases hf : x.v.length = 30
        · skip
          have hE : doErr4 x ⟨4, 1, m, c, tx⟩ = 2 := by show (if (m : Int) < 0 ∨ (x.v.length : Int) ≤ (m : Int) then _ else (if (4 : Int) = 4 ∧ x.v.length = 30 then _ else _)) = _; rw [if_neg h3, if_pos ⟨rfl, hf⟩]
          rw [hE] at hD
          have hA : doAns x.w ⟨4, 1, m, c, tx⟩ = ⟨[], []⟩ := by unfold doAns; rw [hD, if_pos (by first | decide | assumption)]
          refine BoolCase.yes (by simp; omega) ?_
          conv => whnf
          repeat (first | (refine Conf.mk (by kernel_rfl) ?_; conv => whnf) | (refine SeqOk.go ?_; conv => whnf))
          exact Ret.to (by rw [hD, hA]; rfl)
        · skip
          have hE : doErr4 x ⟨4, 1, m, c, tx⟩ = 0 := by show (if (m : Int) < 0 ∨ (x.v.length : Int) ≤ (m : Int) then _ else (if (4 : Int) = 4 ∧ x.v.length = 30 then _ else _)) = _; rw [if_neg h3, if_neg fun k => hf k.2]
          have hA : doAns x.w ⟨4, 1, m, c, tx⟩ = W4.w ⟨x.a, x.b, x.u, (x.v ++ [x.v[m]])⟩ := by
            unfold doAns
            rw [hD, hE, if_neg (by decide), W4.of_w]
            rw [← nth0_lt hm]; rfl
          rw [hE] at hD
          refine BoolCase.no (by simp; omega) ?_
          conv => whnf
          repeat (first | (refine Conf.mk (by kernel_rfl) ?_; conv => whnf) | (refine SeqOk.go ?_; conv => whnf))
          refine ⟨enc5, by simp; omega, ?_⟩
          conv => whnf
          repeat (first | (refine Conf.mk (by kernel_rfl) ?_; conv => whnf) | (refine SeqOk.go ?_; conv => whnf))
          try simp only
          refine AtIdx.ofMap (l := x.v) hm rfl ?_
          conv => whnf
          repeat (first | (refine Conf.mk (by kernel_rfl) ?_; conv => whnf) | (refine SeqOk.go ?_; conv => whnf))
          try simp only
          refine ⟨by simp [Entry'.enc], by simp; omega, ?_⟩
          conv => whnf
          repeat (first | (refine Conf.mk (by kernel_rfl) ?_; conv => whnf) | (refine SeqOk.go ?_; conv => whnf))
          have hrow : (x.v ++ [x.v[m]]).map Entry'.enc = x.v.map Entry'.enc ++ [x.v[m].enc] := by rw [List.map_append]; rfl
          generalize x.v[m] = ge at hA hrow ⊢
          try simp only
          refine .mk 1 rfl (by show 1 < 2 / 1; decide) ?_
          conv => whnf
          repeat (first | (refine Conf.mk (by kernel_rfl) ?_; conv => whnf) | (refine SeqOk.go ?_; conv => whnf))
          refine ret_of _ _ ?_
          exact ⟨.tup [wArg x.a x.b (x.u.map Entry'.enc) (x.v.map Entry'.enc ++ [ge.enc]), dInt 0], by kernel_rfl, by rw [hD, hA]; show _ = AVal.tup [wArg x.a x.b (x.u.map Entry'.enc) ((x.v ++ [ge]).map Entry'.enc), dInt 0]; rw [hrow]⟩
    · refine BoolCase.yes (by simp; exact ht) ?_
      have hF : formOk ⟨4, 1, n, c, tx⟩ = false := by unfold formOk; simp [ht]
      have h3 : actErr ⟨4, 1, n, c, tx⟩ = 1 := by unfold actErr; rw [if_neg (by simp), if_pos hF]
      have hE : doErr x.w ⟨4, 1, n, c, tx⟩ = 1 := by rw [hD, h3, if_pos (by decide)]
      have hA : doAns x.w ⟨4, 1, n, c, tx⟩ = ⟨[], []⟩ := by unfold doAns; rw [if_pos (by rw [hE]; decide)]
      conv => whnf
      repeat (first | (refine Conf.mk (by kernel_rfl) ?_; conv => whnf) | (refine SeqOk.go ?_; conv => whnf))
      exact Ret.to (by rw [hE, hA]; rfl)
  · refine BoolCase.yes (by simp [hc]) ?_
    have hF : formOk ⟨4, 1, n, c, tx⟩ = false := by unfold formOk; simp [hc]
    have h3 : actErr ⟨4, 1, n, c, tx⟩ = 1 := by unfold actErr; rw [if_neg (by simp), if_pos hF]
    have hE : doErr x.w ⟨4, 1, n, c, tx⟩ = 1 := by rw [hD, h3, if_pos (by decide)]
    have hA : doAns x.w ⟨4, 1, n, c, tx⟩ = ⟨[], []⟩ := by unfold doAns; rw [if_pos (by rw [hE]; decide)]
    conv => whnf
    repeat (first | (refine Conf.mk (by kernel_rfl) ?_; conv => whnf) | (refine SeqOk.go ?_; conv => whnf))
    exact Ret.to (by rw [hE, hA]; rfl)
end Go.Proofs.YtlioojekjnigiafGreat.AM
/- Worlds: Do, as the document says. -/
namespace Go.Proofs.YtlioojekjnigiafGreat.AM
set_option linter.unusedVariables false
set_option linter.unusedSimpArgs false

set_option maxHeartbeats 0 in
theorem doOf_ok (x : W4) (hR : WorldR x) (t : Act') : PCall Tryz.prog 45 [x.w.arg, t.arg] (.tup [(doAns x.w t).arg, dInt (doErr x.w t)]) := by
  have h1 := worldR_err hR
  by_cases hgo : actErr t = 0
  · obtain ⟨hk, hi⟩ := act_facts hgo
    obtain ⟨k, i, n, c, tx⟩ := t
    simp only at hk hi
    rcases hi with rfl | rfl
    · rcases hk with rfl | rfl | rfl | rfl | rfl
      · exact doOf10_ok x hR n c tx
      · exact doOf20_ok x hR n c tx
      · exact doOf30_ok x hR n c tx
      · exact doOf40_ok x hR n c tx
      · exact doOf50_ok x hR n c tx
    · rcases hk with rfl | rfl | rfl | rfl | rfl
      · exact doOf11_ok x hR n c tx
      · exact doOf21_ok x hR n c tx
      · exact doOf31_ok x hR n c tx
      · exact doOf41_ok x hR n c tx
      · exact doOf51_ok x hR n c tx
  · have hD : doErr x.w t = actErr t := by unfold doErr; rw [if_neg (by simp [h1]), if_pos hgo]
    have hA : doAns x.w t = ⟨[], []⟩ := by unfold doAns; rw [if_pos (by rw [hD]; exact hgo)]
    rw [hD, hA]
    clear hD hA
    refine pcall_cut tab_all tab_mixed Tryz.func45 (by kernel_rfl) Tryz.ntmps45 rfl ?_
    conv => whnf
    conv => whnf
    repeat (first | (refine Conf.mk (by kernel_rfl) ?_; conv => whnf) | (refine SeqOk.go ?_; conv => whnf))
    refine .data _ _ (between_ok t.kind 1 5) rfl ?_
    conv => whnf
    repeat (first | (refine Conf.mk (by kernel_rfl) ?_; conv => whnf) | (refine SeqOk.go ?_; conv => whnf))
    by_cases hk : t.kind < 1 ∨ 5 < t.kind
    · have h3 : actErr t = 7 := by unfold actErr; rw [if_pos hk]
      refine BoolCase.yes (by simp; omega) ?_
      conv => whnf
      repeat (first | (refine Conf.mk (by kernel_rfl) ?_; conv => whnf) | (refine SeqOk.go ?_; conv => whnf))
      exact Ret.to (by rw [h3]; rfl)
    · refine BoolCase.no (by simp; omega) ?_
      conv => whnf
      repeat (first | (refine Conf.mk (by kernel_rfl) ?_; conv => whnf) | (refine SeqOk.go ?_; conv => whnf))
      by_cases k1 : t.kind = 1
      · refine BoolCase.no (by simp [k1]) ?_
        conv => whnf
        repeat (first | (refine Conf.mk (by kernel_rfl) ?_; conv => whnf) | (refine SeqOk.go ?_; conv => whnf))
        refine BoolCase.yes (by simp [k1]) ?_
        conv => whnf
        repeat (first | (refine Conf.mk (by kernel_rfl) ?_; conv => whnf) | (refine SeqOk.go ?_; conv => whnf))
        by_cases hn : t.n = 0
        · refine BoolCase.no (by simp [hn]) ?_
          have hF : formOk t = true := by unfold formOk; rw [if_pos k1]; simp [hn]
          have hi : t.at' ≠ 0 ∧ t.at' ≠ 1 := by
            refine Decidable.byContradiction fun hn' => hgo ?_
            unfold actErr
            rw [if_neg hk, if_neg (by simp [hF]), if_neg hn']
          have h3 : actErr t = 3 := by unfold actErr; rw [if_neg hk, if_neg (by simp [hF]), if_pos hi]
          conv => whnf
          repeat (first | (refine Conf.mk (by kernel_rfl) ?_; conv => whnf) | (refine SeqOk.go ?_; conv => whnf))
          refine .data _ _ (between_ok t.at' 0 1) rfl ?_
          conv => whnf
          repeat (first | (refine Conf.mk (by kernel_rfl) ?_; conv => whnf) | (refine SeqOk.go ?_; conv => whnf))
          refine BoolCase.yes (by simp; omega) ?_
          conv => whnf
          repeat (first | (refine Conf.mk (by kernel_rfl) ?_; conv => whnf) | (refine SeqOk.go ?_; conv => whnf))
          exact Ret.to (by rw [h3]; rfl)
        · refine BoolCase.yes (by simp [hn]) ?_
          have hF : formOk t = false := by unfold formOk; rw [if_pos k1]; simp [hn]
          have h3 : actErr t = 1 := by unfold actErr; rw [if_neg hk, if_pos hF]
          conv => whnf
          repeat (first | (refine Conf.mk (by kernel_rfl) ?_; conv => whnf) | (refine SeqOk.go ?_; conv => whnf))
          exact Ret.to (by rw [h3]; rfl)
      · refine BoolCase.yes (by simp [k1]) ?_
        conv => whnf
        repeat (first | (refine Conf.mk (by kernel_rfl) ?_; conv => whnf) | (refine SeqOk.go ?_; conv => whnf))
        by_cases hc : t.colors = 0
        · refine BoolCase.no (by simp [hc]) ?_
          conv => whnf
          repeat (first | (refine Conf.mk (by kernel_rfl) ?_; conv => whnf) | (refine SeqOk.go ?_; conv => whnf))
          by_cases ht : t.text = ByteArray.empty
          · refine BoolCase.no (by simp [ht]; rfl) ?_
            conv => whnf
            repeat (first | (refine Conf.mk (by kernel_rfl) ?_; conv => whnf) | (refine SeqOk.go ?_; conv => whnf))
            refine BoolCase.no (by simp [k1]) ?_
            conv => whnf
            repeat (first | (refine Conf.mk (by kernel_rfl) ?_; conv => whnf) | (refine SeqOk.go ?_; conv => whnf))
            by_cases k5 : t.kind = 5
            · refine BoolCase.yes (by simp [k5]) ?_
              conv => whnf
              repeat (first | (refine Conf.mk (by kernel_rfl) ?_; conv => whnf) | (refine SeqOk.go ?_; conv => whnf))
              by_cases hn : t.n = 0
              · refine BoolCase.no (by simp [hn]) ?_
                have hF : formOk t = true := by unfold formOk; rw [if_neg k1, if_pos k5]; simp [hn, hc, ht]
                have hi : t.at' ≠ 0 ∧ t.at' ≠ 1 := by
                  refine Decidable.byContradiction fun hn' => hgo ?_
                  unfold actErr
                  rw [if_neg hk, if_neg (by simp [hF]), if_neg hn']
                have h3 : actErr t = 3 := by unfold actErr; rw [if_neg hk, if_neg (by simp [hF]), if_pos hi]
                conv => whnf
                repeat (first | (refine Conf.mk (by kernel_rfl) ?_; conv => whnf) | (refine SeqOk.go ?_; conv => whnf))
                refine .data _ _ (between_ok t.at' 0 1) rfl ?_
                conv => whnf
                repeat (first | (refine Conf.mk (by kernel_rfl) ?_; conv => whnf) | (refine SeqOk.go ?_; conv => whnf))
                refine BoolCase.yes (by simp; omega) ?_
                conv => whnf
                repeat (first | (refine Conf.mk (by kernel_rfl) ?_; conv => whnf) | (refine SeqOk.go ?_; conv => whnf))
                exact Ret.to (by rw [h3]; rfl)
              · refine BoolCase.yes (by simp [hn]) ?_
                have hF : formOk t = false := by unfold formOk; rw [if_neg k1, if_pos k5]; simp [hn]
                have h3 : actErr t = 1 := by unfold actErr; rw [if_neg hk, if_pos hF]
                conv => whnf
                repeat (first | (refine Conf.mk (by kernel_rfl) ?_; conv => whnf) | (refine SeqOk.go ?_; conv => whnf))
                exact Ret.to (by rw [h3]; rfl)
            · refine BoolCase.no (by simp [k5]) ?_
              have hF : formOk t = true := by unfold formOk; rw [if_neg k1, if_neg k5]; simp [hc, ht]
              have hi : t.at' ≠ 0 ∧ t.at' ≠ 1 := by
                refine Decidable.byContradiction fun hn' => hgo ?_
                unfold actErr
                rw [if_neg hk, if_neg (by simp [hF]), if_neg hn']
              have h3 : actErr t = 3 := by unfold actErr; rw [if_neg hk, if_neg (by simp [hF]), if_pos hi]
              conv => whnf
              repeat (first | (refine Conf.mk (by kernel_rfl) ?_; conv => whnf) | (refine SeqOk.go ?_; conv => whnf))
              refine .data _ _ (between_ok t.at' 0 1) rfl ?_
              conv => whnf
              repeat (first | (refine Conf.mk (by kernel_rfl) ?_; conv => whnf) | (refine SeqOk.go ?_; conv => whnf))
              refine BoolCase.yes (by simp; omega) ?_
              conv => whnf
              repeat (first | (refine Conf.mk (by kernel_rfl) ?_; conv => whnf) | (refine SeqOk.go ?_; conv => whnf))
              exact Ret.to (by rw [h3]; rfl)
          · refine BoolCase.yes (by simp; exact ht) ?_
            have hF : formOk t = false := by unfold formOk; rw [if_neg k1]; split <;> simp [ht]
            have h3 : actErr t = 1 := by unfold actErr; rw [if_neg hk, if_pos hF]
            conv => whnf
            repeat (first | (refine Conf.mk (by kernel_rfl) ?_; conv => whnf) | (refine SeqOk.go ?_; conv => whnf))
            exact Ret.to (by rw [h3]; rfl)
        · refine BoolCase.yes (by simp [hc]) ?_
          have hF : formOk t = false := by unfold formOk; rw [if_neg k1]; split <;> simp [hc]
          have h3 : actErr t = 1 := by unfold actErr; rw [if_neg hk, if_pos hF]
          conv => whnf
          repeat (first | (refine Conf.mk (by kernel_rfl) ?_; conv => whnf) | (refine SeqOk.go ?_; conv => whnf))
          exact Ret.to (by rw [h3]; rfl)
end Go.Proofs.YtlioojekjnigiafGreat.AM
/- Worlds: what is wrong with one, as the document says. -/
namespace Go.Proofs.YtlioojekjnigiafGreat.AM
set_option linter.unusedVariables false
set_option linter.unusedSimpArgs false

theorem born_idx {l : List Entry'} (hr : Right l) {e : Entry'} {n : Nat} (hn : n < l.length) (h : idx l e.id = some n) : (l.any fun o => sameE o e) = sameE l[n] e := by
  obtain ⟨_, hne⟩ := idx_some h
  rw [Bool.eq_iff_iff, any_same, sameE_iff]
  exact ⟨fun he => hr.ent (List.getElem_mem hn) he hne, fun he => by rw [← he]; exact List.getElem_mem hn⟩
theorem born_none {l : List Entry'} {e : Entry'} (h : idx l e.id = none) : (l.any fun o => sameE o e) = false := by
  rw [Bool.eq_false_iff]
  intro k
  exact idx_none.1 h e (any_same.1 k) rfl
set_option maxHeartbeats 0 in
theorem isBorn_ok (w : World') (hs : w.sites.length = 2) (hR : ∀ s ∈ w.sites, SiteR s) (e : Entry') (hr : e.id.r = 0 ∨ e.id.r = 1) : PCall Tryz.prog 122 [w.arg, e.arg] (dBool (bornP w.sites e)) := by
  refine pcall_cut tab_all tab_mixed Tryz.func122 (by kernel_rfl) Tryz.ntmps122 rfl ?_
  conv => whnf
  conv => whnf
  repeat (first | (refine Conf.mk (by kernel_rfl) ?_; conv => whnf) | (refine SeqOk.go ?_; conv => whnf))
  rcases hr with hre | hre
  · obtain ⟨i, hi0⟩ : ∃ i : Nat, i = 0 := ⟨0, rfl⟩
    have hi : i < w.sites.length := by omega
    have hre : e.id.r = (i : Int) := by omega
    have hm := List.getElem_mem hi
    have hlr := (hR _ hm).log
    have hll := hlr.len
    have hlo : logOf w.sites e.id.r = w.sites[i].log := by unfold logOf; rw [hre, show ((i : Nat) : Int).toNat = i by omega, List.getElem?_eq_getElem hi]
    have hea := entryAt_ok e.id w.sites[i].log (by omega)
    rw [entryAt_eq] at hea
    refine AtIdx.ofMap' (enc := Site'.enc) i hre hi rfl ?_
    conv => whnf
    repeat (first | (refine Conf.mk (by kernel_rfl) ?_; conv => whnf) | (refine SeqOk.go ?_; conv => whnf))
    cases hx : idx w.sites[i].log e.id with
    | none =>
      rw [hx] at hea
      refine .data _ _ hea rfl ?_
      conv => whnf
      repeat (first | (refine Conf.mk (by kernel_rfl) ?_; conv => whnf) | (refine SeqOk.go ?_; conv => whnf))
      refine BoolCase.no rfl ?_
      conv => whnf
      repeat (first | (refine Conf.mk (by kernel_rfl) ?_; conv => whnf) | (refine SeqOk.go ?_; conv => whnf))
      exact Ret.bool (by unfold bornP; rw [hlo, born_none hx])
    | some n =>
      obtain ⟨hn, hne⟩ := idx_some hx
      rw [hx] at hea
      refine .data _ _ hea rfl ?_
      conv => whnf
      repeat (first | (refine Conf.mk (by kernel_rfl) ?_; conv => whnf) | (refine SeqOk.go ?_; conv => whnf))
      refine BoolCase.yes (decide_eq_true (by show (0 : Int) ≤ (n : Int); omega)) ?_
      conv => whnf
      repeat (first | (refine Conf.mk (by kernel_rfl) ?_; conv => whnf) | (refine SeqOk.go ?_; conv => whnf))
      refine AtIdx.ofMap hn rfl ?_
      conv => whnf
      repeat (first | (refine Conf.mk (by kernel_rfl) ?_; conv => whnf) | (refine SeqOk.go ?_; conv => whnf))
      refine .data _ _ (sameEntry_ok w.sites[i].log[n] e (by have := hlr.six (List.getElem_mem hn); omega)) rfl ?_
      conv => whnf
      repeat (first | (refine Conf.mk (by kernel_rfl) ?_; conv => whnf) | (refine SeqOk.go ?_; conv => whnf))
      exact Ret.bool (by unfold bornP; rw [hlo, born_idx hlr hn hx])
  · obtain ⟨i, hi0⟩ : ∃ i : Nat, i = 1 := ⟨1, rfl⟩
    have hi : i < w.sites.length := by omega
    have hre : e.id.r = (i : Int) := by omega
    have hm := List.getElem_mem hi
    have hlr := (hR _ hm).log
    have hll := hlr.len
    have hlo : logOf w.sites e.id.r = w.sites[i].log := by unfold logOf; rw [hre, show ((i : Nat) : Int).toNat = i by omega, List.getElem?_eq_getElem hi]
    have hea := entryAt_ok e.id w.sites[i].log (by omega)
    rw [entryAt_eq] at hea
    refine AtIdx.ofMap' (enc := Site'.enc) i hre hi rfl ?_
    conv => whnf
    repeat (first | (refine Conf.mk (by kernel_rfl) ?_; conv => whnf) | (refine SeqOk.go ?_; conv => whnf))
    cases hx : idx w.sites[i].log e.id with
    | none =>
      rw [hx] at hea
      refine .data _ _ hea rfl ?_
      conv => whnf
      repeat (first | (refine Conf.mk (by kernel_rfl) ?_; conv => whnf) | (refine SeqOk.go ?_; conv => whnf))
      refine BoolCase.no rfl ?_
      conv => whnf
      repeat (first | (refine Conf.mk (by kernel_rfl) ?_; conv => whnf) | (refine SeqOk.go ?_; conv => whnf))
      exact Ret.bool (by unfold bornP; rw [hlo, born_none hx])
    | some n =>
      obtain ⟨hn, hne⟩ := idx_some hx
      rw [hx] at hea
      refine .data _ _ hea rfl ?_
      conv => whnf
      repeat (first | (refine Conf.mk (by kernel_rfl) ?_; conv => whnf) | (refine SeqOk.go ?_; conv => whnf))
      refine BoolCase.yes (decide_eq_true (by show (0 : Int) ≤ (n : Int); omega)) ?_
      conv => whnf
      repeat (first | (refine Conf.mk (by kernel_rfl) ?_; conv => whnf) | (refine SeqOk.go ?_; conv => whnf))
      refine AtIdx.ofMap hn rfl ?_
      conv => whnf
      repeat (first | (refine Conf.mk (by kernel_rfl) ?_; conv => whnf) | (refine SeqOk.go ?_; conv => whnf))
      refine .data _ _ (sameEntry_ok w.sites[i].log[n] e (by have := hlr.six (List.getElem_mem hn); omega)) rfl ?_
      conv => whnf
      repeat (first | (refine Conf.mk (by kernel_rfl) ?_; conv => whnf) | (refine SeqOk.go ?_; conv => whnf))
      exact Ret.bool (by unfold bornP; rw [hlo, born_idx hlr hn hx])
set_option maxHeartbeats 0 in
theorem refCheckWorld_ok (w : World') (hw : WorldOk w) : PCall Tryz.prog 44 [w.arg] (dInt (worldErr w)) := by
  refine pcall_cut tab_all tab_mixed Tryz.func44 (by kernel_rfl) Tryz.ntmps44 rfl ?_
  conv => whnf
  conv => whnf
  repeat (first | (refine Conf.mk (by kernel_rfl) ?_; conv => whnf) | (refine SeqOk.go ?_; conv => whnf))
  by_cases h1 : w.sites.length = 2
  · refine BoolCase.no (by simp; omega) ?_
    conv => whnf
    repeat (first | (refine Conf.mk (by kernel_rfl) ?_; conv => whnf) | (refine SeqOk.go ?_; conv => whnf))
    by_cases h2 : w.ways.length = 2
    · refine BoolCase.no (by simp; omega) ?_
      conv => whnf
      repeat (first | (refine Conf.mk (by kernel_rfl) ?_; conv => whnf) | (refine SeqOk.go ?_; conv => whnf))
      refine LoopOk.hide fun Q1 hQ1 => ?_
      refine LoopOk.mk (fun m s => ∃ i, i + m = 2 ∧ sitesFrom 0 w.sites = sitesFrom i (w.sites.drop i) ∧ s = ⟨[(3, dInt i), (1, .ptr 0 0)], 1, [(0, boxW w)]⟩) 2 (Into.mono (Into.to [0] [(3, dInt (0 : Nat)), (1, .ptr 0 0)] [(0, boxW w)] (by repeat (first | exact trivial | refine ⟨.same (congrArg dInt (wrap_up (by omega))), ?_⟩ | refine ⟨.same rfl, ?_⟩ | refine ⟨.any _, ?_⟩)) ⟨⟨rfl, rfl, rfl, .same rfl, rfl, .same rfl, rfl, trivial⟩, trivial⟩ rfl rfl) fun s' h => ⟨0, by omega, rfl, h⟩) ?_
      rintro m s ⟨i, him, hp, rfl⟩
      conv => whnf
      repeat (first | (refine Conf.mk (by kernel_rfl) ?_; conv => whnf) | (refine SeqOk.go ?_; conv => whnf))
      refine ⟨fun h => ?_, fun h => ?_⟩
      · have hi2 : i < 2 := by have : (i : Int) < 2 := by simpa using h
                               omega
        have hi : i < w.sites.length := by omega
        have hso := hw.sites _ (List.getElem_mem hi)
        rw [List.drop_eq_getElem_cons hi, sitesFrom] at hp
        conv => whnf
        repeat (first | (refine Conf.mk (by kernel_rfl) ?_; conv => whnf) | (refine SeqOk.go ?_; conv => whnf))
        refine AtIdx.ofMap hi rfl ?_
        conv => whnf
        repeat (first | (refine Conf.mk (by kernel_rfl) ?_; conv => whnf) | (refine SeqOk.go ?_; conv => whnf))
        refine .data _ _ (checkSite_ok w.sites[i] hso) rfl ?_
        conv => whnf
        repeat (first | (refine Conf.mk (by kernel_rfl) ?_; conv => whnf) | (refine SeqOk.go ?_; conv => whnf))
        by_cases h3 : siteErr w.sites[i] = 0
        · rw [if_neg (by simp [h3])] at hp
          refine BoolCase.no (by simp [h3]) ?_
          conv => whnf
          repeat (first | (refine Conf.mk (by kernel_rfl) ?_; conv => whnf) | (refine SeqOk.go ?_; conv => whnf))
          refine AtIdx.ofMap hi rfl ?_
          conv => whnf
          repeat (first | (refine Conf.mk (by kernel_rfl) ?_; conv => whnf) | (refine SeqOk.go ?_; conv => whnf))
          by_cases h4 : w.sites[i].region = (i : Int)
          · rw [if_neg (by simp [h4])] at hp
            refine BoolCase.no (by simp [h4]) ?_
            conv => whnf
            repeat (first | (refine Conf.mk (by kernel_rfl) ?_; conv => whnf) | (refine SeqOk.go ?_; conv => whnf))
            exact Into.mono (Into.to [0] [(3, dInt (i + 1 : Nat)), (1, .ptr 0 0)] [(0, boxW w)] (by repeat (first | exact trivial | refine ⟨.same (congrArg dInt (wrap_up (by omega))), ?_⟩ | refine ⟨.same rfl, ?_⟩ | refine ⟨.any _, ?_⟩)) ⟨⟨rfl, rfl, rfl, .same rfl, rfl, .same rfl, rfl, trivial⟩, trivial⟩ rfl rfl) fun s' h => ⟨m - 1, by omega, i + 1, by omega, hp, h⟩
          · rw [if_pos h4] at hp
            refine BoolCase.yes (by simpa using h4) ?_
            conv => whnf
            repeat (first | (refine Conf.mk (by kernel_rfl) ?_; conv => whnf) | (refine SeqOk.go ?_; conv => whnf))
            subst hQ1
            conv => whnf
            exact Ret.int (by unfold worldErr; rw [if_neg (by omega), hp, if_pos (by decide)])
        · rw [if_pos h3] at hp
          refine BoolCase.yes (by simp [h3]) ?_
          conv => whnf
          repeat (first | (refine Conf.mk (by kernel_rfl) ?_; conv => whnf) | (refine SeqOk.go ?_; conv => whnf))
          subst hQ1
          conv => whnf
          exact Ret.int (by unfold worldErr; rw [if_neg (by omega), hp, if_pos h3])
      · have hi : i = 2 := by have : (2 : Int) ≤ i := by simpa using h
                              omega
        subst hi
        rw [List.drop_eq_nil_of_le (by omega)] at hp
        have hp : sitesFrom 0 w.sites = 0 := hp
        have hE : worldErr w = if waysErr (strange w) w.ways ≠ 0 then waysErr (strange w) w.ways else if w.sites.any (strangeS w) = true then 4 else 0 := by unfold worldErr; rw [if_neg (by omega), if_neg (by simp [hp])]
        obtain ⟨a, b, hab⟩ := list_two h1
        have hR : ∀ s ∈ w.sites, SiteR s := by
          rw [hab] at hp ⊢
          obtain ⟨⟨k1, _⟩, k2, _⟩ := sitesFrom_two.1 hp
          intro s hs
          rcases List.mem_cons.1 hs with rfl | hs
          · exact k1
          · have : s = b := by simpa using hs
            rw [this]; exact k2
        conv => whnf
        repeat (first | (refine Conf.mk (by kernel_rfl) ?_; conv => whnf) | (refine SeqOk.go ?_; conv => whnf))
        subst hQ1
        conv => whnf
        conv => whnf
        repeat (first | (refine Conf.mk (by kernel_rfl) ?_; conv => whnf) | (refine SeqOk.go ?_; conv => whnf))
        refine LoopOk.hide fun Q2 hQ2 => ?_
        refine LoopOk.mk (fun m s => ∃ i, i + m = 2 ∧ waysErr (strange w) w.ways = waysErr (strange w) (w.ways.drop i) ∧ s = ⟨[(5, dInt i), (1, .ptr 0 0)], 1, [(0, boxW w)]⟩) 2 (Into.mono (Into.to [0] [(5, dInt (0 : Nat)), (1, .ptr 0 0)] [(0, boxW w)] (by repeat (first | exact trivial | refine ⟨.same (congrArg dInt (wrap_up (by omega))), ?_⟩ | refine ⟨.same rfl, ?_⟩ | refine ⟨.any _, ?_⟩)) ⟨⟨rfl, rfl, rfl, .same rfl, rfl, .same rfl, rfl, trivial⟩, trivial⟩ rfl rfl) fun s' h => ⟨0, by omega, rfl, h⟩) ?_
        rintro m s ⟨i, him, hq, rfl⟩
        conv => whnf
        repeat (first | (refine Conf.mk (by kernel_rfl) ?_; conv => whnf) | (refine SeqOk.go ?_; conv => whnf))
        refine ⟨fun h => ?_, fun h => ?_⟩
        · have hi2 : i < 2 := by have : (i : Int) < 2 := by simpa using h
                                 omega
          have hi : i < w.ways.length := by omega
          have hwy := hw.ways _ (List.getElem_mem hi)
          have hwl := hwy.len
          rw [List.drop_eq_getElem_cons hi, waysErr] at hq
          conv => whnf
          repeat (first | (refine Conf.mk (by kernel_rfl) ?_; conv => whnf) | (refine SeqOk.go ?_; conv => whnf))
          refine AtIdx.ofMap hi rfl ?_
          conv => whnf
          repeat (first | (refine Conf.mk (by kernel_rfl) ?_; conv => whnf) | (refine SeqOk.go ?_; conv => whnf))
          by_cases h3 : 30 < w.ways[i].length
          · have he : wayErr (strange w) w.ways[i] = 2 := by unfold wayErr; rw [if_pos h3]
            refine BoolCase.yes (by simp; omega) ?_
            conv => whnf
            repeat (first | (refine Conf.mk (by kernel_rfl) ?_; conv => whnf) | (refine SeqOk.go ?_; conv => whnf))
            subst hQ2
            conv => whnf
            exact Ret.int (by rw [hE, hq, he]; rfl)
          · have he : wayErr (strange w) w.ways[i] = wayLoop (strange w) w.ways[i] := by unfold wayErr; rw [if_neg h3]
            refine BoolCase.no (by simp; omega) ?_
            conv => whnf
            repeat (first | (refine Conf.mk (by kernel_rfl) ?_; conv => whnf) | (refine SeqOk.go ?_; conv => whnf))
            refine LoopOk.hide fun Q3 hQ3 => ?_
            refine LoopOk.mk (fun m2 s => ∃ k, k + m2 = w.ways[i].length ∧ wayLoop (strange w) w.ways[i] = wayLoop (strange w) (w.ways[i].drop k) ∧ s = ⟨[(6, dInt k), (5, dInt i), (1, .ptr 0 0)], 1, [(0, boxW w)]⟩) w.ways[i].length (Into.mono (Into.to [0] [(6, dInt (0 : Nat)), (5, dInt i), (1, .ptr 0 0)] [(0, boxW w)] (by repeat (first | exact trivial | refine ⟨.same (congrArg dInt (wrap_up (by omega))), ?_⟩ | refine ⟨.same rfl, ?_⟩ | refine ⟨.any _, ?_⟩)) ⟨⟨rfl, rfl, rfl, .same rfl, rfl, .same rfl, rfl, trivial⟩, trivial⟩ rfl rfl) fun s' h => ⟨0, by omega, rfl, h⟩) ?_
            rintro m2 s ⟨k, hkm, hp2, rfl⟩
            conv => whnf
            repeat (first | (refine Conf.mk (by kernel_rfl) ?_; conv => whnf) | (refine SeqOk.go ?_; conv => whnf))
            refine AtIdx.ofMap hi rfl ?_
            conv => whnf
            repeat (first | (refine Conf.mk (by kernel_rfl) ?_; conv => whnf) | (refine SeqOk.go ?_; conv => whnf))
            refine ⟨fun h4 => ?_, fun h4 => ?_⟩
            · have hk : k < w.ways[i].length := lt_of_len (enc := Entry'.enc) h4
              have hm := List.getElem_mem hk
              rw [List.drop_eq_getElem_cons hk, wayLoop] at hp2
              conv => whnf
              repeat (first | (refine Conf.mk (by kernel_rfl) ?_; conv => whnf) | (refine SeqOk.go ?_; conv => whnf))
              refine AtIdx.ofMap hi rfl ?_
              conv => whnf
              repeat (first | (refine Conf.mk (by kernel_rfl) ?_; conv => whnf) | (refine SeqOk.go ?_; conv => whnf))
              refine AtIdx.ofMap hk rfl ?_
              conv => whnf
              repeat (first | (refine Conf.mk (by kernel_rfl) ?_; conv => whnf) | (refine SeqOk.go ?_; conv => whnf))
              refine .data _ _ (checkEntry_ok w.ways[i][k] (hwy.links _ hm)) rfl ?_
              conv => whnf
              repeat (first | (refine Conf.mk (by kernel_rfl) ?_; conv => whnf) | (refine SeqOk.go ?_; conv => whnf))
              by_cases h5 : w.ways[i][k].err = 0
              · rw [if_neg (by simp [h5])] at hp2
                refine BoolCase.no (by simp [h5]) ?_
                conv => whnf
                repeat (first | (refine Conf.mk (by kernel_rfl) ?_; conv => whnf) | (refine SeqOk.go ?_; conv => whnf))
                refine AtIdx.ofMap hi rfl ?_
                conv => whnf
                repeat (first | (refine Conf.mk (by kernel_rfl) ?_; conv => whnf) | (refine SeqOk.go ?_; conv => whnf))
                refine AtIdx.ofMap hk rfl ?_
                conv => whnf
                repeat (first | (refine Conf.mk (by kernel_rfl) ?_; conv => whnf) | (refine SeqOk.go ?_; conv => whnf))
                refine .data _ _ (isBorn_ok w h1 hR w.ways[i][k] (r_of_ok (ok_of_err h5))) rfl ?_
                conv => whnf
                repeat (first | (refine Conf.mk (by kernel_rfl) ?_; conv => whnf) | (refine SeqOk.go ?_; conv => whnf))
                cases h6 : bornP w.sites w.ways[i][k] with
                | true =>
                  rw [if_neg (by unfold strange; simp [h6])] at hp2
                  refine BoolCase.no rfl ?_
                  conv => whnf
                  repeat (first | (refine Conf.mk (by kernel_rfl) ?_; conv => whnf) | (refine SeqOk.go ?_; conv => whnf))
                  exact Into.mono (Into.to [0] [(6, dInt (k + 1 : Nat)), (5, dInt i), (1, .ptr 0 0)] [(0, boxW w)] (by repeat (first | exact trivial | refine ⟨.same (congrArg dInt (wrap_up (by omega))), ?_⟩ | refine ⟨.same rfl, ?_⟩ | refine ⟨.any _, ?_⟩)) ⟨⟨rfl, rfl, rfl, .same rfl, rfl, .same rfl, rfl, trivial⟩, trivial⟩ rfl rfl) fun s' h => ⟨m2 - 1, by omega, k + 1, by omega, hp2, h⟩
                | false =>
                  rw [if_pos (by unfold strange; simp [h6])] at hp2
                  refine BoolCase.yes rfl ?_
                  conv => whnf
                  repeat (first | (refine Conf.mk (by kernel_rfl) ?_; conv => whnf) | (refine SeqOk.go ?_; conv => whnf))
                  subst hQ3
                  conv => whnf
                  subst hQ2
                  conv => whnf
                  exact Ret.int (by rw [hE, hq, he, hp2]; rfl)
              · rw [if_pos h5] at hp2
                refine BoolCase.yes (by simp [h5]) ?_
                conv => whnf
                repeat (first | (refine Conf.mk (by kernel_rfl) ?_; conv => whnf) | (refine SeqOk.go ?_; conv => whnf))
                subst hQ3
                conv => whnf
                subst hQ2
                conv => whnf
                exact Ret.int (by rw [hE, hq, he, hp2, if_pos h5, if_pos h5])
            · have hk := ge_of_len (enc := Entry'.enc) h4
              rw [List.drop_eq_nil_of_le hk] at hp2
              have hp2 : wayLoop (strange w) w.ways[i] = 0 := hp2
              rw [he, hp2, if_neg (by decide)] at hq
              conv => whnf
              repeat (first | (refine Conf.mk (by kernel_rfl) ?_; conv => whnf) | (refine SeqOk.go ?_; conv => whnf))
              subst hQ3
              conv => whnf
              exact Into.mono (Into.to [0] [(5, dInt (i + 1 : Nat)), (1, .ptr 0 0)] [(0, boxW w)] (by repeat (first | exact trivial | refine ⟨.same (congrArg dInt (wrap_up (by omega))), ?_⟩ | refine ⟨.same rfl, ?_⟩ | refine ⟨.any _, ?_⟩)) ⟨⟨rfl, rfl, rfl, .same rfl, rfl, .same rfl, rfl, trivial⟩, trivial⟩ rfl rfl) fun s' h => ⟨m - 1, by omega, i + 1, by omega, hq, h⟩
        · have hi : i = 2 := by have : (2 : Int) ≤ i := by simpa using h
                                omega
          subst hi
          rw [List.drop_eq_nil_of_le (by omega)] at hq
          have hq : waysErr (strange w) w.ways = 0 := hq
          rw [if_neg (by simp [hq])] at hE
          conv => whnf
          repeat (first | (refine Conf.mk (by kernel_rfl) ?_; conv => whnf) | (refine SeqOk.go ?_; conv => whnf))
          subst hQ2
          conv => whnf
          conv => whnf
          repeat (first | (refine Conf.mk (by kernel_rfl) ?_; conv => whnf) | (refine SeqOk.go ?_; conv => whnf))
          refine LoopOk.hide fun Q4 hQ4 => ?_
          refine LoopOk.mk (fun m s => ∃ i, i + m = 2 ∧ w.sites.any (strangeS w) = (w.sites.drop i).any (strangeS w) ∧ s = ⟨[(8, dInt i), (1, .ptr 0 0)], 1, [(0, boxW w)]⟩) 2 (Into.mono (Into.to [0] [(8, dInt (0 : Nat)), (1, .ptr 0 0)] [(0, boxW w)] (by repeat (first | exact trivial | refine ⟨.same (congrArg dInt (wrap_up (by omega))), ?_⟩ | refine ⟨.same rfl, ?_⟩ | refine ⟨.any _, ?_⟩)) ⟨⟨rfl, rfl, rfl, .same rfl, rfl, .same rfl, rfl, trivial⟩, trivial⟩ rfl rfl) fun s' h => ⟨0, by omega, rfl, h⟩) ?_
          rintro m s ⟨i, him, hr, rfl⟩
          conv => whnf
          repeat (first | (refine Conf.mk (by kernel_rfl) ?_; conv => whnf) | (refine SeqOk.go ?_; conv => whnf))
          refine ⟨fun h => ?_, fun h => ?_⟩
          · have hi2 : i < 2 := by have : (i : Int) < 2 := by simpa using h
                                   omega
            have hi : i < w.sites.length := by omega
            have hRs := hR _ (List.getElem_mem hi)
            have hll := hRs.log.len
            have hwl := hRs.len
            have hss : strangeS w w.sites[i] = (w.sites[i].log ++ w.sites[i].waits).any (strange w) := by unfold strangeS; rw [List.any_append]
            rw [List.drop_eq_getElem_cons hi, List.any_cons, hss] at hr
            have hreg : ∀ e ∈ (w.sites[i].log ++ w.sites[i].waits), e.id.r = 0 ∨ e.id.r = 1 := fun e he => (List.mem_append.1 he).elim (fun he => hRs.log.regs e he) fun he => r_of_ok (ok_of_err (hRs.err e he))
            have hal : (w.sites[i].log ++ w.sites[i].waits).length = w.sites[i].log.length + w.sites[i].waits.length := List.length_append
            have hrows : w.sites[i].log.map Entry'.enc ++ w.sites[i].waits.map Entry'.enc = (w.sites[i].log ++ w.sites[i].waits).map Entry'.enc := by rw [List.map_append]
            conv => whnf
            repeat (first | (refine Conf.mk (by kernel_rfl) ?_; conv => whnf) | (refine SeqOk.go ?_; conv => whnf))
            refine AtIdx.ofMap hi rfl ?_
            conv => whnf
            repeat (first | (refine Conf.mk (by kernel_rfl) ?_; conv => whnf) | (refine SeqOk.go ?_; conv => whnf))
            refine ⟨by simp [Entry'.enc], by simp; omega, ?_⟩
            conv => whnf
            repeat (first | (refine Conf.mk (by kernel_rfl) ?_; conv => whnf) | (refine SeqOk.go ?_; conv => whnf))
            refine AtIdx.ofMap hi rfl ?_
            conv => whnf
            repeat (first | (refine Conf.mk (by kernel_rfl) ?_; conv => whnf) | (refine SeqOk.go ?_; conv => whnf))
            refine ⟨by simp [Entry'.enc], by simp; omega, ?_⟩
            conv => whnf
            repeat (first | (refine Conf.mk (by kernel_rfl) ?_; conv => whnf) | (refine SeqOk.go ?_; conv => whnf))
            refine LoopOk.hide fun Q5 hQ5 => ?_
            refine LoopOk.mk (fun m2 s => ∃ k, k + m2 = (w.sites[i].log ++ w.sites[i].waits).length ∧ ((w.sites[i].log ++ w.sites[i].waits).any (strange w) = ((w.sites[i].log ++ w.sites[i].waits).drop k).any (strange w)) ∧ s = ⟨[(10, dInt k), (9, .row 1), (8, dInt i), (1, .ptr 0 0)], 2, [(0, boxW w), (1, .rows 28 5 ((w.sites[i].log ++ w.sites[i].waits).map Entry'.enc) true)]⟩) (w.sites[i].log ++ w.sites[i].waits).length (Into.mono (Into.to [0, 2] [(10, dInt (0 : Nat)), (9, .row 1), (8, dInt i), (1, .ptr 0 0)] [(0, boxW w), (1, .rows 28 5 ((w.sites[i].log ++ w.sites[i].waits).map Entry'.enc) true)] (by repeat (first | exact trivial | refine ⟨.same (congrArg dInt (wrap_up (by omega))), ?_⟩ | refine ⟨.same rfl, ?_⟩ | refine ⟨.any _, ?_⟩)) ⟨⟨rfl, rfl, rfl, .same rfl, rfl, .same rfl, rfl, trivial⟩, ⟨rfl, rfl, rfl, hrows.symm⟩, trivial⟩ rfl rfl) fun s' h => ⟨0, by omega, rfl, h⟩) ?_
            rintro m2 s ⟨k, hkm, hs2, rfl⟩
            conv => whnf
            repeat (first | (refine Conf.mk (by kernel_rfl) ?_; conv => whnf) | (refine SeqOk.go ?_; conv => whnf))
            refine ⟨fun h4 => ?_, fun h4 => ?_⟩
            · have hk := lt_of_len (enc := Entry'.enc) h4
              have hbo := isBorn_ok w h1 hR (w.sites[i].log ++ w.sites[i].waits)[k] (hreg _ (List.getElem_mem hk))
              rw [List.drop_eq_getElem_cons hk, List.any_cons] at hs2
              conv => whnf
              repeat (first | (refine Conf.mk (by kernel_rfl) ?_; conv => whnf) | (refine SeqOk.go ?_; conv => whnf))
              refine AtIdx.ofMap hk rfl ?_
              conv => whnf
              repeat (first | (refine Conf.mk (by kernel_rfl) ?_; conv => whnf) | (refine SeqOk.go ?_; conv => whnf))
              refine .mk (w.sites[i].log ++ w.sites[i].waits)[k].enc (by rw [List.getElem?_map, List.getElem?_eq_getElem hk]; rfl) ?_
              conv => whnf
              repeat (first | (refine Conf.mk (by kernel_rfl) ?_; conv => whnf) | (refine SeqOk.go ?_; conv => whnf))
              refine .data _ _ hbo rfl ?_
              conv => whnf
              repeat (first | (refine Conf.mk (by kernel_rfl) ?_; conv => whnf) | (refine SeqOk.go ?_; conv => whnf))
              cases h6 : bornP w.sites (w.sites[i].log ++ w.sites[i].waits)[k] with
              | true =>
                rw [show strange w (w.sites[i].log ++ w.sites[i].waits)[k] = false by unfold strange; simp [h6], Bool.false_or] at hs2
                refine BoolCase.no rfl ?_
                conv => whnf
                repeat (first | (refine Conf.mk (by kernel_rfl) ?_; conv => whnf) | (refine SeqOk.go ?_; conv => whnf))
                exact Into.mono (Into.to [0, 1] [(10, dInt (k + 1 : Nat)), (9, .row 1), (8, dInt i), (1, .ptr 0 0)] [(0, boxW w), (1, .rows 28 5 ((w.sites[i].log ++ w.sites[i].waits).map Entry'.enc) true)] (by repeat (first | exact trivial | refine ⟨.same (congrArg dInt (wrap_up (by omega))), ?_⟩ | refine ⟨.same rfl, ?_⟩ | refine ⟨.any _, ?_⟩)) ⟨⟨rfl, rfl, rfl, .same rfl, rfl, .same rfl, rfl, trivial⟩, ⟨rfl, rfl, rfl, rfl⟩, trivial⟩ rfl rfl) fun s' h => ⟨m2 - 1, by omega, k + 1, by omega, hs2, h⟩
              | false =>
                rw [show strange w (w.sites[i].log ++ w.sites[i].waits)[k] = true by unfold strange; simp [h6], Bool.true_or] at hs2
                rw [hs2, Bool.true_or] at hr
                refine BoolCase.yes rfl ?_
                conv => whnf
                repeat (first | (refine Conf.mk (by kernel_rfl) ?_; conv => whnf) | (refine SeqOk.go ?_; conv => whnf))
                subst hQ5
                conv => whnf
                subst hQ4
                conv => whnf
                exact Ret.int (by rw [hE, hr]; rfl)
            · have hk := ge_of_len (enc := Entry'.enc) h4
              rw [List.drop_eq_nil_of_le hk] at hs2
              rw [hs2] at hr
              have hr : w.sites.any (strangeS w) = (w.sites.drop (i + 1)).any (strangeS w) := by simpa using hr
              conv => whnf
              repeat (first | (refine Conf.mk (by kernel_rfl) ?_; conv => whnf) | (refine SeqOk.go ?_; conv => whnf))
              subst hQ5
              conv => whnf
              exact Into.mono (Into.to [0] [(8, dInt (i + 1 : Nat)), (1, .ptr 0 0)] [(0, boxW w)] (by repeat (first | exact trivial | refine ⟨.same (congrArg dInt (wrap_up (by omega))), ?_⟩ | refine ⟨.same rfl, ?_⟩ | refine ⟨.any _, ?_⟩)) ⟨⟨rfl, rfl, rfl, .same rfl, rfl, .same rfl, rfl, trivial⟩, trivial⟩ rfl rfl) fun s' h => ⟨m - 1, by omega, i + 1, by omega, hr, h⟩
          · have hi : i = 2 := by have : (2 : Int) ≤ i := by simpa using h
                                  omega
            subst hi
            rw [List.drop_eq_nil_of_le (by omega)] at hr
            conv => whnf
            repeat (first | (refine Conf.mk (by kernel_rfl) ?_; conv => whnf) | (refine SeqOk.go ?_; conv => whnf))
            subst hQ4
            conv => whnf
            exact Ret.int (by rw [hE, hr]; rfl)
    · refine BoolCase.yes (by simp; omega) ?_
      conv => whnf
      repeat (first | (refine Conf.mk (by kernel_rfl) ?_; conv => whnf) | (refine SeqOk.go ?_; conv => whnf))
      exact Ret.int (by unfold worldErr; rw [if_pos (.inr h2)])
  · refine BoolCase.yes (by simp; omega) ?_
    conv => whnf
    repeat (first | (refine Conf.mk (by kernel_rfl) ?_; conv => whnf) | (refine SeqOk.go ?_; conv => whnf))
    exact Ret.int (by unfold worldErr; rw [if_pos (.inl h1)])
end Go.Proofs.YtlioojekjnigiafGreat.AM
/- Worlds: behind Settle both have the same entries. -/
namespace Go.Proofs.YtlioojekjnigiafGreat.AM
set_option linter.unusedVariables false
set_option linter.unusedSimpArgs false
set_option maxHeartbeats 0 in
theorem sameWorld_kb (w : World') (hw : WorldOk w) : PCall Tryz.prog 48 [w.arg, w.arg] (.kb true) := by
  refine PCall.kb ?_
  have h1 := hw.slen
  have h2 := hw.wlen
  refine pcall_cut tab_all tab_mixed Tryz.func48 (by kernel_rfl) Tryz.ntmps48 rfl ?_
  conv => whnf
  conv => whnf
  repeat (first | (refine Conf.mk (by kernel_rfl) ?_; conv => whnf) | (refine SeqOk.go ?_; conv => whnf))
  refine BoolCase.no (by simp) ?_
  conv => whnf
  repeat (first | (refine Conf.mk (by kernel_rfl) ?_; conv => whnf) | (refine SeqOk.go ?_; conv => whnf))
  refine BoolCase.no (by simp) ?_
  conv => whnf
  repeat (first | (refine Conf.mk (by kernel_rfl) ?_; conv => whnf) | (refine SeqOk.go ?_; conv => whnf))
  refine LoopOk.hide fun Q1 hQ1 => ?_
  refine LoopOk.mk (fun m s => ∃ i, i + m = w.sites.length ∧ s = ⟨[(5, dInt i), (2, .ptr 0 0), (3, .ptr 1 0)], 2, [(0, boxW w), (1, boxW w)]⟩) w.sites.length (Into.mono (Into.to [0, 1] [(5, dInt (0 : Nat)), (2, .ptr 0 0), (3, .ptr 1 0)] [(0, boxW w), (1, boxW w)] (by repeat (first | exact trivial | refine ⟨.same (congrArg dInt (wrap_up (by omega))), ?_⟩ | refine ⟨.same rfl, ?_⟩ | refine ⟨.any _, ?_⟩)) ⟨⟨rfl, rfl, rfl, .same rfl, rfl, .same rfl, rfl, trivial⟩, ⟨rfl, rfl, rfl, .same rfl, rfl, .same rfl, rfl, trivial⟩, trivial⟩ rfl rfl) fun s' h => ⟨0, by omega, h⟩) ?_
  rintro m s ⟨i, him, rfl⟩
  conv => whnf
  repeat (first | (refine Conf.mk (by kernel_rfl) ?_; conv => whnf) | (refine SeqOk.go ?_; conv => whnf))
  refine ⟨fun h => ?_, fun h => ?_⟩
  · have hi := lt_of_len h
    have hss := sameSite_ok w.sites[i] w.sites[i] (hw.sites _ (List.getElem_mem hi))
    rw [sameS_iff.2 rfl] at hss
    conv => whnf
    repeat (first | (refine Conf.mk (by kernel_rfl) ?_; conv => whnf) | (refine SeqOk.go ?_; conv => whnf))
    refine AtIdx.ofMap hi rfl ?_
    conv => whnf
    repeat (first | (refine Conf.mk (by kernel_rfl) ?_; conv => whnf) | (refine SeqOk.go ?_; conv => whnf))
    refine AtIdx.ofMap hi rfl ?_
    conv => whnf
    repeat (first | (refine Conf.mk (by kernel_rfl) ?_; conv => whnf) | (refine SeqOk.go ?_; conv => whnf))
    refine .data _ _ hss rfl ?_
    conv => whnf
    repeat (first | (refine Conf.mk (by kernel_rfl) ?_; conv => whnf) | (refine SeqOk.go ?_; conv => whnf))
    refine BoolCase.no rfl ?_
    conv => whnf
    repeat (first | (refine Conf.mk (by kernel_rfl) ?_; conv => whnf) | (refine SeqOk.go ?_; conv => whnf))
    exact Into.mono (Into.to [0, 1] [(5, dInt (i + 1 : Nat)), (2, .ptr 0 0), (3, .ptr 1 0)] [(0, boxW w), (1, boxW w)] (by repeat (first | exact trivial | refine ⟨.same (congrArg dInt (wrap_up (by omega))), ?_⟩ | refine ⟨.same rfl, ?_⟩ | refine ⟨.any _, ?_⟩)) ⟨⟨rfl, rfl, rfl, .same rfl, rfl, .same rfl, rfl, trivial⟩, ⟨rfl, rfl, rfl, .same rfl, rfl, .same rfl, rfl, trivial⟩, trivial⟩ rfl rfl) fun s' h => ⟨m - 1, by omega, i + 1, by omega, h⟩
  · conv => whnf
    repeat (first | (refine Conf.mk (by kernel_rfl) ?_; conv => whnf) | (refine SeqOk.go ?_; conv => whnf))
    subst hQ1
    conv => whnf
    conv => whnf
    repeat (first | (refine Conf.mk (by kernel_rfl) ?_; conv => whnf) | (refine SeqOk.go ?_; conv => whnf))
    refine LoopOk.hide fun Q2 hQ2 => ?_
    refine LoopOk.mk (fun m s => ∃ i, i + m = w.ways.length ∧ s = ⟨[(6, dInt i), (2, .ptr 0 0), (3, .ptr 1 0)], 2, [(0, boxW w), (1, boxW w)]⟩) w.ways.length (Into.mono (Into.to [0, 1] [(6, dInt (0 : Nat)), (2, .ptr 0 0), (3, .ptr 1 0)] [(0, boxW w), (1, boxW w)] (by repeat (first | exact trivial | refine ⟨.same (congrArg dInt (wrap_up (by omega))), ?_⟩ | refine ⟨.same rfl, ?_⟩ | refine ⟨.any _, ?_⟩)) ⟨⟨rfl, rfl, rfl, .same rfl, rfl, .same rfl, rfl, trivial⟩, ⟨rfl, rfl, rfl, .same rfl, rfl, .same rfl, rfl, trivial⟩, trivial⟩ rfl rfl) fun s' h => ⟨0, by omega, h⟩) ?_
    rintro m s ⟨i, him, rfl⟩
    conv => whnf
    repeat (first | (refine Conf.mk (by kernel_rfl) ?_; conv => whnf) | (refine SeqOk.go ?_; conv => whnf))
    refine ⟨fun h => ?_, fun h => ?_⟩
    · have hi := lt_of_len h
      have hsl := sameLog_ok w.ways[i] w.ways[i] (hw.ways _ (List.getElem_mem hi))
      rw [sameL_iff.2 rfl] at hsl
      conv => whnf
      repeat (first | (refine Conf.mk (by kernel_rfl) ?_; conv => whnf) | (refine SeqOk.go ?_; conv => whnf))
      refine AtIdx.ofMap hi rfl ?_
      conv => whnf
      repeat (first | (refine Conf.mk (by kernel_rfl) ?_; conv => whnf) | (refine SeqOk.go ?_; conv => whnf))
      refine AtIdx.ofMap hi rfl ?_
      conv => whnf
      repeat (first | (refine Conf.mk (by kernel_rfl) ?_; conv => whnf) | (refine SeqOk.go ?_; conv => whnf))
      refine .data _ _ hsl rfl ?_
      conv => whnf
      repeat (first | (refine Conf.mk (by kernel_rfl) ?_; conv => whnf) | (refine SeqOk.go ?_; conv => whnf))
      refine BoolCase.no rfl ?_
      conv => whnf
      repeat (first | (refine Conf.mk (by kernel_rfl) ?_; conv => whnf) | (refine SeqOk.go ?_; conv => whnf))
      exact Into.mono (Into.to [0, 1] [(6, dInt (i + 1 : Nat)), (2, .ptr 0 0), (3, .ptr 1 0)] [(0, boxW w), (1, boxW w)] (by repeat (first | exact trivial | refine ⟨.same (congrArg dInt (wrap_up (by omega))), ?_⟩ | refine ⟨.same rfl, ?_⟩ | refine ⟨.any _, ?_⟩)) ⟨⟨rfl, rfl, rfl, .same rfl, rfl, .same rfl, rfl, trivial⟩, ⟨rfl, rfl, rfl, .same rfl, rfl, .same rfl, rfl, trivial⟩, trivial⟩ rfl rfl) fun s' h => ⟨m - 1, by omega, i + 1, by omega, h⟩
    · conv => whnf
      repeat (first | (refine Conf.mk (by kernel_rfl) ?_; conv => whnf) | (refine SeqOk.go ?_; conv => whnf))
      subst hQ2
      conv => whnf
      exact Ret.bool rfl
theorem find_there {l : List Entry'} (hr : Right l) {e : Entry'} (he : e ∈ l) : ∃ n, ∃ hn : n < l.length, idx l e.id = some n ∧ l[n]? = some e := by
  cases hx : idx l e.id with
  | none => exact absurd rfl (idx_none.1 hx e he)
  | some n =>
    obtain ⟨hn, hne⟩ := idx_some hx
    exact ⟨n, hn, rfl, by rw [List.getElem?_eq_getElem hn, hr.ent (List.getElem_mem hn) he hne]⟩
end Go.Proofs.YtlioojekjnigiafGreat.AM
/- Worlds: all calls of them answer as the document says. -/
namespace Go.Proofs.YtlioojekjnigiafGreat.AM
set_option linter.unusedVariables false
set_option linter.unusedSimpArgs false

set_option maxHeartbeats 0 in
theorem refNewWorld_ok : PCall Tryz.prog 50 [] newW.arg := by
  refine pcall_cut tab_all tab_mixed Tryz.func50 (by kernel_rfl) Tryz.ntmps50 rfl ?_
  conv => whnf
  conv => whnf
  repeat (first | (refine Conf.mk (by kernel_rfl) ?_; conv => whnf) | (refine SeqOk.go ?_; conv => whnf))
  exact Ret.to rfl
set_option maxHeartbeats 0 in
theorem worldIs_kb (x want : World') (e u : Int) (hx : WorldOk x) (h1 : e = u) (h2 : x = if u = 0 then want else ⟨[], []⟩) : PCall Tryz.prog 52 [x.arg, dInt e, dInt u, want.arg] (.kb true) := by
  refine PCall.kb ?_
  subst h1
  have hs := sameWorld_kb x hx
  refine pcall_intro tab_all tab_mixed Tryz.func52 (by kernel_rfl) Tryz.ntmps52 rfl ?_
  conv => whnf
  refine ⟨fun h1 => ?_, fun h1 => ?_⟩
  · have h1 : e ≠ 0 := by simpa using h1
    rw [if_neg h1] at h2
    subst h2
    conv => whnf
    repeat (first | (refine Conf.mk (by kernel_rfl) ?_; conv => whnf) | (refine SeqOk.go ?_; conv => whnf))
    refine BoolCase.yes (by simp) ?_
    conv => whnf
    repeat (first | (refine Conf.mk (by kernel_rfl) ?_; conv => whnf) | (refine SeqOk.go ?_; conv => whnf))
    refine .data _ _ hs rfl ?_
    conv => whnf
    repeat (first | (refine Conf.mk (by kernel_rfl) ?_; conv => whnf) | (refine SeqOk.go ?_; conv => whnf))
    exact Ret.bool rfl
  · have h1 : e = 0 := by simpa using h1
    rw [if_pos h1] at h2
    subst h2
    conv => whnf
    repeat (first | (refine Conf.mk (by kernel_rfl) ?_; conv => whnf) | (refine SeqOk.go ?_; conv => whnf))
    refine BoolCase.yes (by simp) ?_
    conv => whnf
    repeat (first | (refine Conf.mk (by kernel_rfl) ?_; conv => whnf) | (refine SeqOk.go ?_; conv => whnf))
    refine .data _ _ hs rfl ?_
    conv => whnf
    repeat (first | (refine Conf.mk (by kernel_rfl) ?_; conv => whnf) | (refine SeqOk.go ?_; conv => whnf))
    exact Ret.bool rfl
theorem newW_ok : WorldOk newW := wAt_ok 0
set_option maxHeartbeats 0 in
theorem worldTells_of (hDo : ∀ (x : W4) (hR : WorldR x) (t : Act'), PCall Tryz.prog 45 [x.w.arg, t.arg] (.tup [(doAns x.w t).arg, dInt (doErr x.w t)])) (w : World') (hw : WorldOk w) (t : Act') : PCall Tryz.prog 5 [w.arg, t.arg] (dBool true) := by
  have hdo := Do_ok w hw t
  have hst := Settle_ok w hw
  have hcr := refCheckWorld_ok w hw
  have hch := worldCheck_ok w hw
  have hsn := sameWorld_kb newW newW_ok
  by_cases h1 : worldErr w = 0
  · obtain ⟨x, rfl, hR⟩ := worldErr_iff.1 h1
    obtain ⟨ks, kR, kS⟩ := setAns_of hR
    have kd := hDo x hR t
    have ka0 := allAt0_ok x.a x.b x.u x.v hR.ra hR.ia hR.rb.log
    have ka1 := allAt1_ok (doAns4 x (actAll 0)).a (doAns4 x (actAll 0)).b (doAns4 x (actAll 0)).u (doAns4 x (actAll 0)).v kR.rb kR.ib kR.ra.log
    have kI1 := worldIs_kb (doAns x.w t) (doAns x.w t) (doErr x.w t) (doErr x.w t) (doAns_ok _ _) rfl (by
      by_cases h : doErr x.w t = 0
      · rw [if_pos h]
      · rw [if_neg h]; unfold doAns; rw [if_pos h])
    have kI2 := worldIs_kb (setAns x.w) (setAns x.w) (worldErr x.w) 0 (setAns_ok _) h1 (by rw [if_pos rfl])
    replace ka0 : PCall Tryz.prog 46 [x.w.arg, dInt 0] (.tup [(doAns4 x (actAll 0)).w.arg, dInt 0]) := ka0
    replace ka1 : PCall Tryz.prog 46 [(doAns4 x (actAll 0)).w.arg, dInt 1] (.tup [(settled x).w.arg, dInt 0]) := ka1
    rw [← ks] at ka1
    rw [h1] at hst hcr hch kI2
    generalize doAns x.w t = dd at *
    generalize doErr x.w t = de at *
    generalize setAns x.w = ss at *
    generalize (doAns4 x (actAll 0)).w = yy at *
    generalize x.w = ww at *
    refine pcall_cut tab_all tab_mixed Tryz.func5 (by kernel_rfl) Tryz.ntmps5 rfl ?_
    conv => whnf
    conv => whnf
    repeat (first | (refine Conf.mk (by kernel_rfl) ?_; conv => whnf) | (refine SeqOk.go ?_; conv => whnf))
    refine .data _ _ hdo rfl ?_
    conv => whnf
    repeat (first | (refine Conf.mk (by kernel_rfl) ?_; conv => whnf) | (refine SeqOk.go ?_; conv => whnf))
    refine .data _ _ hst rfl ?_
    conv => whnf
    repeat (first | (refine Conf.mk (by kernel_rfl) ?_; conv => whnf) | (refine SeqOk.go ?_; conv => whnf))
    refine .data _ _ hcr rfl ?_
    conv => whnf
    repeat (first | (refine Conf.mk (by kernel_rfl) ?_; conv => whnf) | (refine SeqOk.go ?_; conv => whnf))
    refine BoolCase.yes rfl ?_
    conv => whnf
    repeat (first | (refine Conf.mk (by kernel_rfl) ?_; conv => whnf) | (refine SeqOk.go ?_; conv => whnf))
    refine .data _ _ kd rfl ?_
    conv => whnf
    repeat (first | (refine Conf.mk (by kernel_rfl) ?_; conv => whnf) | (refine SeqOk.go ?_; conv => whnf))
    refine .data _ _ ka0 rfl ?_
    conv => whnf
    repeat (first | (refine Conf.mk (by kernel_rfl) ?_; conv => whnf) | (refine SeqOk.go ?_; conv => whnf))
    refine BoolCase.yes rfl ?_
    conv => whnf
    repeat (first | (refine Conf.mk (by kernel_rfl) ?_; conv => whnf) | (refine SeqOk.go ?_; conv => whnf))
    refine .data _ _ ka1 rfl ?_
    conv => whnf
    repeat (first | (refine Conf.mk (by kernel_rfl) ?_; conv => whnf) | (refine SeqOk.go ?_; conv => whnf))
    refine .data _ _ worldBegun_ok.kb rfl ?_
    conv => whnf
    repeat (first | (refine Conf.mk (by kernel_rfl) ?_; conv => whnf) | (refine SeqOk.go ?_; conv => whnf))
    refine .data _ _ New_ok rfl ?_
    conv => whnf
    repeat (first | (refine Conf.mk (by kernel_rfl) ?_; conv => whnf) | (refine SeqOk.go ?_; conv => whnf))
    refine .data _ _ refNewWorld_ok rfl ?_
    conv => whnf
    repeat (first | (refine Conf.mk (by kernel_rfl) ?_; conv => whnf) | (refine SeqOk.go ?_; conv => whnf))
    refine .data _ _ hsn rfl ?_
    conv => whnf
    repeat (first | (refine Conf.mk (by kernel_rfl) ?_; conv => whnf) | (refine SeqOk.go ?_; conv => whnf))
    refine .data _ _ hch rfl ?_
    conv => whnf
    repeat (first | (refine Conf.mk (by kernel_rfl) ?_; conv => whnf) | (refine SeqOk.go ?_; conv => whnf))
    refine .data _ _ hcr rfl ?_
    conv => whnf
    repeat (first | (refine Conf.mk (by kernel_rfl) ?_; conv => whnf) | (refine SeqOk.go ?_; conv => whnf))
    refine BoolCase.yes (by simp) ?_
    conv => whnf
    repeat (first | (refine Conf.mk (by kernel_rfl) ?_; conv => whnf) | (refine SeqOk.go ?_; conv => whnf))
    refine .data _ _ kI1 rfl ?_
    conv => whnf
    repeat (first | (refine Conf.mk (by kernel_rfl) ?_; conv => whnf) | (refine SeqOk.go ?_; conv => whnf))
    refine .data _ _ kI2 rfl ?_
    conv => whnf
    repeat (first | (refine Conf.mk (by kernel_rfl) ?_; conv => whnf) | (refine SeqOk.go ?_; conv => whnf))
    exact Ret.bool rfl
  · have hE : doErr w t = worldErr w := by unfold doErr; rw [if_pos h1]
    have hA : doAns w t = ⟨[], []⟩ := by unfold doAns; rw [if_pos (by rw [hE]; exact h1)]
    have hS : setAns w = ⟨[], []⟩ := by unfold setAns; rw [if_pos h1]
    have kI1 := worldIs_kb ⟨[], []⟩ ⟨[], []⟩ (worldErr w) (worldErr w) ⟨by simp, by simp, by simp, by simp⟩ rfl (by rw [ite_self])
    have kI2 := kI1
    rw [hE, hA] at hdo
    rw [hS] at hst
    generalize worldErr w = ee at *
    refine pcall_cut tab_all tab_mixed Tryz.func5 (by kernel_rfl) Tryz.ntmps5 rfl ?_
    conv => whnf
    conv => whnf
    repeat (first | (refine Conf.mk (by kernel_rfl) ?_; conv => whnf) | (refine SeqOk.go ?_; conv => whnf))
    refine .data _ _ hdo rfl ?_
    conv => whnf
    repeat (first | (refine Conf.mk (by kernel_rfl) ?_; conv => whnf) | (refine SeqOk.go ?_; conv => whnf))
    refine .data _ _ hst rfl ?_
    conv => whnf
    repeat (first | (refine Conf.mk (by kernel_rfl) ?_; conv => whnf) | (refine SeqOk.go ?_; conv => whnf))
    refine .data _ _ hcr rfl ?_
    conv => whnf
    repeat (first | (refine Conf.mk (by kernel_rfl) ?_; conv => whnf) | (refine SeqOk.go ?_; conv => whnf))
    refine BoolCase.no (by simp [h1]) ?_
    conv => whnf
    repeat (first | (refine Conf.mk (by kernel_rfl) ?_; conv => whnf) | (refine SeqOk.go ?_; conv => whnf))
    refine BoolCase.no (by simp [h1]) ?_
    conv => whnf
    repeat (first | (refine Conf.mk (by kernel_rfl) ?_; conv => whnf) | (refine SeqOk.go ?_; conv => whnf))
    refine .data _ _ worldBegun_ok.kb rfl ?_
    conv => whnf
    repeat (first | (refine Conf.mk (by kernel_rfl) ?_; conv => whnf) | (refine SeqOk.go ?_; conv => whnf))
    refine .data _ _ New_ok rfl ?_
    conv => whnf
    repeat (first | (refine Conf.mk (by kernel_rfl) ?_; conv => whnf) | (refine SeqOk.go ?_; conv => whnf))
    refine .data _ _ refNewWorld_ok rfl ?_
    conv => whnf
    repeat (first | (refine Conf.mk (by kernel_rfl) ?_; conv => whnf) | (refine SeqOk.go ?_; conv => whnf))
    refine .data _ _ hsn rfl ?_
    conv => whnf
    repeat (first | (refine Conf.mk (by kernel_rfl) ?_; conv => whnf) | (refine SeqOk.go ?_; conv => whnf))
    refine .data _ _ hch rfl ?_
    conv => whnf
    repeat (first | (refine Conf.mk (by kernel_rfl) ?_; conv => whnf) | (refine SeqOk.go ?_; conv => whnf))
    refine .data _ _ hcr rfl ?_
    conv => whnf
    repeat (first | (refine Conf.mk (by kernel_rfl) ?_; conv => whnf) | (refine SeqOk.go ?_; conv => whnf))
    refine BoolCase.yes (by simp) ?_
    conv => whnf
    repeat (first | (refine Conf.mk (by kernel_rfl) ?_; conv => whnf) | (refine SeqOk.go ?_; conv => whnf))
    refine .data _ _ kI1 rfl ?_
    conv => whnf
    repeat (first | (refine Conf.mk (by kernel_rfl) ?_; conv => whnf) | (refine SeqOk.go ?_; conv => whnf))
    refine .data _ _ kI2 rfl ?_
    conv => whnf
    repeat (first | (refine Conf.mk (by kernel_rfl) ?_; conv => whnf) | (refine SeqOk.go ?_; conv => whnf))
    exact Ret.bool rfl
end Go.Proofs.YtlioojekjnigiafGreat.AM
/- Worlds: all calls of them answer as the document says. -/
namespace Go.Proofs.YtlioojekjnigiafGreat.AM
theorem worldTells_ok (w : World') (hw : WorldOk w) (t : Act') : PCall Tryz.prog 5 [w.arg, t.arg] (dBool true) := worldTells_of doOf_ok w hw t
end Go.Proofs.YtlioojekjnigiafGreat.AM
/- What came in, opened: worlds, acts. -/
namespace Go.Proofs.YtlioojekjnigiafGreat.AM
set_option linter.unusedVariables false
set_option linter.unusedSimpArgs false

structure WorldIn (w : World') : Prop where
  slen : w.sites.length * 56 ≤ 140737488351232
  sites : ∀ s ∈ w.sites, SiteIn s
  wlen : w.ways.length * 24 ≤ 140737488351232
  ways : ∀ y ∈ w.ways, y.length * 64 ≤ 140737488351232 ∧ ∀ e ∈ y, EntryIn e
theorem wt_world {n : Nat} {ds : List D} (h : WT tab (n + 8) 93 ds) : ∃ w : World', ds = w.enc ∧ WorldIn w := by
  obtain ⟨a, y, rfl, h1, b, z, rfl, h2, rfl⟩ := (h : ∃ a y, ds = a ++ y ∧ WT tab (n + 7) 90 a ∧ ∃ b z, y = b ++ z ∧ WT tab (n + 7) 91 b ∧ z = [])
  obtain ⟨es, rfl, k1, k2⟩ := (h1 : ∃ es, a = [.list es] ∧ es.length * 56 ≤ 140737488351232 ∧ ∀ e' ∈ es, WT tab (n + 6) 32 e')
  obtain ⟨fs, rfl, k3, k4⟩ := (h2 : ∃ fs, b = [.list fs] ∧ fs.length * 24 ≤ 140737488351232 ∧ ∀ e' ∈ fs, WT tab (n + 6) 22 e')
  obtain ⟨ss, rfl, hs⟩ := all_enc (fun e he => wt_site he) es k2
  obtain ⟨ws, rfl, hw⟩ := all_enc (enc := wayEnc) (fun e he => wt_log (n := n + 1) he) fs k4
  exact ⟨⟨ss, ws⟩, rfl, by rw [List.length_map] at k1; exact k1, hs, by rw [List.length_map] at k3; exact k3, hw⟩
theorem worldOk_in {w : World'} (h : WorldIn w) : WorldOk w :=
  ⟨fun s hs => siteOk_in (h.sites s hs), fun y hy => logOk_in (h.ways y hy).1 (h.ways y hy).2, by have := h.slen; omega, by have := h.wlen; omega⟩
theorem wt_act {n : Nat} {ds : List D} (h : WT tab (n + 2) 95 ds) : ∃ x : Act', ds = [.int .i64 x.kind, .int .i64 x.at', .int .i64 x.n, .int .i64 x.colors, .str x.text] ∧ I64 x.kind := by
  obtain ⟨a, y, rfl, h1, b, z, rfl, h2, c, u, rfl, h3, d, v, rfl, h4, e, q, rfl, h5, rfl⟩ := (h : ∃ a y, ds = a ++ y ∧ WT tab (n + 1) 3 a ∧ ∃ b z, y = b ++ z ∧ WT tab (n + 1) 3 b ∧ ∃ c u, z = c ++ u ∧ WT tab (n + 1) 3 c ∧ ∃ d v, u = d ++ v ∧ WT tab (n + 1) 3 d ∧ ∃ e q, v = e ++ q ∧ WT tab (n + 1) 9 e ∧ q = [])
  obtain ⟨k, rfl, hk⟩ := wt_int h1
  obtain ⟨i, rfl, _⟩ := wt_int h2
  obtain ⟨m, rfl, _⟩ := wt_int h3
  obtain ⟨cc, rfl, _⟩ := wt_int h4
  obtain ⟨t, rfl, _⟩ := wt_string h5
  exact ⟨⟨k, i, m, cc, t⟩, rfl, hk⟩
end Go.Proofs.YtlioojekjnigiafGreat.AM
