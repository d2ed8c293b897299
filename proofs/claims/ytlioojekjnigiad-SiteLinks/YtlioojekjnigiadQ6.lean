/- What is leaned on: part 6. -/
import Derived.Test.YtlioojekjnigiadQ5
import Derived.OpenShut
import Derived.ProofKit
import Derived.ChangeOld
import Derived.Lib.SmallJoins
/- Sites: what a site writes of its own, as the document says. -/
namespace Go.Proofs.Ytlioojekjnigiad.AM
set_option linter.unusedVariables false
set_option linter.unusedSimpArgs false

theorem full_next {s : Site'} (h : SiteR s) (hl : s.log.length = 40) : 20 < cnt s.region s.log + 1 := by
  have h0 := cnt_all h.log.regs
  have h1 := h.log.cnt_twenty 0
  have h2 := h.log.cnt_twenty 1
  rcases h.reg with e | e <;> rw [e] <;> omega
set_option maxHeartbeats 0 in
theorem appendOf_ok (s : Site') (hR : SiteR s) (c : Int) (t : ByteArray) : PCall Try.prog 24 [s.arg, dInt c, .dat (.str t)] (.tup [(appAns s c t).arg, (appE s c t).arg, dInt (appErr s c t)]) := by
  have hll := hR.log.len
  have hwl := hR.len
  have hn := appErr_next hR c t
  have hbt := between_ok c 1 7
  have hcn := cnt_le s.region s.log
  have c0 := cnt_le 0 s.log
  have c1 := cnt_le 1 s.log
  refine pcall_cut tab_all tab_mixed Try.func24 (by kernel_rfl) Try.ntmps24 rfl ?_
  conv => whnf
  conv => whnf
  repeat (first | (refine Conf.mk (by kernel_rfl) ?_; conv => whnf) | (refine SeqOk.go ?_; conv => whnf))
  by_cases hc : 1 ≤ c ∧ c ≤ 7
  · rw [show (decide (1 ≤ c) && decide (c ≤ 7)) = true by simp; omega] at hbt
    refine .data _ _ hbt.kb rfl ?_
    conv => whnf
    repeat (first | (refine Conf.mk (by kernel_rfl) ?_; conv => whnf) | (refine SeqOk.go ?_; conv => whnf))
    refine .data _ _ (countOf_ok s.log (by omega) hR.log.regs) rfl ?_
    conv => whnf
    repeat (first | (refine Conf.mk (by kernel_rfl) ?_; conv => whnf) | (refine SeqOk.go ?_; conv => whnf))
    rcases hR.reg with h1 | h1
    · refine .mk 0 h1 (by decide) ?_
      have hw : IntKind.i64.wrap ((cnt 0 s.log : Int) + 1) = (cnt s.region s.log : Int) + 1 := by rw [wrap_id (by omega) (by omega), h1]
      conv => whnf
      repeat (first | (refine Conf.mk (by kernel_rfl) ?_; conv => whnf) | (refine SeqOk.go ?_; conv => whnf))
      refine .data _ _ (headsOf_ok s.log hR.log c hc) rfl ?_
      rw [hw]
      conv => whnf
      repeat (first | (refine Conf.mk (by kernel_rfl) ?_; conv => whnf) | (refine SeqOk.go ?_; conv => whnf))
      refine ⟨fun h2 => ?_, fun h2 => ?_⟩
      · have hm : 12 < t.size ∨ 20 < cnt s.region s.log + 1 ∨ 6 < (headsOf c s.log).length := .inl (by simp at h2; omega)
        have hE : nextErr s.region s.log c t = 2 := by unfold nextErr; rw [if_neg (by omega), if_pos hm]
        rw [hE] at hn
        have hA : appAns s c t = ⟨0, [], []⟩ := by unfold appAns; rw [hn, if_pos (by decide)]
        have hN : appE s c t = zeroE := by unfold appE; rw [hn, if_pos (by decide)]
        conv => whnf
        repeat (first | (refine Conf.mk (by kernel_rfl) ?_; conv => whnf) | (refine SeqOk.go ?_; conv => whnf))
        exact Ret.to (by rw [hA, hN, hn]; rfl)
      · have h2 : ¬ 12 < t.size := by simp at h2; omega
        conv => whnf
        repeat (first | (refine Conf.mk (by kernel_rfl) ?_; conv => whnf) | (refine SeqOk.go ?_; conv => whnf))
        refine ⟨fun h3 => ?_, fun h3 => ?_⟩
        · have hm : 12 < t.size ∨ 20 < cnt s.region s.log + 1 ∨ 6 < (headsOf c s.log).length := .inr (.inl (by simp at h3; omega))
          have hE : nextErr s.region s.log c t = 2 := by unfold nextErr; rw [if_neg (by omega), if_pos hm]
          rw [hE] at hn
          have hA : appAns s c t = ⟨0, [], []⟩ := by unfold appAns; rw [hn, if_pos (by decide)]
          have hN : appE s c t = zeroE := by unfold appE; rw [hn, if_pos (by decide)]
          conv => whnf
          repeat (first | (refine Conf.mk (by kernel_rfl) ?_; conv => whnf) | (refine SeqOk.go ?_; conv => whnf))
          exact Ret.to (by rw [hA, hN, hn]; rfl)
        · have h3 : ¬ 20 < cnt s.region s.log + 1 := by simp at h3; omega
          conv => whnf
          repeat (first | (refine Conf.mk (by kernel_rfl) ?_; conv => whnf) | (refine SeqOk.go ?_; conv => whnf))
          refine ⟨fun h4 => ?_, fun h4 => ?_⟩
          · have h4 : s.log.length = 40 := by simp at h4; omega
            exact absurd (full_next hR h4) h3
          · conv => whnf
            repeat (first | (refine Conf.mk (by kernel_rfl) ?_; conv => whnf) | (refine SeqOk.go ?_; conv => whnf))
            refine ⟨fun h5 => ?_, fun h5 => ?_⟩
            · have hm : 12 < t.size ∨ 20 < cnt s.region s.log + 1 ∨ 6 < (headsOf c s.log).length := .inr (.inr (by simp at h5; omega))
              have hE : nextErr s.region s.log c t = 2 := by unfold nextErr; rw [if_neg (by omega), if_pos hm]
              rw [hE] at hn
              have hA : appAns s c t = ⟨0, [], []⟩ := by unfold appAns; rw [hn, if_pos (by decide)]
              have hN : appE s c t = zeroE := by unfold appE; rw [hn, if_pos (by decide)]
              conv => whnf
              repeat (first | (refine Conf.mk (by kernel_rfl) ?_; conv => whnf) | (refine SeqOk.go ?_; conv => whnf))
              exact Ret.to (by rw [hA, hN, hn]; rfl)
            · have h5 : ¬ 6 < (headsOf c s.log).length := by simp at h5; omega
              have hE : nextErr s.region s.log c t = 0 := by unfold nextErr; rw [if_neg (by omega), if_neg (by simp only [not_or]; exact ⟨h2, h3, h5⟩)]
              obtain ⟨hz, hA, hS, hN⟩ := app_comes hR hE
              have hcon := settled_ok ⟨s.region, s.log ++ [newE s.region s.log c t], s.waits⟩ (by show s.waits.length ≤ 1000; omega) (app_beside hR hE)
              rw [show (⟨s.region, s.log ++ [newE s.region s.log c t], s.waits⟩ : Site').arg = .agg [dInt s.region, .dat (.list (s.log.map Entry'.enc ++ [(newE s.region s.log c t).enc])), .dat (.list (s.waits.map Entry'.enc))] by unfold Site'.arg; rw [List.map_append]; rfl] at hcon
              conv => whnf
              repeat (first | (refine Conf.mk (by kernel_rfl) ?_; conv => whnf) | (refine SeqOk.go ?_; conv => whnf))
              refine ⟨by simp [Entry'.enc], by simp; omega, ?_⟩
              conv => whnf
              repeat (first | (refine Conf.mk (by kernel_rfl) ?_; conv => whnf) | (refine SeqOk.go ?_; conv => whnf))
              refine ⟨by simp [Entry'.enc], by simp; omega, ?_⟩
              conv => whnf
              repeat (first | (refine Conf.mk (by kernel_rfl) ?_; conv => whnf) | (refine SeqOk.go ?_; conv => whnf))
              refine .keep [6] _ _ hcon rfl rfl rfl rfl ?_
              conv => whnf
              repeat (first | (refine Conf.mk (by kernel_rfl) ?_; conv => whnf) | (refine SeqOk.go ?_; conv => whnf))
              exact Ret.to (by rw [hA, hN, hz]; rfl)
    · refine .mk 1 h1 (by decide) ?_
      have hw : IntKind.i64.wrap ((cnt 1 s.log : Int) + 1) = (cnt s.region s.log : Int) + 1 := by rw [wrap_id (by omega) (by omega), h1]
      conv => whnf
      repeat (first | (refine Conf.mk (by kernel_rfl) ?_; conv => whnf) | (refine SeqOk.go ?_; conv => whnf))
      refine .data _ _ (headsOf_ok s.log hR.log c hc) rfl ?_
      rw [hw]
      conv => whnf
      repeat (first | (refine Conf.mk (by kernel_rfl) ?_; conv => whnf) | (refine SeqOk.go ?_; conv => whnf))
      refine ⟨fun h2 => ?_, fun h2 => ?_⟩
      · have hm : 12 < t.size ∨ 20 < cnt s.region s.log + 1 ∨ 6 < (headsOf c s.log).length := .inl (by simp at h2; omega)
        have hE : nextErr s.region s.log c t = 2 := by unfold nextErr; rw [if_neg (by omega), if_pos hm]
        rw [hE] at hn
        have hA : appAns s c t = ⟨0, [], []⟩ := by unfold appAns; rw [hn, if_pos (by decide)]
        have hN : appE s c t = zeroE := by unfold appE; rw [hn, if_pos (by decide)]
        conv => whnf
        repeat (first | (refine Conf.mk (by kernel_rfl) ?_; conv => whnf) | (refine SeqOk.go ?_; conv => whnf))
        exact Ret.to (by rw [hA, hN, hn]; rfl)
      · have h2 : ¬ 12 < t.size := by simp at h2; omega
        conv => whnf
        repeat (first | (refine Conf.mk (by kernel_rfl) ?_; conv => whnf) | (refine SeqOk.go ?_; conv => whnf))
        refine ⟨fun h3 => ?_, fun h3 => ?_⟩
        · have hm : 12 < t.size ∨ 20 < cnt s.region s.log + 1 ∨ 6 < (headsOf c s.log).length := .inr (.inl (by simp at h3; omega))
          have hE : nextErr s.region s.log c t = 2 := by unfold nextErr; rw [if_neg (by omega), if_pos hm]
          rw [hE] at hn
          have hA : appAns s c t = ⟨0, [], []⟩ := by unfold appAns; rw [hn, if_pos (by decide)]
          have hN : appE s c t = zeroE := by unfold appE; rw [hn, if_pos (by decide)]
          conv => whnf
          repeat (first | (refine Conf.mk (by kernel_rfl) ?_; conv => whnf) | (refine SeqOk.go ?_; conv => whnf))
          exact Ret.to (by rw [hA, hN, hn]; rfl)
        · have h3 : ¬ 20 < cnt s.region s.log + 1 := by simp at h3; omega
          conv => whnf
          repeat (first | (refine Conf.mk (by kernel_rfl) ?_; conv => whnf) | (refine SeqOk.go ?_; conv => whnf))
          refine ⟨fun h4 => ?_, fun h4 => ?_⟩
          · have h4 : s.log.length = 40 := by simp at h4; omega
            exact absurd (full_next hR h4) h3
          · conv => whnf
            repeat (first | (refine Conf.mk (by kernel_rfl) ?_; conv => whnf) | (refine SeqOk.go ?_; conv => whnf))
            refine ⟨fun h5 => ?_, fun h5 => ?_⟩
            · have hm : 12 < t.size ∨ 20 < cnt s.region s.log + 1 ∨ 6 < (headsOf c s.log).length := .inr (.inr (by simp at h5; omega))
              have hE : nextErr s.region s.log c t = 2 := by unfold nextErr; rw [if_neg (by omega), if_pos hm]
              rw [hE] at hn
              have hA : appAns s c t = ⟨0, [], []⟩ := by unfold appAns; rw [hn, if_pos (by decide)]
              have hN : appE s c t = zeroE := by unfold appE; rw [hn, if_pos (by decide)]
              conv => whnf
              repeat (first | (refine Conf.mk (by kernel_rfl) ?_; conv => whnf) | (refine SeqOk.go ?_; conv => whnf))
              exact Ret.to (by rw [hA, hN, hn]; rfl)
            · have h5 : ¬ 6 < (headsOf c s.log).length := by simp at h5; omega
              have hE : nextErr s.region s.log c t = 0 := by unfold nextErr; rw [if_neg (by omega), if_neg (by simp only [not_or]; exact ⟨h2, h3, h5⟩)]
              obtain ⟨hz, hA, hS, hN⟩ := app_comes hR hE
              have hcon := settled_ok ⟨s.region, s.log ++ [newE s.region s.log c t], s.waits⟩ (by show s.waits.length ≤ 1000; omega) (app_beside hR hE)
              rw [show (⟨s.region, s.log ++ [newE s.region s.log c t], s.waits⟩ : Site').arg = .agg [dInt s.region, .dat (.list (s.log.map Entry'.enc ++ [(newE s.region s.log c t).enc])), .dat (.list (s.waits.map Entry'.enc))] by unfold Site'.arg; rw [List.map_append]; rfl] at hcon
              conv => whnf
              repeat (first | (refine Conf.mk (by kernel_rfl) ?_; conv => whnf) | (refine SeqOk.go ?_; conv => whnf))
              refine ⟨by simp [Entry'.enc], by simp; omega, ?_⟩
              conv => whnf
              repeat (first | (refine Conf.mk (by kernel_rfl) ?_; conv => whnf) | (refine SeqOk.go ?_; conv => whnf))
              refine ⟨by simp [Entry'.enc], by simp; omega, ?_⟩
              conv => whnf
              repeat (first | (refine Conf.mk (by kernel_rfl) ?_; conv => whnf) | (refine SeqOk.go ?_; conv => whnf))
              refine .keep [6] _ _ hcon rfl rfl rfl rfl ?_
              conv => whnf
              repeat (first | (refine Conf.mk (by kernel_rfl) ?_; conv => whnf) | (refine SeqOk.go ?_; conv => whnf))
              exact Ret.to (by rw [hA, hN, hz]; rfl)
  · rw [show (decide (1 ≤ c) && decide (c ≤ 7)) = false by simp; omega] at hbt
    have hE : nextErr s.region s.log c t = 3 := by unfold nextErr; rw [if_pos (by omega)]
    rw [hE] at hn
    have hA : appAns s c t = ⟨0, [], []⟩ := by unfold appAns; rw [hn, if_pos (by decide)]
    have hN : appE s c t = zeroE := by unfold appE; rw [hn, if_pos (by decide)]
    refine .data _ _ hbt.kb rfl ?_
    conv => whnf
    repeat (first | (refine Conf.mk (by kernel_rfl) ?_; conv => whnf) | (refine SeqOk.go ?_; conv => whnf))
    exact Ret.to (by rw [hA, hN, hn]; rfl)
end Go.Proofs.Ytlioojekjnigiad.AM
/- Sites: what must be in any case. -/
namespace Go.Proofs.Ytlioojekjnigiad.AM
set_option linter.unusedVariables false
set_option linter.unusedSimpArgs false

def sA : Site' := ⟨1, [], []⟩
def sB : Site' := ⟨1, [], [someLog[2]]⟩
def sC : Site' := ⟨1, [someLog[0], someLog[2]], []⟩
def eX : Entry' := ⟨⟨1, 1⟩, 4, ⟨#[116]⟩, []⟩
def eY : Entry' := ⟨⟨1, 2⟩, 1, ⟨#[117]⟩, [⟨0, 2⟩]⟩
def sD : Site' := ⟨1, [someLog[0], someLog[2], eX], []⟩
def sE : Site' := ⟨1, [someLog[0], someLog[2], eX, eY], []⟩
set_option maxHeartbeats 0 in
theorem siteBegun_ok : PCall Try.prog 17 [] (dBool true) := by
  have kA : SiteOk sA := ⟨⟨by decide, by decide⟩, ⟨by decide, by decide⟩⟩
  have kB : SiteOk sB := ⟨⟨by decide, by decide⟩, ⟨by decide, by decide⟩⟩
  have kC : SiteOk sC := ⟨⟨by decide, by decide⟩, ⟨by decide, by decide⟩⟩
  have kD : SiteOk sD := ⟨⟨by decide, by decide⟩, ⟨by decide, by decide⟩⟩
  have kE : SiteOk sE := ⟨⟨by decide, by decide⟩, ⟨by decide, by decide⟩⟩
  have h1 := siteNew_ok 1
  rw [show newSite 1 = sA from by kernel_rfl, show newErr 1 = 0 from by kernel_rfl] at h1
  have h2 := Receive_ok sA kA someLog[2] (by decide)
  rw [show recvAns sA someLog[2] = sB from by kernel_rfl, show recvErr sA someLog[2] = 0 from by kernel_rfl] at h2
  have h3 := Receive_ok sB kB someLog[0] (by decide)
  rw [show recvAns sB someLog[0] = sC from by kernel_rfl, show recvErr sB someLog[0] = 0 from by kernel_rfl] at h3
  have h4 := Append_ok sC kC 4 ⟨#[116]⟩
  rw [show appAns sC 4 ⟨#[116]⟩ = sD from by kernel_rfl, show appErr sC 4 ⟨#[116]⟩ = 0 from by kernel_rfl, show appE sC 4 ⟨#[116]⟩ = eX from by kernel_rfl] at h4
  have h5 := Append_ok sD kD 1 ⟨#[117]⟩
  rw [show appAns sD 1 ⟨#[117]⟩ = sE from by kernel_rfl, show appErr sD 1 ⟨#[117]⟩ = 0 from by kernel_rfl, show appE sD 1 ⟨#[117]⟩ = eY from by kernel_rfl] at h5
  have h6 := siteCheck_ok sE kE
  rw [show siteErr sE = 0 from by kernel_rfl] at h6
  refine pcall_intro tab_all tab_mixed Try.func17 (by kernel_rfl) Try.ntmps17 rfl ?_
  conv => whnf
  refine .data _ _ h1 rfl ?_
  conv => whnf
  repeat (first | (refine Conf.mk (by kernel_rfl) ?_; conv => whnf) | (refine SeqOk.go ?_; conv => whnf))
  refine .data _ _ entries_ok rfl ?_
  conv => whnf
  repeat (first | (refine Conf.mk (by kernel_rfl) ?_; conv => whnf) | (refine SeqOk.go ?_; conv => whnf))
  refine AtIdx.ofMap (l := someLog) (i := 2) (by decide) rfl ?_
  conv => whnf
  repeat (first | (refine Conf.mk (by kernel_rfl) ?_; conv => whnf) | (refine SeqOk.go ?_; conv => whnf))
  refine .data _ _ h2 rfl ?_
  conv => whnf
  repeat (first | (refine Conf.mk (by kernel_rfl) ?_; conv => whnf) | (refine SeqOk.go ?_; conv => whnf))
  refine .data _ _ entries_ok rfl ?_
  conv => whnf
  repeat (first | (refine Conf.mk (by kernel_rfl) ?_; conv => whnf) | (refine SeqOk.go ?_; conv => whnf))
  refine AtIdx.ofMap (l := someLog) (i := 0) (by decide) rfl ?_
  conv => whnf
  repeat (first | (refine Conf.mk (by kernel_rfl) ?_; conv => whnf) | (refine SeqOk.go ?_; conv => whnf))
  refine .data _ _ h3 rfl ?_
  conv => whnf
  repeat (first | (refine Conf.mk (by kernel_rfl) ?_; conv => whnf) | (refine SeqOk.go ?_; conv => whnf))
  refine .data _ _ h4 rfl ?_
  conv => whnf
  repeat (first | (refine Conf.mk (by kernel_rfl) ?_; conv => whnf) | (refine SeqOk.go ?_; conv => whnf))
  refine .data _ _ h5 rfl ?_
  conv => whnf
  repeat (first | (refine Conf.mk (by kernel_rfl) ?_; conv => whnf) | (refine SeqOk.go ?_; conv => whnf))
  refine BoolCase.yes rfl ?_
  conv => whnf
  repeat (first | (refine Conf.mk (by kernel_rfl) ?_; conv => whnf) | (refine SeqOk.go ?_; conv => whnf))
  refine BoolCase.yes rfl ?_
  conv => whnf
  repeat (first | (refine Conf.mk (by kernel_rfl) ?_; conv => whnf) | (refine SeqOk.go ?_; conv => whnf))
  refine BoolCase.yes rfl ?_
  conv => whnf
  repeat (first | (refine Conf.mk (by kernel_rfl) ?_; conv => whnf) | (refine SeqOk.go ?_; conv => whnf))
  refine BoolCase.yes rfl ?_
  conv => whnf
  repeat (first | (refine Conf.mk (by kernel_rfl) ?_; conv => whnf) | (refine SeqOk.go ?_; conv => whnf))
  refine BoolCase.yes rfl ?_
  conv => whnf
  repeat (first | (refine Conf.mk (by kernel_rfl) ?_; conv => whnf) | (refine SeqOk.go ?_; conv => whnf))
  refine .data _ _ h6 rfl ?_
  conv => whnf
  repeat (first | (refine Conf.mk (by kernel_rfl) ?_; conv => whnf) | (refine SeqOk.go ?_; conv => whnf))
  refine BoolCase.yes rfl ?_
  conv => whnf
  repeat (first | (refine Conf.mk (by kernel_rfl) ?_; conv => whnf) | (refine SeqOk.go ?_; conv => whnf))
  refine BoolCase.yes rfl ?_
  conv => whnf
  repeat (first | (refine Conf.mk (by kernel_rfl) ?_; conv => whnf) | (refine SeqOk.go ?_; conv => whnf))
  refine BoolCase.yes rfl ?_
  conv => whnf
  repeat (first | (refine Conf.mk (by kernel_rfl) ?_; conv => whnf) | (refine SeqOk.go ?_; conv => whnf))
  refine BoolCase.yes rfl ?_
  conv => whnf
  repeat (first | (refine Conf.mk (by kernel_rfl) ?_; conv => whnf) | (refine SeqOk.go ?_; conv => whnf))
  refine BoolCase.yes rfl ?_
  conv => whnf
  repeat (first | (refine Conf.mk (by kernel_rfl) ?_; conv => whnf) | (refine SeqOk.go ?_; conv => whnf))
  refine BoolCase.yes rfl ?_
  conv => whnf
  repeat (first | (refine Conf.mk (by kernel_rfl) ?_; conv => whnf) | (refine SeqOk.go ?_; conv => whnf))
  refine .data _ _ (id_ok _ _) rfl ?_
  conv => whnf
  repeat (first | (refine Conf.mk (by kernel_rfl) ?_; conv => whnf) | (refine SeqOk.go ?_; conv => whnf))
  refine .look _ _ (same_ok [⟨0, 2⟩] (by decide)) rfl rfl ?_
  conv => whnf
  repeat (first | (refine Conf.mk (by kernel_rfl) ?_; conv => whnf) | (refine SeqOk.go ?_; conv => whnf))
  refine .data _ _ (id_ok _ _) rfl ?_
  conv => whnf
  repeat (first | (refine Conf.mk (by kernel_rfl) ?_; conv => whnf) | (refine SeqOk.go ?_; conv => whnf))
  exact Ret.bool rfl
end Go.Proofs.Ytlioojekjnigiad.AM
/- Sites: all calls of them answer as the document says. -/
namespace Go.Proofs.Ytlioojekjnigiad.AM
set_option linter.unusedVariables false
set_option linter.unusedSimpArgs false

theorem zero_siteOk : SiteOk ⟨0, [], []⟩ := ⟨⟨by decide, by simp⟩, ⟨by decide, by simp⟩⟩
theorem SiteR.ok {s : Site'} (h : SiteR s) : SiteOk s := ⟨h.log.logOk, ⟨by have := h.len; omega, fun e he => by have := (six_of (h.err e he)).2; omega⟩⟩
theorem recv_zero {s : Site'} {e : Entry'} (h : recvErr s e ≠ 0) : recvAns s e = ⟨0, [], []⟩ := by unfold recvAns; rw [if_pos h]
theorem app_zero {s : Site'} {c : Int} {t : ByteArray} (h : appErr s c t ≠ 0) : appAns s c t = ⟨0, [], []⟩ ∧ appE s c t = zeroE := by unfold appAns appE; rw [if_pos h, if_pos h]; exact ⟨rfl, rfl⟩
theorem recv_siteOk (s : Site') (e : Entry') : SiteOk (recvAns s e) := by
  by_cases h : recvErr s e = 0
  · exact (recv_right h).ok
  · rw [recv_zero h]; exact zero_siteOk
theorem app_siteOk (s : Site') (c : Int) (t : ByteArray) : SiteOk (appAns s c t) := by
  by_cases h : appErr s c t = 0
  · exact (app_right h).ok
  · rw [(app_zero h).1]; exact zero_siteOk
theorem appE_len (s : Site') (c : Int) (t : ByteArray) : (appE s c t).links.length ≤ 6 := by
  by_cases h : appErr s c t = 0
  · obtain ⟨h1, h2⟩ := appErr_zero h
    rw [(app_comes h1 h2).2.2.2]
    exact (nextErr_zero h2).2.2.2
  · rw [(app_zero h).2]; exact Nat.zero_le _
theorem siteIs_kb (s want : Site') (e w : Int) (hs : SiteOk s) (h1 : e = w) (h2 : s = if w = 0 then want else ⟨0, [], []⟩) : PCall Try.prog 27 [s.arg, dInt e, dInt w, want.arg] (.kb true) := by
  have h := siteIs_ok s want e w hs
  rw [show (e == w && sameS s (if w = 0 then want else ⟨0, [], []⟩)) = true by rw [Bool.and_eq_true]; exact ⟨by simp [h1], sameS_iff.2 h2⟩] at h
  exact h.kb
theorem sameEntry_kb (a : Entry') (ha : a.links.length ≤ 140737488355328) : PCall Try.prog 28 [a.arg, a.arg] (.kb true) := by
  have h := sameEntry_ok a a ha
  rw [sameE_iff.2 rfl] at h
  exact h.kb
set_option maxHeartbeats 0 in
theorem siteTells_ok (r : Int) (s : Site') (hs : SiteOk s) (c : Int) (t : ByteArray) (e : Entry') (he : e.links.length ≤ 140737488355328) : PCall Try.prog 6 [dInt r, s.arg, dInt c, .dat (.str t), e.arg] (dBool true) := by
  have hE1 : siteErr s ≠ 0 → appErr s c t = siteErr s ∧ recvErr s e = siteErr s := fun h => by unfold appErr recvErr; rw [if_pos h, if_pos h]; exact ⟨rfl, rfl⟩
  have hE2 : siteErr s = 0 → e.err ≠ 0 → recvErr s e = e.err := fun h h2 => by unfold recvErr; rw [if_neg (by simp [h]), if_pos h2]
  have hlen := appE_len s c t
  have kA := siteIs_kb (appAns s c t) (appAns s c t) (appErr s c t) (appErr s c t) (app_siteOk s c t) rfl (by
    by_cases h : appErr s c t = 0
    · rw [if_pos h]
    · rw [if_neg h, (app_zero h).1])
  have kB := siteIs_kb (recvAns s e) (recvAns s e) (recvErr s e) (recvErr s e) (recv_siteOk s e) rfl (by
    by_cases h : recvErr s e = 0
    · rw [if_pos h]
    · rw [if_neg h, recv_zero h])
  have kE := sameEntry_kb (appE s c t) (by omega)
  have kC : PCall Try.prog 27 [(newSite r).arg, dInt (newErr r), dInt (newErr r), (⟨r, [], []⟩ : Site').arg] (.kb true) := siteIs_kb _ _ _ _ (by
    unfold newSite
    split
    · exact ⟨⟨by simp, by simp⟩, ⟨by simp, by simp⟩⟩
    · exact zero_siteOk) rfl (by
    unfold newSite newErr
    by_cases h : r = 0 ∨ r = 1
    · rw [if_pos h, if_pos h, if_pos rfl]
    · rw [if_neg h, if_neg h, if_neg (by decide)])
  have kD : ∀ u, newErr r = u → PCall Try.prog 27 [(newSite r).arg, dInt (newErr r), dInt u, (⟨r, [], []⟩ : Site').arg] (.kb true) := fun u hu => hu ▸ kC
  have hch := siteCheck_ok s hs
  have hcr := checkSite_ok s hs
  have hap := Append_ok s hs c t
  have hrv := Receive_ok s hs e he
  refine pcall_cut tab_all tab_mixed Try.func6 (by kernel_rfl) Try.ntmps6 rfl ?_
  conv => whnf
  conv => whnf
  repeat (first | (refine Conf.mk (by kernel_rfl) ?_; conv => whnf) | (refine SeqOk.go ?_; conv => whnf))
  refine .data _ _ (siteNew_ok r) rfl ?_
  conv => whnf
  repeat (first | (refine Conf.mk (by kernel_rfl) ?_; conv => whnf) | (refine SeqOk.go ?_; conv => whnf))
  refine .data _ _ hap rfl ?_
  conv => whnf
  repeat (first | (refine Conf.mk (by kernel_rfl) ?_; conv => whnf) | (refine SeqOk.go ?_; conv => whnf))
  refine .data _ _ hrv rfl ?_
  conv => whnf
  repeat (first | (refine Conf.mk (by kernel_rfl) ?_; conv => whnf) | (refine SeqOk.go ?_; conv => whnf))
  refine .data _ _ hcr rfl ?_
  conv => whnf
  refine SeqOk.cut' ⟨[(0, dInt r), (2, dInt c), (3, .dat (.str t)), (6, .ptr 0 0), (9, .ptr 1 0), (11, .ptr 2 0), (12, dInt (newErr r)), (13, .ptr 3 0), (14, .ptr 4 0), (15, dInt (appErr s c t)), (16, .ptr 5 0), (17, dInt (recvErr s e)), (18, dInt (newErr r)), (19, dInt (siteErr s))], 6, [(0, .vars 41 3 [dInt s.region, .dat (.list (s.log.map Entry'.enc)), .dat (.list (s.waits.map Entry'.enc))] true), (1, .vars 35 5 [dInt e.id.r, dInt e.id.n, dInt e.colors, .dat (.str e.text), .dat (.list (e.links.map Id.enc))] true), (2, .vars 41 3 [dInt (newSite r).region, .dat (.list ((newSite r).log.map Entry'.enc)), .dat (.list ((newSite r).waits.map Entry'.enc))] true), (3, .vars 41 3 [dInt (appAns s c t).region, .dat (.list ((appAns s c t).log.map Entry'.enc)), .dat (.list ((appAns s c t).waits.map Entry'.enc))] true), (4, .vars 35 5 [dInt (appE s c t).id.r, dInt (appE s c t).id.n, dInt (appE s c t).colors, .dat (.str (appE s c t).text), .dat (.list ((appE s c t).links.map Id.enc))] true), (5, .vars 41 3 [dInt (recvAns s e).region, .dat (.list ((recvAns s e).log.map Entry'.enc)), .dat (.list ((recvAns s e).waits.map Entry'.enc))] true)]⟩ ?_ ?_
  · skip
    conv => whnf
    repeat (first | (refine Conf.mk (by kernel_rfl) ?_; conv => whnf) | (refine SeqOk.go ?_; conv => whnf))
    refine ⟨fun h0 => ?_, fun h0 => ?_⟩
    · have h0 : r < 0 := by simpa using h0
      have hu : newErr r = 3 := by unfold newErr; rw [if_neg (by omega)]
      conv => whnf
      repeat (first | (refine Conf.mk (by kernel_rfl) ?_; conv => whnf) | (refine SeqOk.go ?_; conv => whnf))
      exact Into.to [0, 1, 2, 3, 4, 5] [(0, dInt r), (2, dInt c), (3, .dat (.str t)), (6, .ptr 0 0), (9, .ptr 1 0), (11, .ptr 2 0), (12, dInt (newErr r)), (13, .ptr 3 0), (14, .ptr 4 0), (15, dInt (appErr s c t)), (16, .ptr 5 0), (17, dInt (recvErr s e)), (18, dInt (newErr r)), (19, dInt (siteErr s))] [(0, .vars 41 3 [dInt s.region, .dat (.list (s.log.map Entry'.enc)), .dat (.list (s.waits.map Entry'.enc))] true), (1, .vars 35 5 [dInt e.id.r, dInt e.id.n, dInt e.colors, .dat (.str e.text), .dat (.list (e.links.map Id.enc))] true), (2, .vars 41 3 [dInt (newSite r).region, .dat (.list ((newSite r).log.map Entry'.enc)), .dat (.list ((newSite r).waits.map Entry'.enc))] true), (3, .vars 41 3 [dInt (appAns s c t).region, .dat (.list ((appAns s c t).log.map Entry'.enc)), .dat (.list ((appAns s c t).waits.map Entry'.enc))] true), (4, .vars 35 5 [dInt (appE s c t).id.r, dInt (appE s c t).id.n, dInt (appE s c t).colors, .dat (.str (appE s c t).text), .dat (.list ((appE s c t).links.map Id.enc))] true), (5, .vars 41 3 [dInt (recvAns s e).region, .dat (.list ((recvAns s e).log.map Entry'.enc)), .dat (.list ((recvAns s e).waits.map Entry'.enc))] true)] ⟨.same rfl, .same rfl, .same rfl, .same rfl, .same rfl, .same rfl, .same rfl, .same rfl, .same rfl, .same rfl, .same rfl, .same rfl, .same (by rw [hu]; rfl), .same rfl, trivial⟩ ⟨⟨rfl, rfl, rfl, .same rfl, rfl, .same rfl, rfl, .same rfl, rfl, trivial⟩, ⟨rfl, rfl, rfl, .same rfl, rfl, .same rfl, rfl, .same rfl, rfl, .same rfl, rfl, .same rfl, rfl, trivial⟩, ⟨rfl, rfl, rfl, .same rfl, rfl, .same rfl, rfl, .same rfl, rfl, trivial⟩, ⟨rfl, rfl, rfl, .same rfl, rfl, .same rfl, rfl, .same rfl, rfl, trivial⟩, ⟨rfl, rfl, rfl, .same rfl, rfl, .same rfl, rfl, .same rfl, rfl, .same rfl, rfl, .same rfl, rfl, trivial⟩, ⟨rfl, rfl, rfl, .same rfl, rfl, .same rfl, rfl, .same rfl, rfl, trivial⟩, trivial⟩ rfl rfl
    · have h0 : ¬ r < 0 := by simpa using h0
      conv => whnf
      repeat (first | (refine Conf.mk (by kernel_rfl) ?_; conv => whnf) | (refine SeqOk.go ?_; conv => whnf))
      refine ⟨fun h5 => ?_, fun h5 => ?_⟩
      · have h5 : 1 < r := by simpa using h5
        have hu : newErr r = 3 := by unfold newErr; rw [if_neg (by omega)]
        conv => whnf
        repeat (first | (refine Conf.mk (by kernel_rfl) ?_; conv => whnf) | (refine SeqOk.go ?_; conv => whnf))
        exact Into.to [0, 1, 2, 3, 4, 5] [(0, dInt r), (2, dInt c), (3, .dat (.str t)), (6, .ptr 0 0), (9, .ptr 1 0), (11, .ptr 2 0), (12, dInt (newErr r)), (13, .ptr 3 0), (14, .ptr 4 0), (15, dInt (appErr s c t)), (16, .ptr 5 0), (17, dInt (recvErr s e)), (18, dInt (newErr r)), (19, dInt (siteErr s))] [(0, .vars 41 3 [dInt s.region, .dat (.list (s.log.map Entry'.enc)), .dat (.list (s.waits.map Entry'.enc))] true), (1, .vars 35 5 [dInt e.id.r, dInt e.id.n, dInt e.colors, .dat (.str e.text), .dat (.list (e.links.map Id.enc))] true), (2, .vars 41 3 [dInt (newSite r).region, .dat (.list ((newSite r).log.map Entry'.enc)), .dat (.list ((newSite r).waits.map Entry'.enc))] true), (3, .vars 41 3 [dInt (appAns s c t).region, .dat (.list ((appAns s c t).log.map Entry'.enc)), .dat (.list ((appAns s c t).waits.map Entry'.enc))] true), (4, .vars 35 5 [dInt (appE s c t).id.r, dInt (appE s c t).id.n, dInt (appE s c t).colors, .dat (.str (appE s c t).text), .dat (.list ((appE s c t).links.map Id.enc))] true), (5, .vars 41 3 [dInt (recvAns s e).region, .dat (.list ((recvAns s e).log.map Entry'.enc)), .dat (.list ((recvAns s e).waits.map Entry'.enc))] true)] ⟨.same rfl, .same rfl, .same rfl, .same rfl, .same rfl, .same rfl, .same rfl, .same rfl, .same rfl, .same rfl, .same rfl, .same rfl, .same (by rw [hu]; rfl), .same rfl, trivial⟩ ⟨⟨rfl, rfl, rfl, .same rfl, rfl, .same rfl, rfl, .same rfl, rfl, trivial⟩, ⟨rfl, rfl, rfl, .same rfl, rfl, .same rfl, rfl, .same rfl, rfl, .same rfl, rfl, .same rfl, rfl, trivial⟩, ⟨rfl, rfl, rfl, .same rfl, rfl, .same rfl, rfl, .same rfl, rfl, trivial⟩, ⟨rfl, rfl, rfl, .same rfl, rfl, .same rfl, rfl, .same rfl, rfl, trivial⟩, ⟨rfl, rfl, rfl, .same rfl, rfl, .same rfl, rfl, .same rfl, rfl, .same rfl, rfl, .same rfl, rfl, trivial⟩, ⟨rfl, rfl, rfl, .same rfl, rfl, .same rfl, rfl, .same rfl, rfl, trivial⟩, trivial⟩ rfl rfl
      · have h5 : ¬ 1 < r := by simpa using h5
        have hu : newErr r = 0 := by unfold newErr; rw [if_pos (by omega)]
        conv => whnf
        repeat (first | (refine Conf.mk (by kernel_rfl) ?_; conv => whnf) | (refine SeqOk.go ?_; conv => whnf))
        exact Into.to [0, 1, 2, 3, 4, 5] [(0, dInt r), (2, dInt c), (3, .dat (.str t)), (6, .ptr 0 0), (9, .ptr 1 0), (11, .ptr 2 0), (12, dInt (newErr r)), (13, .ptr 3 0), (14, .ptr 4 0), (15, dInt (appErr s c t)), (16, .ptr 5 0), (17, dInt (recvErr s e)), (18, dInt (newErr r)), (19, dInt (siteErr s))] [(0, .vars 41 3 [dInt s.region, .dat (.list (s.log.map Entry'.enc)), .dat (.list (s.waits.map Entry'.enc))] true), (1, .vars 35 5 [dInt e.id.r, dInt e.id.n, dInt e.colors, .dat (.str e.text), .dat (.list (e.links.map Id.enc))] true), (2, .vars 41 3 [dInt (newSite r).region, .dat (.list ((newSite r).log.map Entry'.enc)), .dat (.list ((newSite r).waits.map Entry'.enc))] true), (3, .vars 41 3 [dInt (appAns s c t).region, .dat (.list ((appAns s c t).log.map Entry'.enc)), .dat (.list ((appAns s c t).waits.map Entry'.enc))] true), (4, .vars 35 5 [dInt (appE s c t).id.r, dInt (appE s c t).id.n, dInt (appE s c t).colors, .dat (.str (appE s c t).text), .dat (.list ((appE s c t).links.map Id.enc))] true), (5, .vars 41 3 [dInt (recvAns s e).region, .dat (.list ((recvAns s e).log.map Entry'.enc)), .dat (.list ((recvAns s e).waits.map Entry'.enc))] true)] ⟨.same rfl, .same rfl, .same rfl, .same rfl, .same rfl, .same rfl, .same rfl, .same rfl, .same rfl, .same rfl, .same rfl, .same rfl, .same (by rw [hu]; rfl), .same rfl, trivial⟩ ⟨⟨rfl, rfl, rfl, .same rfl, rfl, .same rfl, rfl, .same rfl, rfl, trivial⟩, ⟨rfl, rfl, rfl, .same rfl, rfl, .same rfl, rfl, .same rfl, rfl, .same rfl, rfl, .same rfl, rfl, trivial⟩, ⟨rfl, rfl, rfl, .same rfl, rfl, .same rfl, rfl, .same rfl, rfl, trivial⟩, ⟨rfl, rfl, rfl, .same rfl, rfl, .same rfl, rfl, .same rfl, rfl, trivial⟩, ⟨rfl, rfl, rfl, .same rfl, rfl, .same rfl, rfl, .same rfl, rfl, .same rfl, rfl, .same rfl, rfl, trivial⟩, ⟨rfl, rfl, rfl, .same rfl, rfl, .same rfl, rfl, .same rfl, rfl, trivial⟩, trivial⟩ rfl rfl
  · conv => whnf
    refine SeqOk.cut' ⟨[(0, dInt r), (2, dInt c), (3, .dat (.str t)), (6, .ptr 0 0), (9, .ptr 1 0), (11, .ptr 2 0), (12, dInt (newErr r)), (13, .ptr 3 0), (14, .ptr 4 0), (15, dInt (appErr s c t)), (16, .ptr 5 0), (17, dInt (recvErr s e)), (18, dInt (newErr r)), (19, dInt (siteErr s)), (20, dInt (if siteErr s = 0 then e.err else siteErr s))], 6, [(0, .vars 41 3 [dInt s.region, .dat (.list (s.log.map Entry'.enc)), .dat (.list (s.waits.map Entry'.enc))] true), (1, .vars 35 5 [dInt e.id.r, dInt e.id.n, dInt e.colors, .dat (.str e.text), .dat (.list (e.links.map Id.enc))] true), (2, .vars 41 3 [dInt (newSite r).region, .dat (.list ((newSite r).log.map Entry'.enc)), .dat (.list ((newSite r).waits.map Entry'.enc))] true), (3, .vars 41 3 [dInt (appAns s c t).region, .dat (.list ((appAns s c t).log.map Entry'.enc)), .dat (.list ((appAns s c t).waits.map Entry'.enc))] true), (4, .vars 35 5 [dInt (appE s c t).id.r, dInt (appE s c t).id.n, dInt (appE s c t).colors, .dat (.str (appE s c t).text), .dat (.list ((appE s c t).links.map Id.enc))] true), (5, .vars 41 3 [dInt (recvAns s e).region, .dat (.list ((recvAns s e).log.map Entry'.enc)), .dat (.list ((recvAns s e).waits.map Entry'.enc))] true)]⟩ ?_ ?_
    · conv => whnf
      refine ⟨fun h1 => ?_, fun h1 => ?_⟩
      · have h1 : siteErr s = 0 := by simpa using h1
        conv => whnf
        repeat (first | (refine Conf.mk (by kernel_rfl) ?_; conv => whnf) | (refine SeqOk.go ?_; conv => whnf))
        refine .data _ _ (checkEntry_ok e he) rfl ?_
        conv => whnf
        repeat (first | (refine Conf.mk (by kernel_rfl) ?_; conv => whnf) | (refine SeqOk.go ?_; conv => whnf))
        exact Into.to [0, 1, 2, 3, 4, 5] [(0, dInt r), (2, dInt c), (3, .dat (.str t)), (6, .ptr 0 0), (9, .ptr 1 0), (11, .ptr 2 0), (12, dInt (newErr r)), (13, .ptr 3 0), (14, .ptr 4 0), (15, dInt (appErr s c t)), (16, .ptr 5 0), (17, dInt (recvErr s e)), (18, dInt (newErr r)), (19, dInt (siteErr s)), (20, dInt (if siteErr s = 0 then e.err else siteErr s))] [(0, .vars 41 3 [dInt s.region, .dat (.list (s.log.map Entry'.enc)), .dat (.list (s.waits.map Entry'.enc))] true), (1, .vars 35 5 [dInt e.id.r, dInt e.id.n, dInt e.colors, .dat (.str e.text), .dat (.list (e.links.map Id.enc))] true), (2, .vars 41 3 [dInt (newSite r).region, .dat (.list ((newSite r).log.map Entry'.enc)), .dat (.list ((newSite r).waits.map Entry'.enc))] true), (3, .vars 41 3 [dInt (appAns s c t).region, .dat (.list ((appAns s c t).log.map Entry'.enc)), .dat (.list ((appAns s c t).waits.map Entry'.enc))] true), (4, .vars 35 5 [dInt (appE s c t).id.r, dInt (appE s c t).id.n, dInt (appE s c t).colors, .dat (.str (appE s c t).text), .dat (.list ((appE s c t).links.map Id.enc))] true), (5, .vars 41 3 [dInt (recvAns s e).region, .dat (.list ((recvAns s e).log.map Entry'.enc)), .dat (.list ((recvAns s e).waits.map Entry'.enc))] true)] ⟨.same rfl, .same rfl, .same rfl, .same rfl, .same rfl, .same rfl, .same rfl, .same rfl, .same rfl, .same rfl, .same rfl, .same rfl, .same rfl, .same rfl, .same (by rw [if_pos h1]; rfl), trivial⟩ ⟨⟨rfl, rfl, rfl, .same rfl, rfl, .same rfl, rfl, .same rfl, rfl, trivial⟩, ⟨rfl, rfl, rfl, .same rfl, rfl, .same rfl, rfl, .same rfl, rfl, .same rfl, rfl, .same rfl, rfl, trivial⟩, ⟨rfl, rfl, rfl, .same rfl, rfl, .same rfl, rfl, .same rfl, rfl, trivial⟩, ⟨rfl, rfl, rfl, .same rfl, rfl, .same rfl, rfl, .same rfl, rfl, trivial⟩, ⟨rfl, rfl, rfl, .same rfl, rfl, .same rfl, rfl, .same rfl, rfl, .same rfl, rfl, .same rfl, rfl, trivial⟩, ⟨rfl, rfl, rfl, .same rfl, rfl, .same rfl, rfl, .same rfl, rfl, trivial⟩, trivial⟩ rfl rfl
      · have h1 : siteErr s ≠ 0 := by simpa using h1
        conv => whnf
        repeat (first | (refine Conf.mk (by kernel_rfl) ?_; conv => whnf) | (refine SeqOk.go ?_; conv => whnf))
        exact Into.to [0, 1, 2, 3, 4, 5] [(0, dInt r), (2, dInt c), (3, .dat (.str t)), (6, .ptr 0 0), (9, .ptr 1 0), (11, .ptr 2 0), (12, dInt (newErr r)), (13, .ptr 3 0), (14, .ptr 4 0), (15, dInt (appErr s c t)), (16, .ptr 5 0), (17, dInt (recvErr s e)), (18, dInt (newErr r)), (19, dInt (siteErr s)), (20, dInt (if siteErr s = 0 then e.err else siteErr s))] [(0, .vars 41 3 [dInt s.region, .dat (.list (s.log.map Entry'.enc)), .dat (.list (s.waits.map Entry'.enc))] true), (1, .vars 35 5 [dInt e.id.r, dInt e.id.n, dInt e.colors, .dat (.str e.text), .dat (.list (e.links.map Id.enc))] true), (2, .vars 41 3 [dInt (newSite r).region, .dat (.list ((newSite r).log.map Entry'.enc)), .dat (.list ((newSite r).waits.map Entry'.enc))] true), (3, .vars 41 3 [dInt (appAns s c t).region, .dat (.list ((appAns s c t).log.map Entry'.enc)), .dat (.list ((appAns s c t).waits.map Entry'.enc))] true), (4, .vars 35 5 [dInt (appE s c t).id.r, dInt (appE s c t).id.n, dInt (appE s c t).colors, .dat (.str (appE s c t).text), .dat (.list ((appE s c t).links.map Id.enc))] true), (5, .vars 41 3 [dInt (recvAns s e).region, .dat (.list ((recvAns s e).log.map Entry'.enc)), .dat (.list ((recvAns s e).waits.map Entry'.enc))] true)] ⟨.same rfl, .same rfl, .same rfl, .same rfl, .same rfl, .same rfl, .same rfl, .same rfl, .same rfl, .same rfl, .same rfl, .same rfl, .same rfl, .same rfl, .same (by rw [if_neg h1]; rfl), trivial⟩ ⟨⟨rfl, rfl, rfl, .same rfl, rfl, .same rfl, rfl, .same rfl, rfl, trivial⟩, ⟨rfl, rfl, rfl, .same rfl, rfl, .same rfl, rfl, .same rfl, rfl, .same rfl, rfl, .same rfl, rfl, trivial⟩, ⟨rfl, rfl, rfl, .same rfl, rfl, .same rfl, rfl, .same rfl, rfl, trivial⟩, ⟨rfl, rfl, rfl, .same rfl, rfl, .same rfl, rfl, .same rfl, rfl, trivial⟩, ⟨rfl, rfl, rfl, .same rfl, rfl, .same rfl, rfl, .same rfl, rfl, .same rfl, rfl, .same rfl, rfl, trivial⟩, ⟨rfl, rfl, rfl, .same rfl, rfl, .same rfl, rfl, .same rfl, rfl, trivial⟩, trivial⟩ rfl rfl
    · conv => whnf
      refine SeqOk.cut' ⟨[(0, dInt r), (2, dInt c), (3, .dat (.str t)), (6, .ptr 0 0), (9, .ptr 1 0), (11, .ptr 2 0), (12, dInt (newErr r)), (13, .ptr 3 0), (14, .ptr 4 0), (15, dInt (appErr s c t)), (16, .ptr 5 0), (17, dInt (recvErr s e)), (18, dInt (newErr r)), (19, dInt (appErr s c t)), (20, dInt (if siteErr s = 0 then e.err else siteErr s)), (21, .ptr 6 0), (22, .ptr 7 0), (23, .ptr 8 0)], 9, [(0, .vars 41 3 [dInt s.region, .dat (.list (s.log.map Entry'.enc)), .dat (.list (s.waits.map Entry'.enc))] true), (1, .vars 35 5 [dInt e.id.r, dInt e.id.n, dInt e.colors, .dat (.str e.text), .dat (.list (e.links.map Id.enc))] true), (2, .vars 41 3 [dInt (newSite r).region, .dat (.list ((newSite r).log.map Entry'.enc)), .dat (.list ((newSite r).waits.map Entry'.enc))] true), (3, .vars 41 3 [dInt (appAns s c t).region, .dat (.list ((appAns s c t).log.map Entry'.enc)), .dat (.list ((appAns s c t).waits.map Entry'.enc))] true), (4, .vars 35 5 [dInt (appE s c t).id.r, dInt (appE s c t).id.n, dInt (appE s c t).colors, .dat (.str (appE s c t).text), .dat (.list ((appE s c t).links.map Id.enc))] true), (5, .vars 41 3 [dInt (recvAns s e).region, .dat (.list ((recvAns s e).log.map Entry'.enc)), .dat (.list ((recvAns s e).waits.map Entry'.enc))] true), (6, .vars 41 3 [dInt (appAns s c t).region, .dat (.list ((appAns s c t).log.map Entry'.enc)), .dat (.list ((appAns s c t).waits.map Entry'.enc))] true), (7, .vars 41 3 [dInt 0, .nil, .nil] true), (8, .vars 35 5 [dInt (appE s c t).id.r, dInt (appE s c t).id.n, dInt (appE s c t).colors, .dat (.str (appE s c t).text), .dat (.list ((appE s c t).links.map Id.enc))] true)]⟩ ?_ ?_
      · conv => whnf
        refine ⟨fun h1 => ?_, fun h1 => ?_⟩
        · have h1 : siteErr s = 0 := by simpa using h1
          conv => whnf
          repeat (first | (refine Conf.mk (by kernel_rfl) ?_; conv => whnf) | (refine SeqOk.go ?_; conv => whnf))
          refine .data _ _ (appendOf_ok s (siteErr_iff.1 h1) c t) rfl ?_
          conv => whnf
          repeat (first | (refine Conf.mk (by kernel_rfl) ?_; conv => whnf) | (refine SeqOk.go ?_; conv => whnf))
          exact Into.to [0, 1, 2, 3, 4, 5, 6, 7, 8] [(0, dInt r), (2, dInt c), (3, .dat (.str t)), (6, .ptr 0 0), (9, .ptr 1 0), (11, .ptr 2 0), (12, dInt (newErr r)), (13, .ptr 3 0), (14, .ptr 4 0), (15, dInt (appErr s c t)), (16, .ptr 5 0), (17, dInt (recvErr s e)), (18, dInt (newErr r)), (19, dInt (appErr s c t)), (20, dInt (if siteErr s = 0 then e.err else siteErr s)), (21, .ptr 6 0), (22, .ptr 7 0), (23, .ptr 8 0)] [(0, .vars 41 3 [dInt s.region, .dat (.list (s.log.map Entry'.enc)), .dat (.list (s.waits.map Entry'.enc))] true), (1, .vars 35 5 [dInt e.id.r, dInt e.id.n, dInt e.colors, .dat (.str e.text), .dat (.list (e.links.map Id.enc))] true), (2, .vars 41 3 [dInt (newSite r).region, .dat (.list ((newSite r).log.map Entry'.enc)), .dat (.list ((newSite r).waits.map Entry'.enc))] true), (3, .vars 41 3 [dInt (appAns s c t).region, .dat (.list ((appAns s c t).log.map Entry'.enc)), .dat (.list ((appAns s c t).waits.map Entry'.enc))] true), (4, .vars 35 5 [dInt (appE s c t).id.r, dInt (appE s c t).id.n, dInt (appE s c t).colors, .dat (.str (appE s c t).text), .dat (.list ((appE s c t).links.map Id.enc))] true), (5, .vars 41 3 [dInt (recvAns s e).region, .dat (.list ((recvAns s e).log.map Entry'.enc)), .dat (.list ((recvAns s e).waits.map Entry'.enc))] true), (6, .vars 41 3 [dInt (appAns s c t).region, .dat (.list ((appAns s c t).log.map Entry'.enc)), .dat (.list ((appAns s c t).waits.map Entry'.enc))] true), (7, .vars 41 3 [dInt 0, .nil, .nil] true), (8, .vars 35 5 [dInt (appE s c t).id.r, dInt (appE s c t).id.n, dInt (appE s c t).colors, .dat (.str (appE s c t).text), .dat (.list ((appE s c t).links.map Id.enc))] true)] ⟨.same rfl, .same rfl, .same rfl, .same rfl, .same rfl, .same rfl, .same rfl, .same rfl, .same rfl, .same rfl, .same rfl, .same rfl, .same rfl, .same rfl, .same rfl, .same rfl, .same rfl, .same rfl, trivial⟩ ⟨⟨rfl, rfl, rfl, .same rfl, rfl, .same rfl, rfl, .same rfl, rfl, trivial⟩, ⟨rfl, rfl, rfl, .same rfl, rfl, .same rfl, rfl, .same rfl, rfl, .same rfl, rfl, .same rfl, rfl, trivial⟩, ⟨rfl, rfl, rfl, .same rfl, rfl, .same rfl, rfl, .same rfl, rfl, trivial⟩, ⟨rfl, rfl, rfl, .same rfl, rfl, .same rfl, rfl, .same rfl, rfl, trivial⟩, ⟨rfl, rfl, rfl, .same rfl, rfl, .same rfl, rfl, .same rfl, rfl, .same rfl, rfl, .same rfl, rfl, trivial⟩, ⟨rfl, rfl, rfl, .same rfl, rfl, .same rfl, rfl, .same rfl, rfl, trivial⟩, ⟨rfl, rfl, rfl, .same rfl, rfl, .same rfl, rfl, .same rfl, rfl, trivial⟩, ⟨rfl, rfl, rfl, .same rfl, rfl, .same rfl, rfl, .same rfl, rfl, trivial⟩, ⟨rfl, rfl, rfl, .same rfl, rfl, .same rfl, rfl, .same rfl, rfl, .same rfl, rfl, .same rfl, rfl, trivial⟩, trivial⟩ rfl rfl
        · have h1 : siteErr s ≠ 0 := by simpa using h1
          obtain ⟨e1, e2⟩ := hE1 h1
          obtain ⟨z1, z2⟩ := app_zero (s := s) (c := c) (t := t) (by rw [e1]; exact h1)
          rw [z1, z2, e1]
          conv => whnf
          repeat (first | (refine Conf.mk (by kernel_rfl) ?_; conv => whnf) | (refine SeqOk.go ?_; conv => whnf))
          exact Into.to [0, 1, 2, 3, 4, 5, 6, 7, 8] _ _ ⟨.same rfl, .same rfl, .same rfl, .same rfl, .same rfl, .same rfl, .same rfl, .same rfl, .same rfl, .same rfl, .same rfl, .same rfl, .same rfl, .same rfl, .same rfl, .same rfl, .same rfl, .same rfl, trivial⟩ ⟨⟨rfl, rfl, rfl, .same rfl, rfl, .same rfl, rfl, .same rfl, rfl, trivial⟩, ⟨rfl, rfl, rfl, .same rfl, rfl, .same rfl, rfl, .same rfl, rfl, .same rfl, rfl, .same rfl, rfl, trivial⟩, ⟨rfl, rfl, rfl, .same rfl, rfl, .same rfl, rfl, .same rfl, rfl, trivial⟩, ⟨rfl, rfl, rfl, .same rfl, rfl, .same rfl, rfl, .same rfl, rfl, trivial⟩, ⟨rfl, rfl, rfl, .same rfl, rfl, .same rfl, rfl, .same rfl, rfl, .same rfl, rfl, .same rfl, rfl, trivial⟩, ⟨rfl, rfl, rfl, .same rfl, rfl, .same rfl, rfl, .same rfl, rfl, trivial⟩, ⟨rfl, rfl, rfl, .same rfl, rfl, .data rfl, rfl, .data rfl, rfl, trivial⟩, ⟨rfl, rfl, rfl, .same rfl, rfl, .same rfl, rfl, .same rfl, rfl, trivial⟩, ⟨rfl, rfl, rfl, .same rfl, rfl, .same rfl, rfl, .same rfl, rfl, .same rfl, rfl, .data rfl, rfl, trivial⟩, trivial⟩ rfl rfl
      · conv => whnf
        refine SeqOk.cut' ⟨[(0, dInt r), (2, dInt c), (3, .dat (.str t)), (6, .ptr 0 0), (9, .ptr 1 0), (11, .ptr 2 0), (12, dInt (newErr r)), (13, .ptr 3 0), (14, .ptr 4 0), (15, dInt (appErr s c t)), (16, .ptr 5 0), (17, dInt (recvErr s e)), (18, dInt (newErr r)), (19, dInt (appErr s c t)), (20, dInt (recvErr s e)), (21, .ptr 6 0), (22, .ptr 7 0), (23, .ptr 8 0)], 9, [(0, .vars 41 3 [dInt s.region, .dat (.list (s.log.map Entry'.enc)), .dat (.list (s.waits.map Entry'.enc))] true), (1, .vars 35 5 [dInt e.id.r, dInt e.id.n, dInt e.colors, .dat (.str e.text), .dat (.list (e.links.map Id.enc))] true), (2, .vars 41 3 [dInt (newSite r).region, .dat (.list ((newSite r).log.map Entry'.enc)), .dat (.list ((newSite r).waits.map Entry'.enc))] true), (3, .vars 41 3 [dInt (appAns s c t).region, .dat (.list ((appAns s c t).log.map Entry'.enc)), .dat (.list ((appAns s c t).waits.map Entry'.enc))] true), (4, .vars 35 5 [dInt (appE s c t).id.r, dInt (appE s c t).id.n, dInt (appE s c t).colors, .dat (.str (appE s c t).text), .dat (.list ((appE s c t).links.map Id.enc))] true), (5, .vars 41 3 [dInt (recvAns s e).region, .dat (.list ((recvAns s e).log.map Entry'.enc)), .dat (.list ((recvAns s e).waits.map Entry'.enc))] true), (6, .vars 41 3 [dInt (appAns s c t).region, .dat (.list ((appAns s c t).log.map Entry'.enc)), .dat (.list ((appAns s c t).waits.map Entry'.enc))] true), (7, .vars 41 3 [dInt (recvAns s e).region, .dat (.list ((recvAns s e).log.map Entry'.enc)), .dat (.list ((recvAns s e).waits.map Entry'.enc))] true), (8, .vars 35 5 [dInt (appE s c t).id.r, dInt (appE s c t).id.n, dInt (appE s c t).colors, .dat (.str (appE s c t).text), .dat (.list ((appE s c t).links.map Id.enc))] true)]⟩ ?_ ?_
        · conv => whnf
          refine ⟨fun h1 => ?_, fun h1 => ?_⟩
          · have h1 : (if siteErr s = 0 then e.err else siteErr s) = 0 := by simpa using h1
            obtain ⟨h2, h3⟩ : siteErr s = 0 ∧ e.err = 0 := by
              split at h1
              · rename_i h; exact ⟨h, h1⟩
              · rename_i h; exact absurd h1 h
            conv => whnf
            repeat (first | (refine Conf.mk (by kernel_rfl) ?_; conv => whnf) | (refine SeqOk.go ?_; conv => whnf))
            refine .data _ _ (receiveOf_ok s (siteErr_iff.1 h2) e h3) rfl ?_
            conv => whnf
            repeat (first | (refine Conf.mk (by kernel_rfl) ?_; conv => whnf) | (refine SeqOk.go ?_; conv => whnf))
            exact Into.to [0, 1, 2, 3, 4, 5, 6, 7, 8] [(0, dInt r), (2, dInt c), (3, .dat (.str t)), (6, .ptr 0 0), (9, .ptr 1 0), (11, .ptr 2 0), (12, dInt (newErr r)), (13, .ptr 3 0), (14, .ptr 4 0), (15, dInt (appErr s c t)), (16, .ptr 5 0), (17, dInt (recvErr s e)), (18, dInt (newErr r)), (19, dInt (appErr s c t)), (20, dInt (recvErr s e)), (21, .ptr 6 0), (22, .ptr 7 0), (23, .ptr 8 0)] [(0, .vars 41 3 [dInt s.region, .dat (.list (s.log.map Entry'.enc)), .dat (.list (s.waits.map Entry'.enc))] true), (1, .vars 35 5 [dInt e.id.r, dInt e.id.n, dInt e.colors, .dat (.str e.text), .dat (.list (e.links.map Id.enc))] true), (2, .vars 41 3 [dInt (newSite r).region, .dat (.list ((newSite r).log.map Entry'.enc)), .dat (.list ((newSite r).waits.map Entry'.enc))] true), (3, .vars 41 3 [dInt (appAns s c t).region, .dat (.list ((appAns s c t).log.map Entry'.enc)), .dat (.list ((appAns s c t).waits.map Entry'.enc))] true), (4, .vars 35 5 [dInt (appE s c t).id.r, dInt (appE s c t).id.n, dInt (appE s c t).colors, .dat (.str (appE s c t).text), .dat (.list ((appE s c t).links.map Id.enc))] true), (5, .vars 41 3 [dInt (recvAns s e).region, .dat (.list ((recvAns s e).log.map Entry'.enc)), .dat (.list ((recvAns s e).waits.map Entry'.enc))] true), (6, .vars 41 3 [dInt (appAns s c t).region, .dat (.list ((appAns s c t).log.map Entry'.enc)), .dat (.list ((appAns s c t).waits.map Entry'.enc))] true), (7, .vars 41 3 [dInt (recvAns s e).region, .dat (.list ((recvAns s e).log.map Entry'.enc)), .dat (.list ((recvAns s e).waits.map Entry'.enc))] true), (8, .vars 35 5 [dInt (appE s c t).id.r, dInt (appE s c t).id.n, dInt (appE s c t).colors, .dat (.str (appE s c t).text), .dat (.list ((appE s c t).links.map Id.enc))] true)] ⟨.same rfl, .same rfl, .same rfl, .same rfl, .same rfl, .same rfl, .same rfl, .same rfl, .same rfl, .same rfl, .same rfl, .same rfl, .same rfl, .same rfl, .same rfl, .same rfl, .same rfl, .same rfl, trivial⟩ ⟨⟨rfl, rfl, rfl, .same rfl, rfl, .same rfl, rfl, .same rfl, rfl, trivial⟩, ⟨rfl, rfl, rfl, .same rfl, rfl, .same rfl, rfl, .same rfl, rfl, .same rfl, rfl, .same rfl, rfl, trivial⟩, ⟨rfl, rfl, rfl, .same rfl, rfl, .same rfl, rfl, .same rfl, rfl, trivial⟩, ⟨rfl, rfl, rfl, .same rfl, rfl, .same rfl, rfl, .same rfl, rfl, trivial⟩, ⟨rfl, rfl, rfl, .same rfl, rfl, .same rfl, rfl, .same rfl, rfl, .same rfl, rfl, .same rfl, rfl, trivial⟩, ⟨rfl, rfl, rfl, .same rfl, rfl, .same rfl, rfl, .same rfl, rfl, trivial⟩, ⟨rfl, rfl, rfl, .same rfl, rfl, .same rfl, rfl, .same rfl, rfl, trivial⟩, ⟨rfl, rfl, rfl, .same rfl, rfl, .same rfl, rfl, .same rfl, rfl, trivial⟩, ⟨rfl, rfl, rfl, .same rfl, rfl, .same rfl, rfl, .same rfl, rfl, .same rfl, rfl, .same rfl, rfl, trivial⟩, trivial⟩ rfl rfl
          · have h1 : (if siteErr s = 0 then e.err else siteErr s) ≠ 0 := by simpa using h1
            have e1 : recvErr s e = if siteErr s = 0 then e.err else siteErr s := by
              by_cases h : siteErr s = 0
              · rw [if_pos h] at h1 ⊢
                exact hE2 h h1
              · rw [if_neg h]; exact (hE1 h).2
            have z1 := recv_zero (s := s) (e := e) (by rw [e1]; exact h1)
            rw [z1, e1]
            conv => whnf
            repeat (first | (refine Conf.mk (by kernel_rfl) ?_; conv => whnf) | (refine SeqOk.go ?_; conv => whnf))
            exact Into.to [0, 1, 2, 3, 4, 5, 6, 7, 8] _ _ ⟨.same rfl, .same rfl, .same rfl, .same rfl, .same rfl, .same rfl, .same rfl, .same rfl, .same rfl, .same rfl, .same rfl, .same rfl, .same rfl, .same rfl, .same rfl, .same rfl, .same rfl, .same rfl, trivial⟩ ⟨⟨rfl, rfl, rfl, .same rfl, rfl, .same rfl, rfl, .same rfl, rfl, trivial⟩, ⟨rfl, rfl, rfl, .same rfl, rfl, .same rfl, rfl, .same rfl, rfl, .same rfl, rfl, .same rfl, rfl, trivial⟩, ⟨rfl, rfl, rfl, .same rfl, rfl, .same rfl, rfl, .same rfl, rfl, trivial⟩, ⟨rfl, rfl, rfl, .same rfl, rfl, .same rfl, rfl, .same rfl, rfl, trivial⟩, ⟨rfl, rfl, rfl, .same rfl, rfl, .same rfl, rfl, .same rfl, rfl, .same rfl, rfl, .same rfl, rfl, trivial⟩, ⟨rfl, rfl, rfl, .same rfl, rfl, .same rfl, rfl, .same rfl, rfl, trivial⟩, ⟨rfl, rfl, rfl, .same rfl, rfl, .same rfl, rfl, .same rfl, rfl, trivial⟩, ⟨rfl, rfl, rfl, .same rfl, rfl, .data rfl, rfl, .data rfl, rfl, trivial⟩, ⟨rfl, rfl, rfl, .same rfl, rfl, .same rfl, rfl, .same rfl, rfl, .same rfl, rfl, .same rfl, rfl, trivial⟩, trivial⟩ rfl rfl
        · conv => whnf
          repeat (first | (refine Conf.mk (by kernel_rfl) ?_; conv => whnf) | (refine SeqOk.go ?_; conv => whnf))
          refine .data _ _ siteBegun_ok.kb rfl ?_
          conv => whnf
          repeat (first | (refine Conf.mk (by kernel_rfl) ?_; conv => whnf) | (refine SeqOk.go ?_; conv => whnf))
          refine .data _ _ hch rfl ?_
          conv => whnf
          repeat (first | (refine Conf.mk (by kernel_rfl) ?_; conv => whnf) | (refine SeqOk.go ?_; conv => whnf))
          refine .data _ _ hcr rfl ?_
          conv => whnf
          repeat (first | (refine Conf.mk (by kernel_rfl) ?_; conv => whnf) | (refine SeqOk.go ?_; conv => whnf))
          refine BoolCase.yes (by simp) ?_
          conv => whnf
          repeat (first | (refine Conf.mk (by kernel_rfl) ?_; conv => whnf) | (refine SeqOk.go ?_; conv => whnf))
          refine .data _ _ kC rfl ?_
          conv => whnf
          repeat (first | (refine Conf.mk (by kernel_rfl) ?_; conv => whnf) | (refine SeqOk.go ?_; conv => whnf))
          refine .data _ _ kA rfl ?_
          conv => whnf
          repeat (first | (refine Conf.mk (by kernel_rfl) ?_; conv => whnf) | (refine SeqOk.go ?_; conv => whnf))
          refine .data _ _ kE rfl ?_
          conv => whnf
          repeat (first | (refine Conf.mk (by kernel_rfl) ?_; conv => whnf) | (refine SeqOk.go ?_; conv => whnf))
          refine .data _ _ kB rfl ?_
          conv => whnf
          repeat (first | (refine Conf.mk (by kernel_rfl) ?_; conv => whnf) | (refine SeqOk.go ?_; conv => whnf))
          exact Ret.bool rfl
end Go.Proofs.Ytlioojekjnigiad.AM
/- Sites: no link stands in the past of another one. -/
namespace Go.Proofs.Ytlioojekjnigiad.AM
set_option linter.unusedVariables false
set_option linter.unusedSimpArgs false

def tOne : ByteArray := ⟨#[111, 110, 101]⟩
def tTwo : ByteArray := ⟨#[116, 119, 111]⟩
/-- What stands last is linked to just where its colors meet. -/
theorem last_head {l : List Entry'} {x : Entry'} (hr : Right (l ++ [x])) {c : Int} (hc : 1 ≤ c ∧ c ≤ 7) : x.id ∈ headsOf c (l ++ [x]) ↔ meets x.colors c = true := by
  have hx : x ∈ l ++ [x] := by simp
  rw [mem_headsOf hr hc]
  constructor
  · rintro ⟨e, he, h1, h2, _⟩
    rw [← hr.ent he hx h1]
    exact h2
  · intro hm
    refine ⟨x, hx, rfl, hm, fun f hf hfm ha => ?_⟩
    obtain ⟨i, hi, rfl⟩ := List.getElem_of_mem hf
    obtain ⟨j, hj, hji, hje, _⟩ := ha.ahead hr i hi rfl
    have hl : l.length < (l ++ [x]).length := by simp
    have hlast : (l ++ [x])[l.length] = x := by simp
    have := hr.inj hj hl (by rw [hje, hlast])
    rw [List.length_append, List.length_singleton] at hi
    omega
/-- No head stands in the past of another one. -/
theorem heads_apart {l u : List Entry'} (hr : Right (l ++ u)) {c : Int} (hc : 1 ≤ c ∧ c ≤ 7) {x y : Id} (hx : x ∈ headsOf c l) (hy : y ∈ headsOf c l) : y ∉ pastOfId (l ++ u) x := by
  have hl := hr.of_append
  intro k
  obtain ⟨e, he, rfl, hm, _⟩ := (mem_headsOf hl hc).1 hx
  obtain ⟨f, hf, rfl, _, hn⟩ := (mem_headsOf hl hc).1 hy
  exact hn e he hm (Anc.back hr ⟨e, he, rfl⟩ ((mem_pastOfId hr).1 k))
set_option maxHeartbeats 0 in
theorem siteLinks_ok (s : Site') (hs : SiteOk s) (one two : Int) : PCall Try.prog 5 [s.arg, dInt one, dInt two] (dBool true) := by
  have hsb := (PCall.kb (b := true) siteBegun_ok)
  have hdb := (PCall.kb (b := true) dagBegun_ok)
  have hp1 := Append_ok s hs one tOne
  have hp2 := Append_ok (appAns s one tOne) (app_siteOk s one tOne) two tTwo
  refine pcall_cut tab_all tab_mixed Try.func5 (by kernel_rfl) Try.ntmps5 rfl ?_
  conv => whnf
  conv => whnf
  repeat (first | (refine Conf.mk (by kernel_rfl) ?_; conv => whnf) | (refine SeqOk.go ?_; conv => whnf))
  refine .data _ _ hsb rfl ?_
  conv => whnf
  repeat (first | (refine Conf.mk (by kernel_rfl) ?_; conv => whnf) | (refine SeqOk.go ?_; conv => whnf))
  refine .data _ _ hdb rfl ?_
  conv => whnf
  repeat (first | (refine Conf.mk (by kernel_rfl) ?_; conv => whnf) | (refine SeqOk.go ?_; conv => whnf))
  refine .data _ _ hp1 rfl ?_
  conv => whnf
  repeat (first | (refine Conf.mk (by kernel_rfl) ?_; conv => whnf) | (refine SeqOk.go ?_; conv => whnf))
  by_cases hA : appErr s one tOne = 0
  · refine BoolCase.no (by simp [hA]) ?_
    conv => whnf
    repeat (first | (refine Conf.mk (by kernel_rfl) ?_; conv => whnf) | (refine SeqOk.go ?_; conv => whnf))
    refine .data _ _ hp2 rfl ?_
    conv => whnf
    repeat (first | (refine Conf.mk (by kernel_rfl) ?_; conv => whnf) | (refine SeqOk.go ?_; conv => whnf))
    by_cases hB : appErr (appAns s one tOne) two tTwo = 0
    · have hR := app_right hA
      have hQ := app_right hB
      obtain ⟨hS, hn⟩ := appErr_zero hA
      obtain ⟨_, hn2⟩ := appErr_zero hB
      obtain ⟨hc1, _⟩ := nextErr_zero hn
      obtain ⟨hc, _, _, hk6⟩ := nextErr_zero hn2
      obtain ⟨⟨u, hu⟩, _, hlone⟩ := app_ext hA
      obtain ⟨⟨v, hv⟩, _, _⟩ := app_ext hB
      have hX : appE s one tOne = newE s.region s.log one tOne := (app_comes hS hn).2.2.2
      have hY : (appE (appAns s one tOne) two tTwo) = newE (appAns s one tOne).region (appAns s one tOne).log two tTwo := (app_comes hR hn2).2.2.2
      have hll := hQ.log.len
      have hlk : (appE (appAns s one tOne) two tTwo).links = headsOf two (appAns s one tOne).log := by rw [hY]; rfl
      have hkl : (appE (appAns s one tOne) two tTwo).links.length ≤ 6 := by rw [hlk]; exact hk6
      have hmem : (appE (appAns s one tOne) two tTwo) ∈ (appAns (appAns s one tOne) two tTwo).log := by rw [hv, hY]; simp
      have hpi := past_in hQ.log ⟨_, hmem, rfl⟩
      have hpl := pastOfId_len hQ.log (appE (appAns s one tOne) two tTwo).id
      have hxm : appE s one tOne ∈ (appAns s one tOne).log := by rw [hu, hX]; simp
      have hxc : (appE s one tOne).colors = one := by rw [hX]; rfl
      have hme := meets_ok one two
      have hh1 := hasId_ok (appE s one tOne).id (appE (appAns s one tOne) two tTwo).links (by omega)
      have hh2 := hasId_ok (appE s one tOne).id (pastOfId (appAns (appAns s one tOne) two tTwo).log (appE (appAns s one tOne) two tTwo).id) (by omega)
      have hsub : ∀ e ∈ (appAns s one tOne).log, e ∈ (appAns (appAns s one tOne) two tTwo).log := fun e he => by rw [hv]; simp [he]
      refine BoolCase.no (by simp [hB]) ?_
      conv => whnf
      repeat (first | (refine Conf.mk (by kernel_rfl) ?_; conv => whnf) | (refine SeqOk.go ?_; conv => whnf))
      refine .data _ _ hpi rfl ?_
      conv => whnf
      repeat (first | (refine Conf.mk (by kernel_rfl) ?_; conv => whnf) | (refine SeqOk.go ?_; conv => whnf))
      refine BoolCase.no rfl ?_
      conv => whnf
      repeat (first | (refine Conf.mk (by kernel_rfl) ?_; conv => whnf) | (refine SeqOk.go ?_; conv => whnf))
      refine .data _ _ hme rfl ?_
      conv => whnf
      repeat (first | (refine Conf.mk (by kernel_rfl) ?_; conv => whnf) | (refine SeqOk.go ?_; conv => whnf))
      refine .data _ _ hh1 rfl ?_
      conv => whnf
      repeat (first | (refine Conf.mk (by kernel_rfl) ?_; conv => whnf) | (refine SeqOk.go ?_; conv => whnf))
      by_cases hw : s.waits = []
      · have hsame : meets one two = hasId (appE (appAns s one tOne) two tTwo).links (appE s one tOne).id := by
          rw [Bool.eq_iff_iff, hasId_iff, hlk]
          have hlg := hlone hw
          rw [← hX] at hlg
          have := last_head (hlg ▸ hR.log) hc
          rw [← hlg, hxc] at this
          exact this.symm
        refine BoolCase.no (by rw [hsame]; simp) ?_
        conv => whnf
        repeat (first | (refine Conf.mk (by kernel_rfl) ?_; conv => whnf) | (refine SeqOk.go ?_; conv => whnf))
        refine .data _ _ hme rfl ?_
        conv => whnf
        repeat (first | (refine Conf.mk (by kernel_rfl) ?_; conv => whnf) | (refine SeqOk.go ?_; conv => whnf))
        by_cases hm : meets one two = true
        · have hin : hasId (pastOfId (appAns (appAns s one tOne) two tTwo).log (appE (appAns s one tOne) two tTwo).id) (appE s one tOne).id = true := hasId_iff.2 ((mem_pastOfId hQ.log).2 (by rw [hY]; exact app_links hB hxm (by rw [hxc]; exact hm)))
          rw [hin] at hh2
          refine BoolCase.yes hm ?_
          conv => whnf
          repeat (first | (refine Conf.mk (by kernel_rfl) ?_; conv => whnf) | (refine SeqOk.go ?_; conv => whnf))
          refine .data _ _ hh2.kb rfl ?_
          conv => whnf
          repeat (first | (refine Conf.mk (by kernel_rfl) ?_; conv => whnf) | (refine SeqOk.go ?_; conv => whnf))
          refine LoopOk.hide fun Q1 hQ1 => ?_
          refine LoopOk.mk (fun m x => ∃ i, i + m = (appE (appAns s one tOne) two tTwo).links.length ∧ x = ⟨[(14, dInt i), (10, .ptr 0 0), (11, .ptr 1 0)], 2, [(0, .vars 41 3 [dInt (appAns (appAns s one tOne) two tTwo).region, .dat (.list ((appAns (appAns s one tOne) two tTwo).log.map Entry'.enc)), .dat (.list ((appAns (appAns s one tOne) two tTwo).waits.map Entry'.enc))] true), (1, .vars 35 5 [dInt (appE (appAns s one tOne) two tTwo).id.r, dInt (appE (appAns s one tOne) two tTwo).id.n, dInt (appE (appAns s one tOne) two tTwo).colors, .dat (.str (appE (appAns s one tOne) two tTwo).text), .dat (.list ((appE (appAns s one tOne) two tTwo).links.map Id.enc))] true)]⟩) (appE (appAns s one tOne) two tTwo).links.length (Into.mono (Into.to [3, 4] [(14, dInt (0 : Nat)), (10, .ptr 0 0), (11, .ptr 1 0)] [(0, .vars 41 3 [dInt (appAns (appAns s one tOne) two tTwo).region, .dat (.list ((appAns (appAns s one tOne) two tTwo).log.map Entry'.enc)), .dat (.list ((appAns (appAns s one tOne) two tTwo).waits.map Entry'.enc))] true), (1, .vars 35 5 [dInt (appE (appAns s one tOne) two tTwo).id.r, dInt (appE (appAns s one tOne) two tTwo).id.n, dInt (appE (appAns s one tOne) two tTwo).colors, .dat (.str (appE (appAns s one tOne) two tTwo).text), .dat (.list ((appE (appAns s one tOne) two tTwo).links.map Id.enc))] true)] (by repeat (first | exact trivial | refine ⟨.same (congrArg dInt (wrap_up (by omega))), ?_⟩ | refine ⟨.same rfl, ?_⟩ | refine ⟨.any _, ?_⟩)) ⟨⟨rfl, rfl, rfl, .same rfl, rfl, .same rfl, rfl, .same rfl, rfl, trivial⟩, ⟨rfl, rfl, rfl, .same rfl, rfl, .same rfl, rfl, .same rfl, rfl, .same rfl, rfl, .same rfl, rfl, trivial⟩, trivial⟩ rfl rfl) fun s' h => ⟨0, by omega, h⟩) ?_
          rintro m x ⟨i, him, rfl⟩
          conv => whnf
          repeat (first | (refine Conf.mk (by kernel_rfl) ?_; conv => whnf) | (refine SeqOk.go ?_; conv => whnf))
          refine ⟨fun h3 => ?_, fun h3 => ?_⟩
          · have hi := lt_of_len h3
            have hii : (appE (appAns s one tOne) two tTwo).links[i] ∈ headsOf two (appAns s one tOne).log := by have := List.getElem_mem hi; rw [← hlk]; exact this
            have hpii := past_in hQ.log (x := (appE (appAns s one tOne) two tTwo).links[i]) (by
              obtain ⟨e, he, h1, _⟩ := (mem_headsOf hR.log hc).1 hii
              exact ⟨e, hsub e he, h1⟩)
            conv => whnf
            repeat (first | (refine Conf.mk (by kernel_rfl) ?_; conv => whnf) | (refine SeqOk.go ?_; conv => whnf))
            refine LoopOk.hide fun Q2 hQ2 => ?_
            refine LoopOk.mk (fun m2 x => ∃ k, k + m2 = (appE (appAns s one tOne) two tTwo).links.length ∧ x = ⟨[(15, dInt k), (14, dInt i), (10, .ptr 0 0), (11, .ptr 1 0)], 2, [(0, .vars 41 3 [dInt (appAns (appAns s one tOne) two tTwo).region, .dat (.list ((appAns (appAns s one tOne) two tTwo).log.map Entry'.enc)), .dat (.list ((appAns (appAns s one tOne) two tTwo).waits.map Entry'.enc))] true), (1, .vars 35 5 [dInt (appE (appAns s one tOne) two tTwo).id.r, dInt (appE (appAns s one tOne) two tTwo).id.n, dInt (appE (appAns s one tOne) two tTwo).colors, .dat (.str (appE (appAns s one tOne) two tTwo).text), .dat (.list ((appE (appAns s one tOne) two tTwo).links.map Id.enc))] true)]⟩) (appE (appAns s one tOne) two tTwo).links.length (Into.mono (Into.to [0, 1] [(15, dInt (0 : Nat)), (14, dInt i), (10, .ptr 0 0), (11, .ptr 1 0)] [(0, .vars 41 3 [dInt (appAns (appAns s one tOne) two tTwo).region, .dat (.list ((appAns (appAns s one tOne) two tTwo).log.map Entry'.enc)), .dat (.list ((appAns (appAns s one tOne) two tTwo).waits.map Entry'.enc))] true), (1, .vars 35 5 [dInt (appE (appAns s one tOne) two tTwo).id.r, dInt (appE (appAns s one tOne) two tTwo).id.n, dInt (appE (appAns s one tOne) two tTwo).colors, .dat (.str (appE (appAns s one tOne) two tTwo).text), .dat (.list ((appE (appAns s one tOne) two tTwo).links.map Id.enc))] true)] (by repeat (first | exact trivial | refine ⟨.same (congrArg dInt (wrap_up (by omega))), ?_⟩ | refine ⟨.same rfl, ?_⟩ | refine ⟨.any _, ?_⟩)) ⟨⟨rfl, rfl, rfl, .same rfl, rfl, .same rfl, rfl, .same rfl, rfl, trivial⟩, ⟨rfl, rfl, rfl, .same rfl, rfl, .same rfl, rfl, .same rfl, rfl, .same rfl, rfl, .same rfl, rfl, trivial⟩, trivial⟩ rfl rfl) fun s' h => ⟨0, by omega, h⟩) ?_
            rintro m2 x ⟨k, hkm, rfl⟩
            conv => whnf
            repeat (first | (refine Conf.mk (by kernel_rfl) ?_; conv => whnf) | (refine SeqOk.go ?_; conv => whnf))
            refine ⟨fun h4 => ?_, fun h4 => ?_⟩
            · have hk := lt_of_len h4
              have hki : (appE (appAns s one tOne) two tTwo).links[k] ∈ headsOf two (appAns s one tOne).log := by have := List.getElem_mem hk; rw [← hlk]; exact this
              have hno : hasId (pastOfId (appAns (appAns s one tOne) two tTwo).log (appE (appAns s one tOne) two tTwo).links[i]) (appE (appAns s one tOne) two tTwo).links[k] = false := by
                rw [Bool.eq_false_iff]
                intro hk2
                have hk2 := hasId_iff.1 hk2
                rw [hv] at hk2
                exact heads_apart (hv ▸ hQ.log) hc hii hki hk2
              have hhn := hasId_ok (appE (appAns s one tOne) two tTwo).links[k] (pastOfId (appAns (appAns s one tOne) two tTwo).log (appE (appAns s one tOne) two tTwo).links[i]) (by have := pastOfId_len hQ.log (appE (appAns s one tOne) two tTwo).links[i]; omega)
              rw [hno] at hhn
              conv => whnf
              repeat (first | (refine Conf.mk (by kernel_rfl) ?_; conv => whnf) | (refine SeqOk.go ?_; conv => whnf))
              refine AtIdx.ofMap hi rfl ?_
              conv => whnf
              repeat (first | (refine Conf.mk (by kernel_rfl) ?_; conv => whnf) | (refine SeqOk.go ?_; conv => whnf))
              refine .data _ _ hpii rfl ?_
              conv => whnf
              repeat (first | (refine Conf.mk (by kernel_rfl) ?_; conv => whnf) | (refine SeqOk.go ?_; conv => whnf))
              refine BoolCase.no rfl ?_
              conv => whnf
              repeat (first | (refine Conf.mk (by kernel_rfl) ?_; conv => whnf) | (refine SeqOk.go ?_; conv => whnf))
              refine AtIdx.ofMap hk rfl ?_
              conv => whnf
              repeat (first | (refine Conf.mk (by kernel_rfl) ?_; conv => whnf) | (refine SeqOk.go ?_; conv => whnf))
              refine .data _ _ hhn.kb rfl ?_
              conv => whnf
              repeat (first | (refine Conf.mk (by kernel_rfl) ?_; conv => whnf) | (refine SeqOk.go ?_; conv => whnf))
              exact Into.mono (Into.to [0, 1] [(15, dInt (k + 1 : Nat)), (14, dInt i), (10, .ptr 0 0), (11, .ptr 1 0)] [(0, .vars 41 3 [dInt (appAns (appAns s one tOne) two tTwo).region, .dat (.list ((appAns (appAns s one tOne) two tTwo).log.map Entry'.enc)), .dat (.list ((appAns (appAns s one tOne) two tTwo).waits.map Entry'.enc))] true), (1, .vars 35 5 [dInt (appE (appAns s one tOne) two tTwo).id.r, dInt (appE (appAns s one tOne) two tTwo).id.n, dInt (appE (appAns s one tOne) two tTwo).colors, .dat (.str (appE (appAns s one tOne) two tTwo).text), .dat (.list ((appE (appAns s one tOne) two tTwo).links.map Id.enc))] true)] (by repeat (first | exact trivial | refine ⟨.same (congrArg dInt (wrap_up (by omega))), ?_⟩ | refine ⟨.same rfl, ?_⟩ | refine ⟨.any _, ?_⟩)) ⟨⟨rfl, rfl, rfl, .same rfl, rfl, .same rfl, rfl, .same rfl, rfl, trivial⟩, ⟨rfl, rfl, rfl, .same rfl, rfl, .same rfl, rfl, .same rfl, rfl, .same rfl, rfl, .same rfl, rfl, trivial⟩, trivial⟩ rfl rfl) fun s' h => ⟨m2 - 1, by omega, k + 1, by omega, h⟩
            · conv => whnf
              repeat (first | (refine Conf.mk (by kernel_rfl) ?_; conv => whnf) | (refine SeqOk.go ?_; conv => whnf))
              subst hQ2
              conv => whnf
              exact Into.mono (Into.to [0, 1] [(14, dInt (i + 1 : Nat)), (10, .ptr 0 0), (11, .ptr 1 0)] [(0, .vars 41 3 [dInt (appAns (appAns s one tOne) two tTwo).region, .dat (.list ((appAns (appAns s one tOne) two tTwo).log.map Entry'.enc)), .dat (.list ((appAns (appAns s one tOne) two tTwo).waits.map Entry'.enc))] true), (1, .vars 35 5 [dInt (appE (appAns s one tOne) two tTwo).id.r, dInt (appE (appAns s one tOne) two tTwo).id.n, dInt (appE (appAns s one tOne) two tTwo).colors, .dat (.str (appE (appAns s one tOne) two tTwo).text), .dat (.list ((appE (appAns s one tOne) two tTwo).links.map Id.enc))] true)] (by repeat (first | exact trivial | refine ⟨.same (congrArg dInt (wrap_up (by omega))), ?_⟩ | refine ⟨.same rfl, ?_⟩ | refine ⟨.any _, ?_⟩)) ⟨⟨rfl, rfl, rfl, .same rfl, rfl, .same rfl, rfl, .same rfl, rfl, trivial⟩, ⟨rfl, rfl, rfl, .same rfl, rfl, .same rfl, rfl, .same rfl, rfl, .same rfl, rfl, .same rfl, rfl, trivial⟩, trivial⟩ rfl rfl) fun s' h => ⟨m - 1, by omega, i + 1, by omega, h⟩
          · conv => whnf
            repeat (first | (refine Conf.mk (by kernel_rfl) ?_; conv => whnf) | (refine SeqOk.go ?_; conv => whnf))
            subst hQ1
            conv => whnf
            exact Ret.bool rfl
        · refine BoolCase.no (by simpa using hm) ?_
          conv => whnf
          repeat (first | (refine Conf.mk (by kernel_rfl) ?_; conv => whnf) | (refine SeqOk.go ?_; conv => whnf))
          refine LoopOk.hide fun Q1 hQ1 => ?_
          refine LoopOk.mk (fun m x => ∃ i, i + m = (appE (appAns s one tOne) two tTwo).links.length ∧ x = ⟨[(14, dInt i), (10, .ptr 0 0), (11, .ptr 1 0)], 2, [(0, .vars 41 3 [dInt (appAns (appAns s one tOne) two tTwo).region, .dat (.list ((appAns (appAns s one tOne) two tTwo).log.map Entry'.enc)), .dat (.list ((appAns (appAns s one tOne) two tTwo).waits.map Entry'.enc))] true), (1, .vars 35 5 [dInt (appE (appAns s one tOne) two tTwo).id.r, dInt (appE (appAns s one tOne) two tTwo).id.n, dInt (appE (appAns s one tOne) two tTwo).colors, .dat (.str (appE (appAns s one tOne) two tTwo).text), .dat (.list ((appE (appAns s one tOne) two tTwo).links.map Id.enc))] true)]⟩) (appE (appAns s one tOne) two tTwo).links.length (Into.mono (Into.to [3, 4] [(14, dInt (0 : Nat)), (10, .ptr 0 0), (11, .ptr 1 0)] [(0, .vars 41 3 [dInt (appAns (appAns s one tOne) two tTwo).region, .dat (.list ((appAns (appAns s one tOne) two tTwo).log.map Entry'.enc)), .dat (.list ((appAns (appAns s one tOne) two tTwo).waits.map Entry'.enc))] true), (1, .vars 35 5 [dInt (appE (appAns s one tOne) two tTwo).id.r, dInt (appE (appAns s one tOne) two tTwo).id.n, dInt (appE (appAns s one tOne) two tTwo).colors, .dat (.str (appE (appAns s one tOne) two tTwo).text), .dat (.list ((appE (appAns s one tOne) two tTwo).links.map Id.enc))] true)] (by repeat (first | exact trivial | refine ⟨.same (congrArg dInt (wrap_up (by omega))), ?_⟩ | refine ⟨.same rfl, ?_⟩ | refine ⟨.any _, ?_⟩)) ⟨⟨rfl, rfl, rfl, .same rfl, rfl, .same rfl, rfl, .same rfl, rfl, trivial⟩, ⟨rfl, rfl, rfl, .same rfl, rfl, .same rfl, rfl, .same rfl, rfl, .same rfl, rfl, .same rfl, rfl, trivial⟩, trivial⟩ rfl rfl) fun s' h => ⟨0, by omega, h⟩) ?_
          rintro m x ⟨i, him, rfl⟩
          conv => whnf
          repeat (first | (refine Conf.mk (by kernel_rfl) ?_; conv => whnf) | (refine SeqOk.go ?_; conv => whnf))
          refine ⟨fun h3 => ?_, fun h3 => ?_⟩
          · have hi := lt_of_len h3
            have hii : (appE (appAns s one tOne) two tTwo).links[i] ∈ headsOf two (appAns s one tOne).log := by have := List.getElem_mem hi; rw [← hlk]; exact this
            have hpii := past_in hQ.log (x := (appE (appAns s one tOne) two tTwo).links[i]) (by
              obtain ⟨e, he, h1, _⟩ := (mem_headsOf hR.log hc).1 hii
              exact ⟨e, hsub e he, h1⟩)
            conv => whnf
            repeat (first | (refine Conf.mk (by kernel_rfl) ?_; conv => whnf) | (refine SeqOk.go ?_; conv => whnf))
            refine LoopOk.hide fun Q2 hQ2 => ?_
            refine LoopOk.mk (fun m2 x => ∃ k, k + m2 = (appE (appAns s one tOne) two tTwo).links.length ∧ x = ⟨[(15, dInt k), (14, dInt i), (10, .ptr 0 0), (11, .ptr 1 0)], 2, [(0, .vars 41 3 [dInt (appAns (appAns s one tOne) two tTwo).region, .dat (.list ((appAns (appAns s one tOne) two tTwo).log.map Entry'.enc)), .dat (.list ((appAns (appAns s one tOne) two tTwo).waits.map Entry'.enc))] true), (1, .vars 35 5 [dInt (appE (appAns s one tOne) two tTwo).id.r, dInt (appE (appAns s one tOne) two tTwo).id.n, dInt (appE (appAns s one tOne) two tTwo).colors, .dat (.str (appE (appAns s one tOne) two tTwo).text), .dat (.list ((appE (appAns s one tOne) two tTwo).links.map Id.enc))] true)]⟩) (appE (appAns s one tOne) two tTwo).links.length (Into.mono (Into.to [0, 1] [(15, dInt (0 : Nat)), (14, dInt i), (10, .ptr 0 0), (11, .ptr 1 0)] [(0, .vars 41 3 [dInt (appAns (appAns s one tOne) two tTwo).region, .dat (.list ((appAns (appAns s one tOne) two tTwo).log.map Entry'.enc)), .dat (.list ((appAns (appAns s one tOne) two tTwo).waits.map Entry'.enc))] true), (1, .vars 35 5 [dInt (appE (appAns s one tOne) two tTwo).id.r, dInt (appE (appAns s one tOne) two tTwo).id.n, dInt (appE (appAns s one tOne) two tTwo).colors, .dat (.str (appE (appAns s one tOne) two tTwo).text), .dat (.list ((appE (appAns s one tOne) two tTwo).links.map Id.enc))] true)] (by repeat (first | exact trivial | refine ⟨.same (congrArg dInt (wrap_up (by omega))), ?_⟩ | refine ⟨.same rfl, ?_⟩ | refine ⟨.any _, ?_⟩)) ⟨⟨rfl, rfl, rfl, .same rfl, rfl, .same rfl, rfl, .same rfl, rfl, trivial⟩, ⟨rfl, rfl, rfl, .same rfl, rfl, .same rfl, rfl, .same rfl, rfl, .same rfl, rfl, .same rfl, rfl, trivial⟩, trivial⟩ rfl rfl) fun s' h => ⟨0, by omega, h⟩) ?_
            rintro m2 x ⟨k, hkm, rfl⟩
            conv => whnf
            repeat (first | (refine Conf.mk (by kernel_rfl) ?_; conv => whnf) | (refine SeqOk.go ?_; conv => whnf))
            refine ⟨fun h4 => ?_, fun h4 => ?_⟩
            · have hk := lt_of_len h4
              have hki : (appE (appAns s one tOne) two tTwo).links[k] ∈ headsOf two (appAns s one tOne).log := by have := List.getElem_mem hk; rw [← hlk]; exact this
              have hno : hasId (pastOfId (appAns (appAns s one tOne) two tTwo).log (appE (appAns s one tOne) two tTwo).links[i]) (appE (appAns s one tOne) two tTwo).links[k] = false := by
                rw [Bool.eq_false_iff]
                intro hk2
                have hk2 := hasId_iff.1 hk2
                rw [hv] at hk2
                exact heads_apart (hv ▸ hQ.log) hc hii hki hk2
              have hhn := hasId_ok (appE (appAns s one tOne) two tTwo).links[k] (pastOfId (appAns (appAns s one tOne) two tTwo).log (appE (appAns s one tOne) two tTwo).links[i]) (by have := pastOfId_len hQ.log (appE (appAns s one tOne) two tTwo).links[i]; omega)
              rw [hno] at hhn
              conv => whnf
              repeat (first | (refine Conf.mk (by kernel_rfl) ?_; conv => whnf) | (refine SeqOk.go ?_; conv => whnf))
              refine AtIdx.ofMap hi rfl ?_
              conv => whnf
              repeat (first | (refine Conf.mk (by kernel_rfl) ?_; conv => whnf) | (refine SeqOk.go ?_; conv => whnf))
              refine .data _ _ hpii rfl ?_
              conv => whnf
              repeat (first | (refine Conf.mk (by kernel_rfl) ?_; conv => whnf) | (refine SeqOk.go ?_; conv => whnf))
              refine BoolCase.no rfl ?_
              conv => whnf
              repeat (first | (refine Conf.mk (by kernel_rfl) ?_; conv => whnf) | (refine SeqOk.go ?_; conv => whnf))
              refine AtIdx.ofMap hk rfl ?_
              conv => whnf
              repeat (first | (refine Conf.mk (by kernel_rfl) ?_; conv => whnf) | (refine SeqOk.go ?_; conv => whnf))
              refine .data _ _ hhn.kb rfl ?_
              conv => whnf
              repeat (first | (refine Conf.mk (by kernel_rfl) ?_; conv => whnf) | (refine SeqOk.go ?_; conv => whnf))
              exact Into.mono (Into.to [0, 1] [(15, dInt (k + 1 : Nat)), (14, dInt i), (10, .ptr 0 0), (11, .ptr 1 0)] [(0, .vars 41 3 [dInt (appAns (appAns s one tOne) two tTwo).region, .dat (.list ((appAns (appAns s one tOne) two tTwo).log.map Entry'.enc)), .dat (.list ((appAns (appAns s one tOne) two tTwo).waits.map Entry'.enc))] true), (1, .vars 35 5 [dInt (appE (appAns s one tOne) two tTwo).id.r, dInt (appE (appAns s one tOne) two tTwo).id.n, dInt (appE (appAns s one tOne) two tTwo).colors, .dat (.str (appE (appAns s one tOne) two tTwo).text), .dat (.list ((appE (appAns s one tOne) two tTwo).links.map Id.enc))] true)] (by repeat (first | exact trivial | refine ⟨.same (congrArg dInt (wrap_up (by omega))), ?_⟩ | refine ⟨.same rfl, ?_⟩ | refine ⟨.any _, ?_⟩)) ⟨⟨rfl, rfl, rfl, .same rfl, rfl, .same rfl, rfl, .same rfl, rfl, trivial⟩, ⟨rfl, rfl, rfl, .same rfl, rfl, .same rfl, rfl, .same rfl, rfl, .same rfl, rfl, .same rfl, rfl, trivial⟩, trivial⟩ rfl rfl) fun s' h => ⟨m2 - 1, by omega, k + 1, by omega, h⟩
            · conv => whnf
              repeat (first | (refine Conf.mk (by kernel_rfl) ?_; conv => whnf) | (refine SeqOk.go ?_; conv => whnf))
              subst hQ2
              conv => whnf
              exact Into.mono (Into.to [0, 1] [(14, dInt (i + 1 : Nat)), (10, .ptr 0 0), (11, .ptr 1 0)] [(0, .vars 41 3 [dInt (appAns (appAns s one tOne) two tTwo).region, .dat (.list ((appAns (appAns s one tOne) two tTwo).log.map Entry'.enc)), .dat (.list ((appAns (appAns s one tOne) two tTwo).waits.map Entry'.enc))] true), (1, .vars 35 5 [dInt (appE (appAns s one tOne) two tTwo).id.r, dInt (appE (appAns s one tOne) two tTwo).id.n, dInt (appE (appAns s one tOne) two tTwo).colors, .dat (.str (appE (appAns s one tOne) two tTwo).text), .dat (.list ((appE (appAns s one tOne) two tTwo).links.map Id.enc))] true)] (by repeat (first | exact trivial | refine ⟨.same (congrArg dInt (wrap_up (by omega))), ?_⟩ | refine ⟨.same rfl, ?_⟩ | refine ⟨.any _, ?_⟩)) ⟨⟨rfl, rfl, rfl, .same rfl, rfl, .same rfl, rfl, .same rfl, rfl, trivial⟩, ⟨rfl, rfl, rfl, .same rfl, rfl, .same rfl, rfl, .same rfl, rfl, .same rfl, rfl, .same rfl, rfl, trivial⟩, trivial⟩ rfl rfl) fun s' h => ⟨m - 1, by omega, i + 1, by omega, h⟩
          · conv => whnf
            repeat (first | (refine Conf.mk (by kernel_rfl) ?_; conv => whnf) | (refine SeqOk.go ?_; conv => whnf))
            subst hQ1
            conv => whnf
            exact Ret.bool rfl
      · refine ⟨fun h => ?_, fun h => ?_⟩
        · conv => whnf
          repeat (first | (refine Conf.mk (by kernel_rfl) ?_; conv => whnf) | (refine SeqOk.go ?_; conv => whnf))
          refine BoolCase.no (by simpa using hw) ?_
          conv => whnf
          repeat (first | (refine Conf.mk (by kernel_rfl) ?_; conv => whnf) | (refine SeqOk.go ?_; conv => whnf))
          refine .data _ _ hme rfl ?_
          conv => whnf
          repeat (first | (refine Conf.mk (by kernel_rfl) ?_; conv => whnf) | (refine SeqOk.go ?_; conv => whnf))
          by_cases hm : meets one two = true
          · have hin : hasId (pastOfId (appAns (appAns s one tOne) two tTwo).log (appE (appAns s one tOne) two tTwo).id) (appE s one tOne).id = true := hasId_iff.2 ((mem_pastOfId hQ.log).2 (by rw [hY]; exact app_links hB hxm (by rw [hxc]; exact hm)))
            rw [hin] at hh2
            refine BoolCase.yes hm ?_
            conv => whnf
            repeat (first | (refine Conf.mk (by kernel_rfl) ?_; conv => whnf) | (refine SeqOk.go ?_; conv => whnf))
            refine .data _ _ hh2.kb rfl ?_
            conv => whnf
            repeat (first | (refine Conf.mk (by kernel_rfl) ?_; conv => whnf) | (refine SeqOk.go ?_; conv => whnf))
            refine LoopOk.hide fun Q1 hQ1 => ?_
            refine LoopOk.mk (fun m x => ∃ i, i + m = (appE (appAns s one tOne) two tTwo).links.length ∧ x = ⟨[(14, dInt i), (10, .ptr 0 0), (11, .ptr 1 0)], 2, [(0, .vars 41 3 [dInt (appAns (appAns s one tOne) two tTwo).region, .dat (.list ((appAns (appAns s one tOne) two tTwo).log.map Entry'.enc)), .dat (.list ((appAns (appAns s one tOne) two tTwo).waits.map Entry'.enc))] true), (1, .vars 35 5 [dInt (appE (appAns s one tOne) two tTwo).id.r, dInt (appE (appAns s one tOne) two tTwo).id.n, dInt (appE (appAns s one tOne) two tTwo).colors, .dat (.str (appE (appAns s one tOne) two tTwo).text), .dat (.list ((appE (appAns s one tOne) two tTwo).links.map Id.enc))] true)]⟩) (appE (appAns s one tOne) two tTwo).links.length (Into.mono (Into.to [3, 4] [(14, dInt (0 : Nat)), (10, .ptr 0 0), (11, .ptr 1 0)] [(0, .vars 41 3 [dInt (appAns (appAns s one tOne) two tTwo).region, .dat (.list ((appAns (appAns s one tOne) two tTwo).log.map Entry'.enc)), .dat (.list ((appAns (appAns s one tOne) two tTwo).waits.map Entry'.enc))] true), (1, .vars 35 5 [dInt (appE (appAns s one tOne) two tTwo).id.r, dInt (appE (appAns s one tOne) two tTwo).id.n, dInt (appE (appAns s one tOne) two tTwo).colors, .dat (.str (appE (appAns s one tOne) two tTwo).text), .dat (.list ((appE (appAns s one tOne) two tTwo).links.map Id.enc))] true)] (by repeat (first | exact trivial | refine ⟨.same (congrArg dInt (wrap_up (by omega))), ?_⟩ | refine ⟨.same rfl, ?_⟩ | refine ⟨.any _, ?_⟩)) ⟨⟨rfl, rfl, rfl, .same rfl, rfl, .same rfl, rfl, .same rfl, rfl, trivial⟩, ⟨rfl, rfl, rfl, .same rfl, rfl, .same rfl, rfl, .same rfl, rfl, .same rfl, rfl, .same rfl, rfl, trivial⟩, trivial⟩ rfl rfl) fun s' h => ⟨0, by omega, h⟩) ?_
            rintro m x ⟨i, him, rfl⟩
            conv => whnf
            repeat (first | (refine Conf.mk (by kernel_rfl) ?_; conv => whnf) | (refine SeqOk.go ?_; conv => whnf))
            refine ⟨fun h3 => ?_, fun h3 => ?_⟩
            · have hi := lt_of_len h3
              have hii : (appE (appAns s one tOne) two tTwo).links[i] ∈ headsOf two (appAns s one tOne).log := by have := List.getElem_mem hi; rw [← hlk]; exact this
              have hpii := past_in hQ.log (x := (appE (appAns s one tOne) two tTwo).links[i]) (by
                obtain ⟨e, he, h1, _⟩ := (mem_headsOf hR.log hc).1 hii
                exact ⟨e, hsub e he, h1⟩)
              conv => whnf
              repeat (first | (refine Conf.mk (by kernel_rfl) ?_; conv => whnf) | (refine SeqOk.go ?_; conv => whnf))
              refine LoopOk.hide fun Q2 hQ2 => ?_
              refine LoopOk.mk (fun m2 x => ∃ k, k + m2 = (appE (appAns s one tOne) two tTwo).links.length ∧ x = ⟨[(15, dInt k), (14, dInt i), (10, .ptr 0 0), (11, .ptr 1 0)], 2, [(0, .vars 41 3 [dInt (appAns (appAns s one tOne) two tTwo).region, .dat (.list ((appAns (appAns s one tOne) two tTwo).log.map Entry'.enc)), .dat (.list ((appAns (appAns s one tOne) two tTwo).waits.map Entry'.enc))] true), (1, .vars 35 5 [dInt (appE (appAns s one tOne) two tTwo).id.r, dInt (appE (appAns s one tOne) two tTwo).id.n, dInt (appE (appAns s one tOne) two tTwo).colors, .dat (.str (appE (appAns s one tOne) two tTwo).text), .dat (.list ((appE (appAns s one tOne) two tTwo).links.map Id.enc))] true)]⟩) (appE (appAns s one tOne) two tTwo).links.length (Into.mono (Into.to [0, 1] [(15, dInt (0 : Nat)), (14, dInt i), (10, .ptr 0 0), (11, .ptr 1 0)] [(0, .vars 41 3 [dInt (appAns (appAns s one tOne) two tTwo).region, .dat (.list ((appAns (appAns s one tOne) two tTwo).log.map Entry'.enc)), .dat (.list ((appAns (appAns s one tOne) two tTwo).waits.map Entry'.enc))] true), (1, .vars 35 5 [dInt (appE (appAns s one tOne) two tTwo).id.r, dInt (appE (appAns s one tOne) two tTwo).id.n, dInt (appE (appAns s one tOne) two tTwo).colors, .dat (.str (appE (appAns s one tOne) two tTwo).text), .dat (.list ((appE (appAns s one tOne) two tTwo).links.map Id.enc))] true)] (by repeat (first | exact trivial | refine ⟨.same (congrArg dInt (wrap_up (by omega))), ?_⟩ | refine ⟨.same rfl, ?_⟩ | refine ⟨.any _, ?_⟩)) ⟨⟨rfl, rfl, rfl, .same rfl, rfl, .same rfl, rfl, .same rfl, rfl, trivial⟩, ⟨rfl, rfl, rfl, .same rfl, rfl, .same rfl, rfl, .same rfl, rfl, .same rfl, rfl, .same rfl, rfl, trivial⟩, trivial⟩ rfl rfl) fun s' h => ⟨0, by omega, h⟩) ?_
              rintro m2 x ⟨k, hkm, rfl⟩
              conv => whnf
              repeat (first | (refine Conf.mk (by kernel_rfl) ?_; conv => whnf) | (refine SeqOk.go ?_; conv => whnf))
              refine ⟨fun h4 => ?_, fun h4 => ?_⟩
              · have hk := lt_of_len h4
                have hki : (appE (appAns s one tOne) two tTwo).links[k] ∈ headsOf two (appAns s one tOne).log := by have := List.getElem_mem hk; rw [← hlk]; exact this
                have hno : hasId (pastOfId (appAns (appAns s one tOne) two tTwo).log (appE (appAns s one tOne) two tTwo).links[i]) (appE (appAns s one tOne) two tTwo).links[k] = false := by
                  rw [Bool.eq_false_iff]
                  intro hk2
                  have hk2 := hasId_iff.1 hk2
                  rw [hv] at hk2
                  exact heads_apart (hv ▸ hQ.log) hc hii hki hk2
                have hhn := hasId_ok (appE (appAns s one tOne) two tTwo).links[k] (pastOfId (appAns (appAns s one tOne) two tTwo).log (appE (appAns s one tOne) two tTwo).links[i]) (by have := pastOfId_len hQ.log (appE (appAns s one tOne) two tTwo).links[i]; omega)
                rw [hno] at hhn
                conv => whnf
                repeat (first | (refine Conf.mk (by kernel_rfl) ?_; conv => whnf) | (refine SeqOk.go ?_; conv => whnf))
                refine AtIdx.ofMap hi rfl ?_
                conv => whnf
                repeat (first | (refine Conf.mk (by kernel_rfl) ?_; conv => whnf) | (refine SeqOk.go ?_; conv => whnf))
                refine .data _ _ hpii rfl ?_
                conv => whnf
                repeat (first | (refine Conf.mk (by kernel_rfl) ?_; conv => whnf) | (refine SeqOk.go ?_; conv => whnf))
                refine BoolCase.no rfl ?_
                conv => whnf
                repeat (first | (refine Conf.mk (by kernel_rfl) ?_; conv => whnf) | (refine SeqOk.go ?_; conv => whnf))
                refine AtIdx.ofMap hk rfl ?_
                conv => whnf
                repeat (first | (refine Conf.mk (by kernel_rfl) ?_; conv => whnf) | (refine SeqOk.go ?_; conv => whnf))
                refine .data _ _ hhn.kb rfl ?_
                conv => whnf
                repeat (first | (refine Conf.mk (by kernel_rfl) ?_; conv => whnf) | (refine SeqOk.go ?_; conv => whnf))
                exact Into.mono (Into.to [0, 1] [(15, dInt (k + 1 : Nat)), (14, dInt i), (10, .ptr 0 0), (11, .ptr 1 0)] [(0, .vars 41 3 [dInt (appAns (appAns s one tOne) two tTwo).region, .dat (.list ((appAns (appAns s one tOne) two tTwo).log.map Entry'.enc)), .dat (.list ((appAns (appAns s one tOne) two tTwo).waits.map Entry'.enc))] true), (1, .vars 35 5 [dInt (appE (appAns s one tOne) two tTwo).id.r, dInt (appE (appAns s one tOne) two tTwo).id.n, dInt (appE (appAns s one tOne) two tTwo).colors, .dat (.str (appE (appAns s one tOne) two tTwo).text), .dat (.list ((appE (appAns s one tOne) two tTwo).links.map Id.enc))] true)] (by repeat (first | exact trivial | refine ⟨.same (congrArg dInt (wrap_up (by omega))), ?_⟩ | refine ⟨.same rfl, ?_⟩ | refine ⟨.any _, ?_⟩)) ⟨⟨rfl, rfl, rfl, .same rfl, rfl, .same rfl, rfl, .same rfl, rfl, trivial⟩, ⟨rfl, rfl, rfl, .same rfl, rfl, .same rfl, rfl, .same rfl, rfl, .same rfl, rfl, .same rfl, rfl, trivial⟩, trivial⟩ rfl rfl) fun s' h => ⟨m2 - 1, by omega, k + 1, by omega, h⟩
              · conv => whnf
                repeat (first | (refine Conf.mk (by kernel_rfl) ?_; conv => whnf) | (refine SeqOk.go ?_; conv => whnf))
                subst hQ2
                conv => whnf
                exact Into.mono (Into.to [0, 1] [(14, dInt (i + 1 : Nat)), (10, .ptr 0 0), (11, .ptr 1 0)] [(0, .vars 41 3 [dInt (appAns (appAns s one tOne) two tTwo).region, .dat (.list ((appAns (appAns s one tOne) two tTwo).log.map Entry'.enc)), .dat (.list ((appAns (appAns s one tOne) two tTwo).waits.map Entry'.enc))] true), (1, .vars 35 5 [dInt (appE (appAns s one tOne) two tTwo).id.r, dInt (appE (appAns s one tOne) two tTwo).id.n, dInt (appE (appAns s one tOne) two tTwo).colors, .dat (.str (appE (appAns s one tOne) two tTwo).text), .dat (.list ((appE (appAns s one tOne) two tTwo).links.map Id.enc))] true)] (by repeat (first | exact trivial | refine ⟨.same (congrArg dInt (wrap_up (by omega))), ?_⟩ | refine ⟨.same rfl, ?_⟩ | refine ⟨.any _, ?_⟩)) ⟨⟨rfl, rfl, rfl, .same rfl, rfl, .same rfl, rfl, .same rfl, rfl, trivial⟩, ⟨rfl, rfl, rfl, .same rfl, rfl, .same rfl, rfl, .same rfl, rfl, .same rfl, rfl, .same rfl, rfl, trivial⟩, trivial⟩ rfl rfl) fun s' h => ⟨m - 1, by omega, i + 1, by omega, h⟩
            · conv => whnf
              repeat (first | (refine Conf.mk (by kernel_rfl) ?_; conv => whnf) | (refine SeqOk.go ?_; conv => whnf))
              subst hQ1
              conv => whnf
              exact Ret.bool rfl
          · refine BoolCase.no (by simpa using hm) ?_
            conv => whnf
            repeat (first | (refine Conf.mk (by kernel_rfl) ?_; conv => whnf) | (refine SeqOk.go ?_; conv => whnf))
            refine LoopOk.hide fun Q1 hQ1 => ?_
            refine LoopOk.mk (fun m x => ∃ i, i + m = (appE (appAns s one tOne) two tTwo).links.length ∧ x = ⟨[(14, dInt i), (10, .ptr 0 0), (11, .ptr 1 0)], 2, [(0, .vars 41 3 [dInt (appAns (appAns s one tOne) two tTwo).region, .dat (.list ((appAns (appAns s one tOne) two tTwo).log.map Entry'.enc)), .dat (.list ((appAns (appAns s one tOne) two tTwo).waits.map Entry'.enc))] true), (1, .vars 35 5 [dInt (appE (appAns s one tOne) two tTwo).id.r, dInt (appE (appAns s one tOne) two tTwo).id.n, dInt (appE (appAns s one tOne) two tTwo).colors, .dat (.str (appE (appAns s one tOne) two tTwo).text), .dat (.list ((appE (appAns s one tOne) two tTwo).links.map Id.enc))] true)]⟩) (appE (appAns s one tOne) two tTwo).links.length (Into.mono (Into.to [3, 4] [(14, dInt (0 : Nat)), (10, .ptr 0 0), (11, .ptr 1 0)] [(0, .vars 41 3 [dInt (appAns (appAns s one tOne) two tTwo).region, .dat (.list ((appAns (appAns s one tOne) two tTwo).log.map Entry'.enc)), .dat (.list ((appAns (appAns s one tOne) two tTwo).waits.map Entry'.enc))] true), (1, .vars 35 5 [dInt (appE (appAns s one tOne) two tTwo).id.r, dInt (appE (appAns s one tOne) two tTwo).id.n, dInt (appE (appAns s one tOne) two tTwo).colors, .dat (.str (appE (appAns s one tOne) two tTwo).text), .dat (.list ((appE (appAns s one tOne) two tTwo).links.map Id.enc))] true)] (by repeat (first | exact trivial | refine ⟨.same (congrArg dInt (wrap_up (by omega))), ?_⟩ | refine ⟨.same rfl, ?_⟩ | refine ⟨.any _, ?_⟩)) ⟨⟨rfl, rfl, rfl, .same rfl, rfl, .same rfl, rfl, .same rfl, rfl, trivial⟩, ⟨rfl, rfl, rfl, .same rfl, rfl, .same rfl, rfl, .same rfl, rfl, .same rfl, rfl, .same rfl, rfl, trivial⟩, trivial⟩ rfl rfl) fun s' h => ⟨0, by omega, h⟩) ?_
            rintro m x ⟨i, him, rfl⟩
            conv => whnf
            repeat (first | (refine Conf.mk (by kernel_rfl) ?_; conv => whnf) | (refine SeqOk.go ?_; conv => whnf))
            refine ⟨fun h3 => ?_, fun h3 => ?_⟩
            · have hi := lt_of_len h3
              have hii : (appE (appAns s one tOne) two tTwo).links[i] ∈ headsOf two (appAns s one tOne).log := by have := List.getElem_mem hi; rw [← hlk]; exact this
              have hpii := past_in hQ.log (x := (appE (appAns s one tOne) two tTwo).links[i]) (by
                obtain ⟨e, he, h1, _⟩ := (mem_headsOf hR.log hc).1 hii
                exact ⟨e, hsub e he, h1⟩)
              conv => whnf
              repeat (first | (refine Conf.mk (by kernel_rfl) ?_; conv => whnf) | (refine SeqOk.go ?_; conv => whnf))
              refine LoopOk.hide fun Q2 hQ2 => ?_
              refine LoopOk.mk (fun m2 x => ∃ k, k + m2 = (appE (appAns s one tOne) two tTwo).links.length ∧ x = ⟨[(15, dInt k), (14, dInt i), (10, .ptr 0 0), (11, .ptr 1 0)], 2, [(0, .vars 41 3 [dInt (appAns (appAns s one tOne) two tTwo).region, .dat (.list ((appAns (appAns s one tOne) two tTwo).log.map Entry'.enc)), .dat (.list ((appAns (appAns s one tOne) two tTwo).waits.map Entry'.enc))] true), (1, .vars 35 5 [dInt (appE (appAns s one tOne) two tTwo).id.r, dInt (appE (appAns s one tOne) two tTwo).id.n, dInt (appE (appAns s one tOne) two tTwo).colors, .dat (.str (appE (appAns s one tOne) two tTwo).text), .dat (.list ((appE (appAns s one tOne) two tTwo).links.map Id.enc))] true)]⟩) (appE (appAns s one tOne) two tTwo).links.length (Into.mono (Into.to [0, 1] [(15, dInt (0 : Nat)), (14, dInt i), (10, .ptr 0 0), (11, .ptr 1 0)] [(0, .vars 41 3 [dInt (appAns (appAns s one tOne) two tTwo).region, .dat (.list ((appAns (appAns s one tOne) two tTwo).log.map Entry'.enc)), .dat (.list ((appAns (appAns s one tOne) two tTwo).waits.map Entry'.enc))] true), (1, .vars 35 5 [dInt (appE (appAns s one tOne) two tTwo).id.r, dInt (appE (appAns s one tOne) two tTwo).id.n, dInt (appE (appAns s one tOne) two tTwo).colors, .dat (.str (appE (appAns s one tOne) two tTwo).text), .dat (.list ((appE (appAns s one tOne) two tTwo).links.map Id.enc))] true)] (by repeat (first | exact trivial | refine ⟨.same (congrArg dInt (wrap_up (by omega))), ?_⟩ | refine ⟨.same rfl, ?_⟩ | refine ⟨.any _, ?_⟩)) ⟨⟨rfl, rfl, rfl, .same rfl, rfl, .same rfl, rfl, .same rfl, rfl, trivial⟩, ⟨rfl, rfl, rfl, .same rfl, rfl, .same rfl, rfl, .same rfl, rfl, .same rfl, rfl, .same rfl, rfl, trivial⟩, trivial⟩ rfl rfl) fun s' h => ⟨0, by omega, h⟩) ?_
              rintro m2 x ⟨k, hkm, rfl⟩
              conv => whnf
              repeat (first | (refine Conf.mk (by kernel_rfl) ?_; conv => whnf) | (refine SeqOk.go ?_; conv => whnf))
              refine ⟨fun h4 => ?_, fun h4 => ?_⟩
              · have hk := lt_of_len h4
                have hki : (appE (appAns s one tOne) two tTwo).links[k] ∈ headsOf two (appAns s one tOne).log := by have := List.getElem_mem hk; rw [← hlk]; exact this
                have hno : hasId (pastOfId (appAns (appAns s one tOne) two tTwo).log (appE (appAns s one tOne) two tTwo).links[i]) (appE (appAns s one tOne) two tTwo).links[k] = false := by
                  rw [Bool.eq_false_iff]
                  intro hk2
                  have hk2 := hasId_iff.1 hk2
                  rw [hv] at hk2
                  exact heads_apart (hv ▸ hQ.log) hc hii hki hk2
                have hhn := hasId_ok (appE (appAns s one tOne) two tTwo).links[k] (pastOfId (appAns (appAns s one tOne) two tTwo).log (appE (appAns s one tOne) two tTwo).links[i]) (by have := pastOfId_len hQ.log (appE (appAns s one tOne) two tTwo).links[i]; omega)
                rw [hno] at hhn
                conv => whnf
                repeat (first | (refine Conf.mk (by kernel_rfl) ?_; conv => whnf) | (refine SeqOk.go ?_; conv => whnf))
                refine AtIdx.ofMap hi rfl ?_
                conv => whnf
                repeat (first | (refine Conf.mk (by kernel_rfl) ?_; conv => whnf) | (refine SeqOk.go ?_; conv => whnf))
                refine .data _ _ hpii rfl ?_
                conv => whnf
                repeat (first | (refine Conf.mk (by kernel_rfl) ?_; conv => whnf) | (refine SeqOk.go ?_; conv => whnf))
                refine BoolCase.no rfl ?_
                conv => whnf
                repeat (first | (refine Conf.mk (by kernel_rfl) ?_; conv => whnf) | (refine SeqOk.go ?_; conv => whnf))
                refine AtIdx.ofMap hk rfl ?_
                conv => whnf
                repeat (first | (refine Conf.mk (by kernel_rfl) ?_; conv => whnf) | (refine SeqOk.go ?_; conv => whnf))
                refine .data _ _ hhn.kb rfl ?_
                conv => whnf
                repeat (first | (refine Conf.mk (by kernel_rfl) ?_; conv => whnf) | (refine SeqOk.go ?_; conv => whnf))
                exact Into.mono (Into.to [0, 1] [(15, dInt (k + 1 : Nat)), (14, dInt i), (10, .ptr 0 0), (11, .ptr 1 0)] [(0, .vars 41 3 [dInt (appAns (appAns s one tOne) two tTwo).region, .dat (.list ((appAns (appAns s one tOne) two tTwo).log.map Entry'.enc)), .dat (.list ((appAns (appAns s one tOne) two tTwo).waits.map Entry'.enc))] true), (1, .vars 35 5 [dInt (appE (appAns s one tOne) two tTwo).id.r, dInt (appE (appAns s one tOne) two tTwo).id.n, dInt (appE (appAns s one tOne) two tTwo).colors, .dat (.str (appE (appAns s one tOne) two tTwo).text), .dat (.list ((appE (appAns s one tOne) two tTwo).links.map Id.enc))] true)] (by repeat (first | exact trivial | refine ⟨.same (congrArg dInt (wrap_up (by omega))), ?_⟩ | refine ⟨.same rfl, ?_⟩ | refine ⟨.any _, ?_⟩)) ⟨⟨rfl, rfl, rfl, .same rfl, rfl, .same rfl, rfl, .same rfl, rfl, trivial⟩, ⟨rfl, rfl, rfl, .same rfl, rfl, .same rfl, rfl, .same rfl, rfl, .same rfl, rfl, .same rfl, rfl, trivial⟩, trivial⟩ rfl rfl) fun s' h => ⟨m2 - 1, by omega, k + 1, by omega, h⟩
              · conv => whnf
                repeat (first | (refine Conf.mk (by kernel_rfl) ?_; conv => whnf) | (refine SeqOk.go ?_; conv => whnf))
                subst hQ2
                conv => whnf
                exact Into.mono (Into.to [0, 1] [(14, dInt (i + 1 : Nat)), (10, .ptr 0 0), (11, .ptr 1 0)] [(0, .vars 41 3 [dInt (appAns (appAns s one tOne) two tTwo).region, .dat (.list ((appAns (appAns s one tOne) two tTwo).log.map Entry'.enc)), .dat (.list ((appAns (appAns s one tOne) two tTwo).waits.map Entry'.enc))] true), (1, .vars 35 5 [dInt (appE (appAns s one tOne) two tTwo).id.r, dInt (appE (appAns s one tOne) two tTwo).id.n, dInt (appE (appAns s one tOne) two tTwo).colors, .dat (.str (appE (appAns s one tOne) two tTwo).text), .dat (.list ((appE (appAns s one tOne) two tTwo).links.map Id.enc))] true)] (by repeat (first | exact trivial | refine ⟨.same (congrArg dInt (wrap_up (by omega))), ?_⟩ | refine ⟨.same rfl, ?_⟩ | refine ⟨.any _, ?_⟩)) ⟨⟨rfl, rfl, rfl, .same rfl, rfl, .same rfl, rfl, .same rfl, rfl, trivial⟩, ⟨rfl, rfl, rfl, .same rfl, rfl, .same rfl, rfl, .same rfl, rfl, .same rfl, rfl, .same rfl, rfl, trivial⟩, trivial⟩ rfl rfl) fun s' h => ⟨m - 1, by omega, i + 1, by omega, h⟩
            · conv => whnf
              repeat (first | (refine Conf.mk (by kernel_rfl) ?_; conv => whnf) | (refine SeqOk.go ?_; conv => whnf))
              subst hQ1
              conv => whnf
              exact Ret.bool rfl
        · conv => whnf
          repeat (first | (refine Conf.mk (by kernel_rfl) ?_; conv => whnf) | (refine SeqOk.go ?_; conv => whnf))
          refine .data _ _ hme rfl ?_
          conv => whnf
          repeat (first | (refine Conf.mk (by kernel_rfl) ?_; conv => whnf) | (refine SeqOk.go ?_; conv => whnf))
          by_cases hm : meets one two = true
          · have hin : hasId (pastOfId (appAns (appAns s one tOne) two tTwo).log (appE (appAns s one tOne) two tTwo).id) (appE s one tOne).id = true := hasId_iff.2 ((mem_pastOfId hQ.log).2 (by rw [hY]; exact app_links hB hxm (by rw [hxc]; exact hm)))
            rw [hin] at hh2
            refine BoolCase.yes hm ?_
            conv => whnf
            repeat (first | (refine Conf.mk (by kernel_rfl) ?_; conv => whnf) | (refine SeqOk.go ?_; conv => whnf))
            refine .data _ _ hh2.kb rfl ?_
            conv => whnf
            repeat (first | (refine Conf.mk (by kernel_rfl) ?_; conv => whnf) | (refine SeqOk.go ?_; conv => whnf))
            refine LoopOk.hide fun Q1 hQ1 => ?_
            refine LoopOk.mk (fun m x => ∃ i, i + m = (appE (appAns s one tOne) two tTwo).links.length ∧ x = ⟨[(14, dInt i), (10, .ptr 0 0), (11, .ptr 1 0)], 2, [(0, .vars 41 3 [dInt (appAns (appAns s one tOne) two tTwo).region, .dat (.list ((appAns (appAns s one tOne) two tTwo).log.map Entry'.enc)), .dat (.list ((appAns (appAns s one tOne) two tTwo).waits.map Entry'.enc))] true), (1, .vars 35 5 [dInt (appE (appAns s one tOne) two tTwo).id.r, dInt (appE (appAns s one tOne) two tTwo).id.n, dInt (appE (appAns s one tOne) two tTwo).colors, .dat (.str (appE (appAns s one tOne) two tTwo).text), .dat (.list ((appE (appAns s one tOne) two tTwo).links.map Id.enc))] true)]⟩) (appE (appAns s one tOne) two tTwo).links.length (Into.mono (Into.to [3, 4] [(14, dInt (0 : Nat)), (10, .ptr 0 0), (11, .ptr 1 0)] [(0, .vars 41 3 [dInt (appAns (appAns s one tOne) two tTwo).region, .dat (.list ((appAns (appAns s one tOne) two tTwo).log.map Entry'.enc)), .dat (.list ((appAns (appAns s one tOne) two tTwo).waits.map Entry'.enc))] true), (1, .vars 35 5 [dInt (appE (appAns s one tOne) two tTwo).id.r, dInt (appE (appAns s one tOne) two tTwo).id.n, dInt (appE (appAns s one tOne) two tTwo).colors, .dat (.str (appE (appAns s one tOne) two tTwo).text), .dat (.list ((appE (appAns s one tOne) two tTwo).links.map Id.enc))] true)] (by repeat (first | exact trivial | refine ⟨.same (congrArg dInt (wrap_up (by omega))), ?_⟩ | refine ⟨.same rfl, ?_⟩ | refine ⟨.any _, ?_⟩)) ⟨⟨rfl, rfl, rfl, .same rfl, rfl, .same rfl, rfl, .same rfl, rfl, trivial⟩, ⟨rfl, rfl, rfl, .same rfl, rfl, .same rfl, rfl, .same rfl, rfl, .same rfl, rfl, .same rfl, rfl, trivial⟩, trivial⟩ rfl rfl) fun s' h => ⟨0, by omega, h⟩) ?_
            rintro m x ⟨i, him, rfl⟩
            conv => whnf
            repeat (first | (refine Conf.mk (by kernel_rfl) ?_; conv => whnf) | (refine SeqOk.go ?_; conv => whnf))
            refine ⟨fun h3 => ?_, fun h3 => ?_⟩
            · have hi := lt_of_len h3
              have hii : (appE (appAns s one tOne) two tTwo).links[i] ∈ headsOf two (appAns s one tOne).log := by have := List.getElem_mem hi; rw [← hlk]; exact this
              have hpii := past_in hQ.log (x := (appE (appAns s one tOne) two tTwo).links[i]) (by
                obtain ⟨e, he, h1, _⟩ := (mem_headsOf hR.log hc).1 hii
                exact ⟨e, hsub e he, h1⟩)
              conv => whnf
              repeat (first | (refine Conf.mk (by kernel_rfl) ?_; conv => whnf) | (refine SeqOk.go ?_; conv => whnf))
              refine LoopOk.hide fun Q2 hQ2 => ?_
              refine LoopOk.mk (fun m2 x => ∃ k, k + m2 = (appE (appAns s one tOne) two tTwo).links.length ∧ x = ⟨[(15, dInt k), (14, dInt i), (10, .ptr 0 0), (11, .ptr 1 0)], 2, [(0, .vars 41 3 [dInt (appAns (appAns s one tOne) two tTwo).region, .dat (.list ((appAns (appAns s one tOne) two tTwo).log.map Entry'.enc)), .dat (.list ((appAns (appAns s one tOne) two tTwo).waits.map Entry'.enc))] true), (1, .vars 35 5 [dInt (appE (appAns s one tOne) two tTwo).id.r, dInt (appE (appAns s one tOne) two tTwo).id.n, dInt (appE (appAns s one tOne) two tTwo).colors, .dat (.str (appE (appAns s one tOne) two tTwo).text), .dat (.list ((appE (appAns s one tOne) two tTwo).links.map Id.enc))] true)]⟩) (appE (appAns s one tOne) two tTwo).links.length (Into.mono (Into.to [0, 1] [(15, dInt (0 : Nat)), (14, dInt i), (10, .ptr 0 0), (11, .ptr 1 0)] [(0, .vars 41 3 [dInt (appAns (appAns s one tOne) two tTwo).region, .dat (.list ((appAns (appAns s one tOne) two tTwo).log.map Entry'.enc)), .dat (.list ((appAns (appAns s one tOne) two tTwo).waits.map Entry'.enc))] true), (1, .vars 35 5 [dInt (appE (appAns s one tOne) two tTwo).id.r, dInt (appE (appAns s one tOne) two tTwo).id.n, dInt (appE (appAns s one tOne) two tTwo).colors, .dat (.str (appE (appAns s one tOne) two tTwo).text), .dat (.list ((appE (appAns s one tOne) two tTwo).links.map Id.enc))] true)] (by repeat (first | exact trivial | refine ⟨.same (congrArg dInt (wrap_up (by omega))), ?_⟩ | refine ⟨.same rfl, ?_⟩ | refine ⟨.any _, ?_⟩)) ⟨⟨rfl, rfl, rfl, .same rfl, rfl, .same rfl, rfl, .same rfl, rfl, trivial⟩, ⟨rfl, rfl, rfl, .same rfl, rfl, .same rfl, rfl, .same rfl, rfl, .same rfl, rfl, .same rfl, rfl, trivial⟩, trivial⟩ rfl rfl) fun s' h => ⟨0, by omega, h⟩) ?_
              rintro m2 x ⟨k, hkm, rfl⟩
              conv => whnf
              repeat (first | (refine Conf.mk (by kernel_rfl) ?_; conv => whnf) | (refine SeqOk.go ?_; conv => whnf))
              refine ⟨fun h4 => ?_, fun h4 => ?_⟩
              · have hk := lt_of_len h4
                have hki : (appE (appAns s one tOne) two tTwo).links[k] ∈ headsOf two (appAns s one tOne).log := by have := List.getElem_mem hk; rw [← hlk]; exact this
                have hno : hasId (pastOfId (appAns (appAns s one tOne) two tTwo).log (appE (appAns s one tOne) two tTwo).links[i]) (appE (appAns s one tOne) two tTwo).links[k] = false := by
                  rw [Bool.eq_false_iff]
                  intro hk2
                  have hk2 := hasId_iff.1 hk2
                  rw [hv] at hk2
                  exact heads_apart (hv ▸ hQ.log) hc hii hki hk2
                have hhn := hasId_ok (appE (appAns s one tOne) two tTwo).links[k] (pastOfId (appAns (appAns s one tOne) two tTwo).log (appE (appAns s one tOne) two tTwo).links[i]) (by have := pastOfId_len hQ.log (appE (appAns s one tOne) two tTwo).links[i]; omega)
                rw [hno] at hhn
                conv => whnf
                repeat (first | (refine Conf.mk (by kernel_rfl) ?_; conv => whnf) | (refine SeqOk.go ?_; conv => whnf))
                refine AtIdx.ofMap hi rfl ?_
                conv => whnf
                repeat (first | (refine Conf.mk (by kernel_rfl) ?_; conv => whnf) | (refine SeqOk.go ?_; conv => whnf))
                refine .data _ _ hpii rfl ?_
                conv => whnf
                repeat (first | (refine Conf.mk (by kernel_rfl) ?_; conv => whnf) | (refine SeqOk.go ?_; conv => whnf))
                refine BoolCase.no rfl ?_
                conv => whnf
                repeat (first | (refine Conf.mk (by kernel_rfl) ?_; conv => whnf) | (refine SeqOk.go ?_; conv => whnf))
                refine AtIdx.ofMap hk rfl ?_
                conv => whnf
                repeat (first | (refine Conf.mk (by kernel_rfl) ?_; conv => whnf) | (refine SeqOk.go ?_; conv => whnf))
                refine .data _ _ hhn.kb rfl ?_
                conv => whnf
                repeat (first | (refine Conf.mk (by kernel_rfl) ?_; conv => whnf) | (refine SeqOk.go ?_; conv => whnf))
                exact Into.mono (Into.to [0, 1] [(15, dInt (k + 1 : Nat)), (14, dInt i), (10, .ptr 0 0), (11, .ptr 1 0)] [(0, .vars 41 3 [dInt (appAns (appAns s one tOne) two tTwo).region, .dat (.list ((appAns (appAns s one tOne) two tTwo).log.map Entry'.enc)), .dat (.list ((appAns (appAns s one tOne) two tTwo).waits.map Entry'.enc))] true), (1, .vars 35 5 [dInt (appE (appAns s one tOne) two tTwo).id.r, dInt (appE (appAns s one tOne) two tTwo).id.n, dInt (appE (appAns s one tOne) two tTwo).colors, .dat (.str (appE (appAns s one tOne) two tTwo).text), .dat (.list ((appE (appAns s one tOne) two tTwo).links.map Id.enc))] true)] (by repeat (first | exact trivial | refine ⟨.same (congrArg dInt (wrap_up (by omega))), ?_⟩ | refine ⟨.same rfl, ?_⟩ | refine ⟨.any _, ?_⟩)) ⟨⟨rfl, rfl, rfl, .same rfl, rfl, .same rfl, rfl, .same rfl, rfl, trivial⟩, ⟨rfl, rfl, rfl, .same rfl, rfl, .same rfl, rfl, .same rfl, rfl, .same rfl, rfl, .same rfl, rfl, trivial⟩, trivial⟩ rfl rfl) fun s' h => ⟨m2 - 1, by omega, k + 1, by omega, h⟩
              · conv => whnf
                repeat (first | (refine Conf.mk (by kernel_rfl) ?_; conv => whnf) | (refine SeqOk.go ?_; conv => whnf))
                subst hQ2
                conv => whnf
                exact Into.mono (Into.to [0, 1] [(14, dInt (i + 1 : Nat)), (10, .ptr 0 0), (11, .ptr 1 0)] [(0, .vars 41 3 [dInt (appAns (appAns s one tOne) two tTwo).region, .dat (.list ((appAns (appAns s one tOne) two tTwo).log.map Entry'.enc)), .dat (.list ((appAns (appAns s one tOne) two tTwo).waits.map Entry'.enc))] true), (1, .vars 35 5 [dInt (appE (appAns s one tOne) two tTwo).id.r, dInt (appE (appAns s one tOne) two tTwo).id.n, dInt (appE (appAns s one tOne) two tTwo).colors, .dat (.str (appE (appAns s one tOne) two tTwo).text), .dat (.list ((appE (appAns s one tOne) two tTwo).links.map Id.enc))] true)] (by repeat (first | exact trivial | refine ⟨.same (congrArg dInt (wrap_up (by omega))), ?_⟩ | refine ⟨.same rfl, ?_⟩ | refine ⟨.any _, ?_⟩)) ⟨⟨rfl, rfl, rfl, .same rfl, rfl, .same rfl, rfl, .same rfl, rfl, trivial⟩, ⟨rfl, rfl, rfl, .same rfl, rfl, .same rfl, rfl, .same rfl, rfl, .same rfl, rfl, .same rfl, rfl, trivial⟩, trivial⟩ rfl rfl) fun s' h => ⟨m - 1, by omega, i + 1, by omega, h⟩
            · conv => whnf
              repeat (first | (refine Conf.mk (by kernel_rfl) ?_; conv => whnf) | (refine SeqOk.go ?_; conv => whnf))
              subst hQ1
              conv => whnf
              exact Ret.bool rfl
          · refine BoolCase.no (by simpa using hm) ?_
            conv => whnf
            repeat (first | (refine Conf.mk (by kernel_rfl) ?_; conv => whnf) | (refine SeqOk.go ?_; conv => whnf))
            refine LoopOk.hide fun Q1 hQ1 => ?_
            refine LoopOk.mk (fun m x => ∃ i, i + m = (appE (appAns s one tOne) two tTwo).links.length ∧ x = ⟨[(14, dInt i), (10, .ptr 0 0), (11, .ptr 1 0)], 2, [(0, .vars 41 3 [dInt (appAns (appAns s one tOne) two tTwo).region, .dat (.list ((appAns (appAns s one tOne) two tTwo).log.map Entry'.enc)), .dat (.list ((appAns (appAns s one tOne) two tTwo).waits.map Entry'.enc))] true), (1, .vars 35 5 [dInt (appE (appAns s one tOne) two tTwo).id.r, dInt (appE (appAns s one tOne) two tTwo).id.n, dInt (appE (appAns s one tOne) two tTwo).colors, .dat (.str (appE (appAns s one tOne) two tTwo).text), .dat (.list ((appE (appAns s one tOne) two tTwo).links.map Id.enc))] true)]⟩) (appE (appAns s one tOne) two tTwo).links.length (Into.mono (Into.to [3, 4] [(14, dInt (0 : Nat)), (10, .ptr 0 0), (11, .ptr 1 0)] [(0, .vars 41 3 [dInt (appAns (appAns s one tOne) two tTwo).region, .dat (.list ((appAns (appAns s one tOne) two tTwo).log.map Entry'.enc)), .dat (.list ((appAns (appAns s one tOne) two tTwo).waits.map Entry'.enc))] true), (1, .vars 35 5 [dInt (appE (appAns s one tOne) two tTwo).id.r, dInt (appE (appAns s one tOne) two tTwo).id.n, dInt (appE (appAns s one tOne) two tTwo).colors, .dat (.str (appE (appAns s one tOne) two tTwo).text), .dat (.list ((appE (appAns s one tOne) two tTwo).links.map Id.enc))] true)] (by repeat (first | exact trivial | refine ⟨.same (congrArg dInt (wrap_up (by omega))), ?_⟩ | refine ⟨.same rfl, ?_⟩ | refine ⟨.any _, ?_⟩)) ⟨⟨rfl, rfl, rfl, .same rfl, rfl, .same rfl, rfl, .same rfl, rfl, trivial⟩, ⟨rfl, rfl, rfl, .same rfl, rfl, .same rfl, rfl, .same rfl, rfl, .same rfl, rfl, .same rfl, rfl, trivial⟩, trivial⟩ rfl rfl) fun s' h => ⟨0, by omega, h⟩) ?_
            rintro m x ⟨i, him, rfl⟩
            conv => whnf
            repeat (first | (refine Conf.mk (by kernel_rfl) ?_; conv => whnf) | (refine SeqOk.go ?_; conv => whnf))
            refine ⟨fun h3 => ?_, fun h3 => ?_⟩
            · have hi := lt_of_len h3
              have hii : (appE (appAns s one tOne) two tTwo).links[i] ∈ headsOf two (appAns s one tOne).log := by have := List.getElem_mem hi; rw [← hlk]; exact this
              have hpii := past_in hQ.log (x := (appE (appAns s one tOne) two tTwo).links[i]) (by
                obtain ⟨e, he, h1, _⟩ := (mem_headsOf hR.log hc).1 hii
                exact ⟨e, hsub e he, h1⟩)
              conv => whnf
              repeat (first | (refine Conf.mk (by kernel_rfl) ?_; conv => whnf) | (refine SeqOk.go ?_; conv => whnf))
              refine LoopOk.hide fun Q2 hQ2 => ?_
              refine LoopOk.mk (fun m2 x => ∃ k, k + m2 = (appE (appAns s one tOne) two tTwo).links.length ∧ x = ⟨[(15, dInt k), (14, dInt i), (10, .ptr 0 0), (11, .ptr 1 0)], 2, [(0, .vars 41 3 [dInt (appAns (appAns s one tOne) two tTwo).region, .dat (.list ((appAns (appAns s one tOne) two tTwo).log.map Entry'.enc)), .dat (.list ((appAns (appAns s one tOne) two tTwo).waits.map Entry'.enc))] true), (1, .vars 35 5 [dInt (appE (appAns s one tOne) two tTwo).id.r, dInt (appE (appAns s one tOne) two tTwo).id.n, dInt (appE (appAns s one tOne) two tTwo).colors, .dat (.str (appE (appAns s one tOne) two tTwo).text), .dat (.list ((appE (appAns s one tOne) two tTwo).links.map Id.enc))] true)]⟩) (appE (appAns s one tOne) two tTwo).links.length (Into.mono (Into.to [0, 1] [(15, dInt (0 : Nat)), (14, dInt i), (10, .ptr 0 0), (11, .ptr 1 0)] [(0, .vars 41 3 [dInt (appAns (appAns s one tOne) two tTwo).region, .dat (.list ((appAns (appAns s one tOne) two tTwo).log.map Entry'.enc)), .dat (.list ((appAns (appAns s one tOne) two tTwo).waits.map Entry'.enc))] true), (1, .vars 35 5 [dInt (appE (appAns s one tOne) two tTwo).id.r, dInt (appE (appAns s one tOne) two tTwo).id.n, dInt (appE (appAns s one tOne) two tTwo).colors, .dat (.str (appE (appAns s one tOne) two tTwo).text), .dat (.list ((appE (appAns s one tOne) two tTwo).links.map Id.enc))] true)] (by repeat (first | exact trivial | refine ⟨.same (congrArg dInt (wrap_up (by omega))), ?_⟩ | refine ⟨.same rfl, ?_⟩ | refine ⟨.any _, ?_⟩)) ⟨⟨rfl, rfl, rfl, .same rfl, rfl, .same rfl, rfl, .same rfl, rfl, trivial⟩, ⟨rfl, rfl, rfl, .same rfl, rfl, .same rfl, rfl, .same rfl, rfl, .same rfl, rfl, .same rfl, rfl, trivial⟩, trivial⟩ rfl rfl) fun s' h => ⟨0, by omega, h⟩) ?_
              rintro m2 x ⟨k, hkm, rfl⟩
              conv => whnf
              repeat (first | (refine Conf.mk (by kernel_rfl) ?_; conv => whnf) | (refine SeqOk.go ?_; conv => whnf))
              refine ⟨fun h4 => ?_, fun h4 => ?_⟩
              · have hk := lt_of_len h4
                have hki : (appE (appAns s one tOne) two tTwo).links[k] ∈ headsOf two (appAns s one tOne).log := by have := List.getElem_mem hk; rw [← hlk]; exact this
                have hno : hasId (pastOfId (appAns (appAns s one tOne) two tTwo).log (appE (appAns s one tOne) two tTwo).links[i]) (appE (appAns s one tOne) two tTwo).links[k] = false := by
                  rw [Bool.eq_false_iff]
                  intro hk2
                  have hk2 := hasId_iff.1 hk2
                  rw [hv] at hk2
                  exact heads_apart (hv ▸ hQ.log) hc hii hki hk2
                have hhn := hasId_ok (appE (appAns s one tOne) two tTwo).links[k] (pastOfId (appAns (appAns s one tOne) two tTwo).log (appE (appAns s one tOne) two tTwo).links[i]) (by have := pastOfId_len hQ.log (appE (appAns s one tOne) two tTwo).links[i]; omega)
                rw [hno] at hhn
                conv => whnf
                repeat (first | (refine Conf.mk (by kernel_rfl) ?_; conv => whnf) | (refine SeqOk.go ?_; conv => whnf))
                refine AtIdx.ofMap hi rfl ?_
                conv => whnf
                repeat (first | (refine Conf.mk (by kernel_rfl) ?_; conv => whnf) | (refine SeqOk.go ?_; conv => whnf))
                refine .data _ _ hpii rfl ?_
                conv => whnf
                repeat (first | (refine Conf.mk (by kernel_rfl) ?_; conv => whnf) | (refine SeqOk.go ?_; conv => whnf))
                refine BoolCase.no rfl ?_
                conv => whnf
                repeat (first | (refine Conf.mk (by kernel_rfl) ?_; conv => whnf) | (refine SeqOk.go ?_; conv => whnf))
                refine AtIdx.ofMap hk rfl ?_
                conv => whnf
                repeat (first | (refine Conf.mk (by kernel_rfl) ?_; conv => whnf) | (refine SeqOk.go ?_; conv => whnf))
                refine .data _ _ hhn.kb rfl ?_
                conv => whnf
                repeat (first | (refine Conf.mk (by kernel_rfl) ?_; conv => whnf) | (refine SeqOk.go ?_; conv => whnf))
                exact Into.mono (Into.to [0, 1] [(15, dInt (k + 1 : Nat)), (14, dInt i), (10, .ptr 0 0), (11, .ptr 1 0)] [(0, .vars 41 3 [dInt (appAns (appAns s one tOne) two tTwo).region, .dat (.list ((appAns (appAns s one tOne) two tTwo).log.map Entry'.enc)), .dat (.list ((appAns (appAns s one tOne) two tTwo).waits.map Entry'.enc))] true), (1, .vars 35 5 [dInt (appE (appAns s one tOne) two tTwo).id.r, dInt (appE (appAns s one tOne) two tTwo).id.n, dInt (appE (appAns s one tOne) two tTwo).colors, .dat (.str (appE (appAns s one tOne) two tTwo).text), .dat (.list ((appE (appAns s one tOne) two tTwo).links.map Id.enc))] true)] (by repeat (first | exact trivial | refine ⟨.same (congrArg dInt (wrap_up (by omega))), ?_⟩ | refine ⟨.same rfl, ?_⟩ | refine ⟨.any _, ?_⟩)) ⟨⟨rfl, rfl, rfl, .same rfl, rfl, .same rfl, rfl, .same rfl, rfl, trivial⟩, ⟨rfl, rfl, rfl, .same rfl, rfl, .same rfl, rfl, .same rfl, rfl, .same rfl, rfl, .same rfl, rfl, trivial⟩, trivial⟩ rfl rfl) fun s' h => ⟨m2 - 1, by omega, k + 1, by omega, h⟩
              · conv => whnf
                repeat (first | (refine Conf.mk (by kernel_rfl) ?_; conv => whnf) | (refine SeqOk.go ?_; conv => whnf))
                subst hQ2
                conv => whnf
                exact Into.mono (Into.to [0, 1] [(14, dInt (i + 1 : Nat)), (10, .ptr 0 0), (11, .ptr 1 0)] [(0, .vars 41 3 [dInt (appAns (appAns s one tOne) two tTwo).region, .dat (.list ((appAns (appAns s one tOne) two tTwo).log.map Entry'.enc)), .dat (.list ((appAns (appAns s one tOne) two tTwo).waits.map Entry'.enc))] true), (1, .vars 35 5 [dInt (appE (appAns s one tOne) two tTwo).id.r, dInt (appE (appAns s one tOne) two tTwo).id.n, dInt (appE (appAns s one tOne) two tTwo).colors, .dat (.str (appE (appAns s one tOne) two tTwo).text), .dat (.list ((appE (appAns s one tOne) two tTwo).links.map Id.enc))] true)] (by repeat (first | exact trivial | refine ⟨.same (congrArg dInt (wrap_up (by omega))), ?_⟩ | refine ⟨.same rfl, ?_⟩ | refine ⟨.any _, ?_⟩)) ⟨⟨rfl, rfl, rfl, .same rfl, rfl, .same rfl, rfl, .same rfl, rfl, trivial⟩, ⟨rfl, rfl, rfl, .same rfl, rfl, .same rfl, rfl, .same rfl, rfl, .same rfl, rfl, .same rfl, rfl, trivial⟩, trivial⟩ rfl rfl) fun s' h => ⟨m - 1, by omega, i + 1, by omega, h⟩
            · conv => whnf
              repeat (first | (refine Conf.mk (by kernel_rfl) ?_; conv => whnf) | (refine SeqOk.go ?_; conv => whnf))
              subst hQ1
              conv => whnf
              exact Ret.bool rfl
    · refine BoolCase.yes (by simp [hB]) ?_
      conv => whnf
      repeat (first | (refine Conf.mk (by kernel_rfl) ?_; conv => whnf) | (refine SeqOk.go ?_; conv => whnf))
      exact Ret.bool (by rw [(app_zero hB).1]; rfl)
  · refine BoolCase.yes (by simp [hA]) ?_
    conv => whnf
    repeat (first | (refine Conf.mk (by kernel_rfl) ?_; conv => whnf) | (refine SeqOk.go ?_; conv => whnf))
    exact Ret.bool (by rw [(app_zero hA).1]; rfl)
end Go.Proofs.Ytlioojekjnigiad.AM
/- What came in, opened: ids, entries, logs. -/
namespace Go.Proofs.Ytlioojekjnigiad
theorem ownT : ownKnob Try.prog.godebug = none := by kernel_rfl
theorem laidT : laidOutB Try.prog = true := by kernel_rfl
namespace AM
set_option linter.unusedVariables false
set_option linter.unusedSimpArgs false

theorem allWT_cons {tab : Tab} {n t : Nat} {ts : List Nat} {dss : List (List D)} (h : AllWT tab n (t :: ts) dss) : ∃ d ds, dss = d :: ds ∧ WT tab n t d ∧ AllWT tab n ts ds := by
  cases dss with
  | nil => exact h.elim
  | cons d ds => exact ⟨d, ds, rfl, h.1, h.2⟩
theorem allWT_nil {tab : Tab} {n : Nat} {dss : List (List D)} (h : AllWT tab n [] dss) : dss = [] := by
  cases dss with
  | nil => rfl
  | cons d ds => exact h.elim
theorem all_enc {α : Type} {enc : α → List D} {p : List D → Prop} {q : α → Prop} (h : ∀ e, p e → ∃ x, e = enc x ∧ q x) : ∀ (es : List (List D)), (∀ e ∈ es, p e) → ∃ l : List α, es = l.map enc ∧ ∀ x ∈ l, q x
  | [], _ => ⟨[], rfl, by simp⟩
  | e :: t, hs => by
    obtain ⟨x, rfl, hx⟩ := h e (hs e (by simp))
    obtain ⟨l, rfl, hl⟩ := all_enc h t fun e he => hs e (by simp [he])
    exact ⟨x :: l, rfl, fun y hy => by
      rcases List.mem_cons.1 hy with rfl | hy
      · exact hx
      · exact hl y hy⟩
def I64 (n : Int) : Prop := -9223372036854775808 ≤ n ∧ n ≤ 9223372036854775807
theorem wt_int {n : Nat} {ds : List D} (h : WT tab (n + 1) 3 ds) : ∃ m, ds = [.int .i64 m] ∧ I64 m := by
  have h : ∃ m, ds = [.int .i64 m] ∧ (Lit.int .i64 m).wf = true := h
  obtain ⟨m, rfl, hm⟩ := h
  refine ⟨m, rfl, ?_⟩
  simp [Lit.wf, IntKind.wrap, IntKind.bits, IntKind.signed] at hm
  exact hm
theorem wt_bool {n : Nat} {ds : List D} (h : WT tab (n + 1) 4 ds) : ∃ b, ds = [.bool b] := h
theorem wt_string {n : Nat} {ds : List D} (h : WT tab (n + 1) 9 ds) : ∃ s, ds = [.str s] ∧ s.size ≤ 140737488351232 := h
theorem wt_id {n : Nat} {ds : List D} (h : WT tab (n + 2) 33 ds) : ∃ x : Id, ds = x.enc ∧ I64 x.r ∧ I64 x.n := by
  obtain ⟨a, y, rfl, h1, b, z, rfl, h2, rfl⟩ := (h : ∃ xs ys, ds = xs ++ ys ∧ WT tab (n + 1) 3 xs ∧ ∃ xs' ys', ys = xs' ++ ys' ∧ WT tab (n + 1) 3 xs' ∧ ys' = [])
  obtain ⟨r, rfl, hr⟩ := wt_int h1
  obtain ⟨m, rfl, hm⟩ := wt_int h2
  exact ⟨⟨r, m⟩, rfl, hr, hm⟩
theorem wt_ids {n : Nat} {ds : List D} (h : WT tab (n + 3) 23 ds) : ∃ l : List Id, ds = [.list (l.map Id.enc)] ∧ l.length * 16 ≤ 140737488351232 ∧ ∀ x ∈ l, I64 x.r ∧ I64 x.n := by
  obtain ⟨es, rfl, h1, h2⟩ := (h : ∃ es, ds = [.list es] ∧ es.length * 16 ≤ 140737488351232 ∧ ∀ e' ∈ es, WT tab (n + 2) 33 e')
  obtain ⟨l, rfl, hl⟩ := all_enc (fun e he => wt_id he) es h2
  exact ⟨l, rfl, by rw [List.length_map] at h1; exact h1, hl⟩
structure EntryIn (e : Entry') : Prop where
  r : I64 e.id.r
  n : I64 e.id.n
  colors : I64 e.colors
  text : e.text.size ≤ 140737488351232
  len : e.links.length * 16 ≤ 140737488351232
  links : ∀ x ∈ e.links, I64 x.r ∧ I64 x.n
theorem wt_entry {n : Nat} {ds : List D} (h : WT tab (n + 4) 35 ds) : ∃ e : Entry', ds = e.enc ∧ EntryIn e := by
  obtain ⟨a, y, rfl, h1, b, z, rfl, h2, c, u, rfl, h3, d, v, rfl, h4, rfl⟩ := (h : ∃ a y, ds = a ++ y ∧ WT tab (n + 3) 33 a ∧ ∃ b z, y = b ++ z ∧ WT tab (n + 3) 3 b ∧ ∃ c u, z = c ++ u ∧ WT tab (n + 3) 9 c ∧ ∃ d v, u = d ++ v ∧ WT tab (n + 3) 23 d ∧ v = [])
  obtain ⟨x, rfl, hx⟩ := wt_id h1
  obtain ⟨k, rfl, hk⟩ := wt_int h2
  obtain ⟨s, rfl, hs⟩ := wt_string h3
  obtain ⟨l, rfl, hl, hl2⟩ := wt_ids h4
  exact ⟨⟨x, k, s, l⟩, rfl, hx.1, hx.2, hk, hs, hl, hl2⟩
theorem wt_log {n : Nat} {ds : List D} (h : WT tab (n + 5) 22 ds) : ∃ l : List Entry', ds = [.list (l.map Entry'.enc)] ∧ l.length * 64 ≤ 140737488351232 ∧ ∀ e ∈ l, EntryIn e := by
  obtain ⟨es, rfl, h1, h2⟩ := (h : ∃ es, ds = [.list es] ∧ es.length * 64 ≤ 140737488351232 ∧ ∀ e' ∈ es, WT tab (n + 4) 35 e')
  obtain ⟨l, rfl, hl⟩ := all_enc (fun e he => wt_entry he) es h2
  exact ⟨l, rfl, by rw [List.length_map] at h1; exact h1, hl⟩
theorem logOk_in {l : List Entry'} (h : l.length * 64 ≤ 140737488351232) (k : ∀ e ∈ l, EntryIn e) : LogOk l := ⟨by omega, fun e he => by have := (k e he).len; omega⟩
end AM
end Go.Proofs.Ytlioojekjnigiad
/- What came in, opened: sites. -/
namespace Go.Proofs.Ytlioojekjnigiad.AM
set_option linter.unusedVariables false
set_option linter.unusedSimpArgs false

def Site'.enc (s : Site') : List D := [.int .i64 s.region, .list (s.log.map Entry'.enc), .list (s.waits.map Entry'.enc)]
structure SiteIn (s : Site') : Prop where
  region : I64 s.region
  log : s.log.length * 64 ≤ 140737488351232
  logs : ∀ e ∈ s.log, EntryIn e
  waits : s.waits.length * 64 ≤ 140737488351232
  waitss : ∀ e ∈ s.waits, EntryIn e
theorem wt_site {n : Nat} {ds : List D} (h : WT tab (n + 6) 41 ds) : ∃ s : Site', ds = s.enc ∧ SiteIn s := by
  obtain ⟨a, y, rfl, h1, b, z, rfl, h2, c, u, rfl, h3, rfl⟩ := (h : ∃ a y, ds = a ++ y ∧ WT tab (n + 5) 3 a ∧ ∃ b z, y = b ++ z ∧ WT tab (n + 5) 22 b ∧ ∃ c u, z = c ++ u ∧ WT tab (n + 5) 22 c ∧ u = [])
  obtain ⟨r, rfl, hr⟩ := wt_int h1
  obtain ⟨l, rfl, hl, hl2⟩ := wt_log h2
  obtain ⟨w, rfl, hw, hw2⟩ := wt_log h3
  exact ⟨⟨r, l, w⟩, rfl, hr, hl, hl2, hw, hw2⟩
theorem siteOk_in {s : Site'} (h : SiteIn s) : SiteOk s := ⟨logOk_in h.log h.logs, logOk_in h.waits h.waitss⟩
end Go.Proofs.Ytlioojekjnigiad.AM
