/- slices.Delete of one wait, of a row of one's own. -/
import Derived.Test.YtlpdoloolagcbabS5
namespace Go.Proofs.Ytlpdoloolagcbab
open Go.RowKit

set_option maxHeartbeats 4000000 in
set_option maxRecDepth 100000 in
theorem delete_any (base g m cap i : Nat) (cs : List Value) (w : World) (hown : w.ownsRow base 64 3 (.slice (some ⟨g, 0, none⟩) (m + 1) cap) (m + 1) cs) (hi : i ≤ m) (h1c : ∀ u ∈ cs, u.oneCell' = true) (hm : m ≤ 1000) :
    Calls Try.prog 81 #[.slice (some ⟨g, 0, none⟩) (m + 1) cap, .int .i64 i, .int .i64 ((i : Int) + 1)] w fun e w' => e = .returned (.slice (some ⟨g, 0, none⟩) m cap) ∧ w'.ownsRow base 64 3 (.slice (some ⟨g, 0, none⟩) m cap) m (cs.take (i * 3) ++ cs.drop (i * 3 + 3)) ∧ w.grownBy w' (some g) := by
  obtain ⟨i0, hinf, hz0, hz1, hz2⟩ := info_parts Try.infoWait
  rcases hown with ⟨hl, ⟨h0, _⟩ | ⟨g', cap', cur, hv, hbg, hg, hle, hcm, hcs, ht⟩⟩
  · cases h0
  cases hv
  have hcm' : cap ≤ 9223372036854775807 := by unfold maxLen at hcm; omega
  obtain ⟨R1, hR1⟩ : ∃ R1 : List Value, R1 = cur.toList.take (i * 3) ++ cs.drop (i * 3 + 3) ++ cur.toList.drop (i * 3 + ((m + 1) * 3 - (i * 3 + 3))) := ⟨_, rfl⟩
  obtain ⟨R2, hR2⟩ : ∃ R2 : List Value, R2 = R1.take (m * 3) ++ (Builtin.zeroCells (Value.agg #[.int .i64 0, .int .i64 0, .bool false]).cells (0 + 1)).toList ++ R1.drop (m * 3 + 3) := ⟨_, rfl⟩
  have hcl : cur.toList.length = cap * 3 := by simpa using hcs
  have hzc : (Value.agg #[.int .i64 0, .int .i64 0, .bool false]).cells.size = 3 := rfl
  have hzl : (Builtin.zeroCells (Value.agg #[.int .i64 0, .int .i64 0, .bool false]).cells (0 + 1)).toList.length = 3 := by simp [size_zeroCells, hzc]
  have t2 : R2.take (m * 3) = cs.take (i * 3) ++ cs.drop (i * 3 + 3) := by
    have := row_cut (cur := cur.toList) (cs := cs) (I := i * 3) (N := (m + 1) * 3) (k := 3) (by omega) hzl (by omega) ht
    rw [show (m + 1) * 3 - 3 = m * 3 from by omega, ← hR1, ← hR2] at this
    exact this
  have s1 : R1.length = cap * 3 := by rw [hR1]; simp [hl, hcs]; omega
  have s2 : R2.length = cap * 3 := by
    rw [hR2]
    simp only [List.length_append, hzl, List.length_take, List.length_drop, s1]
    omega
  have hdl : (cs.drop (i * 3 + 3)).length = (m - i) * 3 := by rw [List.length_drop]; omega
  have hrz : ∀ ty A c, (i < m → A = ⟨g, (i + 1) * 3, none⟩) → (Builtin.append_ #[40, 40] ty #[.slice (some ⟨g, 0, none⟩) i cap, .slice (some A) (m - i) c]).run Try.prog w.drew = .ok (.slice (some ⟨g, 0, none⟩) m cap) (w.drew.setRow g R1.toArray) := fun ty A c hA => by
    have := run_append_room (P := Try.prog) w.drew 40 ty 64 i0 Try.underlying40 hinf g i cap cur hg A (m - i) c (cs.drop (i * 3 + 3)) (by rw [hz1, hdl])
      (fun j u hj => by
        have hlt : j < (cs.drop (i * 3 + 3)).length := (List.getElem?_eq_some_iff.1 hj).1
        rw [hA (by omega), add_at']
        rw [List.getElem?_drop, ← ht, List.getElem?_take] at hj
        split at hj
        · exact cell_of_block (w := w.drew) hg (by rw [show (i + 1) * 3 + j = i * 3 + 3 + j from by omega]; simpa using hj)
        · cases hj) (fun v hv => h1c v (List.mem_of_mem_drop hv)) (by omega) (by rw [hz1, hdl]; omega)
    rw [hz1, hdl, show i + (m - i) = m from by omega, show i * 3 + (m - i) * 3 = i * 3 + ((m + 1) * 3 - (i * 3 + 3)) from by omega, ← hR1] at this
    exact this
  have g1 : (w.drew.setRow g R1.toArray).heap[g]? = some (.cells R1.toArray 64 (0, 0)) := setRow_heap w.drew g _ R1.toArray 64 (0, 0) hg
  have gr1 : w.grownBy (w.drew.setRow g R1.toArray) (some g) := grownBy_trans (grownBy_drew w _) (grownBy_setRow (w := w.drew) hg)
  generalize w.drew.setRow g R1.toArray = W1 at *
  have hcr : ∀ ty c, (Builtin.clear_ #[40] ty #[.slice (some ⟨g, m * 3, none⟩) 1 c]).run Try.prog W1 = .ok (.tuple #[]) (W1.setRow g R2.toArray) := fun ty c => by
    have := run_clear_row (P := Try.prog) W1 40 64 ty (.agg #[.int .i64 0, .int .i64 0, .bool false]) Try.underlying40 Try.zeroValue64 (by decide) g (m * 3) 0 c R1.toArray 64 g1 (by rw [hzc]; simp; omega)
    rw [hzc] at this
    simp only [Nat.zero_add, Nat.one_mul] at this
    rw [hR2]
    exact this
  have HG2 : Hid ((W1.setRow g R2.toArray).ownsRow base 64 3 (.slice (some ⟨g, 0, none⟩) m cap) m (cs.take (i * 3) ++ cs.drop (i * 3 + 3))) :=
    ⟨by simp [hl]; omega, .inr ⟨g, cap, R2.toArray, rfl, hbg, setRow_heap W1 g _ R2.toArray 64 (0, 0) g1, by omega, hcm, by simpa using s2, t2⟩⟩
  have HGR : Hid (w.grownBy (W1.setRow g R2.toArray) (some g)) := grownBy_trans gr1 (grownBy_setRow g1)
  generalize W1.setRow g R2.toArray = W2 at *
  clear hR1 hR2 t2 s1 s2 hzl hzc hdl g1 gr1 hcl ht h1c hg hcs hl
  have hcn : ¬ (cap = m) := by omega
  by_cases hc : cap = i + 1
  · obtain rfl : m = i := by omega
    subst hc
    have hr := fun ty A c => hrz ty A c (fun h => absurd h (Nat.lt_irrefl _))
    clear hrz
    simp only [Nat.sub_self] at hr
    go_enter Try.func81, Try.ntmps81
    go_wp2_with fail
    refine wp_region_path [(0, 0), (1, 0), (2, 2), (3, 0), (4, 0), (5, 2), (6, 3), (7, 0)] (by kernel_rfl) (by kernel_rfl) (by kernel_rfl) (by kernel_rfl) ?_
    simp only [parts, headed, headed2, List.getElem?_toArray, List.getElem?_cons_zero, List.getElem?_cons_succ]
    refine parts_step fun K HK => ?_
    go_wp2_with fail
    refine HK.out _ _ (Grow.refl _) ?_
    clear HK K
    refine parts_step2 (fun hw => by first | (cases hw; done) | (apply looks_run; intro w'; go_simp; try first | rfl | rw [if_neg (by omega)] | rw [if_pos (by omega)])) fun K HK => ?_
    go_wp2_with fail
    refine HK.out _ _ (Grow.refl _) ?_
    clear HK K
    refine parts_cut2 (fun hw => by first | (cases hw; done) | (apply looks_run; intro w'; go_simp; try first | rfl | rw [if_neg (by omega)] | rw [if_pos (by omega)])) fun K HK => ?_
    go_wp2_with (at_builtin; go_must (refine wpList_append_ran _ (by rfl) _ _ 40 40 (by rfl) _ _ (by rfl) (by rfl) (hr _ _ _) ?_))
    refine HK.out _ _ ?_
    clear HK K
    refine parts_step fun K HK => ?_
    go_wp2_with fail
    refine HK.out _ _ (Grow.refl _) ?_
    clear HK K
    refine parts_done ?_
    go_wp2_with (at_builtin; go_must (refine wpList_clear_run _ (by rfl) _ 40 (by rfl) _ (by rfl) (hcr _ _) ?_))
    go_ret
    exact ⟨rfl, HG2.out, HGR.out⟩
  · have hr := fun ty c => hrz ty ⟨g, (i + 1) * 3, none⟩ c (fun _ => rfl)
    clear hrz
    go_enter Try.func81, Try.ntmps81
    go_wp2_with fail
    refine wp_region_path [(0, 0), (1, 0), (2, 2), (3, 0), (4, 0), (5, 2), (6, 3), (7, 0)] (by kernel_rfl) (by kernel_rfl) (by kernel_rfl) (by kernel_rfl) ?_
    simp only [parts, headed, headed2, List.getElem?_toArray, List.getElem?_cons_zero, List.getElem?_cons_succ]
    refine parts_step fun K HK => ?_
    go_wp2_with fail
    refine HK.out _ _ (Grow.refl _) ?_
    clear HK K
    refine parts_step2 (fun hw => by first | (cases hw; done) | (apply looks_run; intro w'; go_simp; try first | rfl | rw [if_neg (by omega)] | rw [if_pos (by omega)])) fun K HK => ?_
    go_wp2_with fail
    refine HK.out _ _ (Grow.refl _) ?_
    clear HK K
    refine parts_cut2 (fun hw => by first | (cases hw; done) | (apply looks_run; intro w'; go_simp; try first | rfl | rw [if_neg (by omega)] | rw [if_pos (by omega)])) fun K HK => ?_
    go_wp2_with (at_builtin; go_must (refine wpList_append_ran _ (by rfl) _ _ 40 40 (by rfl) _ _ (by rfl) (by rfl) (hr _ _) ?_))
    refine HK.out _ _ ?_
    clear HK K
    refine parts_step fun K HK => ?_
    go_wp2_with fail
    refine HK.out _ _ (Grow.refl _) ?_
    clear HK K
    refine parts_done ?_
    go_wp2_with (at_builtin; go_must (refine wpList_clear_run _ (by rfl) _ 40 (by rfl) _ (by rfl) (hcr _ _) ?_))
    go_ret
    exact ⟨rfl, HG2.out, HGR.out⟩
end Go.Proofs.Ytlpdoloolagcbab
