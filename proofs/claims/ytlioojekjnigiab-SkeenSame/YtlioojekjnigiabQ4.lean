/- What is leaned on: part 4. -/
import Derived.Test.YtlioojekjnigiabQ3
/- slices.Insert and slices.Delete, of a row of waits of one's own. -/
namespace Go.Proofs.Ytlioojekjnigiab.IW
open Go.RowKit
set_option linter.unusedVariables false

theorem infoT : (Try.prog.info? 64).map (fun i => (i.zero, i.size, i.bytes)) = some (some (.agg #[.int .i64 0, .int .i64 0, .bool false]), 3, 24) := by kernel_rfl
theorem news_block {w : World} {b : Nat} {xv : Array Value} {xs : List Value} {t : TypeId} {k : Nat} (h : w.heap[b]? = some (.cells xv t (0, 0))) (ht : xv.toList.take k = xs) : ∀ j u, xs[j]? = some u → w.cell? ((⟨b, 0, none⟩ : Addr).add j) = some u := fun j u hu => by
  rw [add_at', Nat.zero_add]
  rw [← ht, List.getElem?_take] at hu
  split at hu
  · exact cell_of_block h (by simpa using hu)
  · cases hu

set_option maxHeartbeats 2000000 in
set_option maxRecDepth 100000 in
theorem insert_end (base : Nat) (v : Value) (n : Nat) (cs xs : List Value) (vb vc : Nat) (xv : Array Value) (w : World) (hown : w.ownsRow base 64 3 v n cs) (hx : w.heap[vb]? = some (.cells xv 64 (0, 0))) (hxl : xs.length = 3) (hxt : xv.toList.take 3 = xs) (hxs : xv.size = vc * 3) (hvc : 1 ≤ vc) (h1 : ∀ u ∈ xs, u.oneCell' = true) (hn : n ≤ 1000) (hb : base ≤ w.heap.size) :
    Calls Try.prog 80 #[v, .int .i64 n, .slice (some ⟨vb, 0, none⟩) 1 vc] w fun e w' => ∃ g cap, e = .returned (.slice (some ⟨g, 0, none⟩) (n + 1) cap) ∧ w'.ownsRow base 64 3 (.slice (some ⟨g, 0, none⟩) (n + 1) cap) (n + 1) (cs ++ xs) ∧ w.grownBy w' v.ownBlock ∧ (v.ownBlock = some g ∨ g = w.heap.size) := by
  obtain ⟨i0, hinf, hz0, hz1, hz2⟩ := info_parts infoT
  have HX : Hid (∀ j u, xs[j]? = some u → w.cell? ((⟨vb, 0, none⟩ : Addr).add j) = some u) := news_block hx hxt
  have HO : Hid (w.ownsRow base 64 3 v n cs) := hown
  have H3 : Hid (xs.length = 1 * 3) := by show xs.length = _; omega
  clear hx hxt hxs hxl
  rcases hown.2 with ⟨rfl, rfl⟩ | ⟨g, cap, cur, rfl, hbg, hg, hle, hcm, hcs, ht⟩
  · clear hown
    go_enter Try.func80, Try.ntmps80
    go_wp2_with (at_builtin; go_must (refine wpList_append_lies _ (by rfl) _ _ 40 (by rfl) base 64 i0 (.agg #[.int .i64 0, .int .i64 0, .bool false]) 3 24 Try.underlying40 hinf hz0 hz1 hz2 (by rfl) (by decide) (.slice none 0 0) 0 cs (by rfl) HO.out ⟨vb, 0, none⟩ 1 vc xs (by rfl) H3.out HX.out h1 (by decide) (by unfold maxLen; omega) (by omega) hb w.heap.size rfl ?_; intro g cap' w3 hown3 hgrow hat hltg))
    go_ret
    exact ⟨g, cap', rfl, hown3, hgrow, hat⟩
  · clear hown hg hcs ht hbg
    have hcm' : cap ≤ 9223372036854775807 := by unfold maxLen at hcm; omega
    clear hcm
    go_enter Try.func80, Try.ntmps80
    go_wp2_with (at_builtin; go_must (refine wpList_append_lies _ (by rfl) _ _ 40 (by rfl) base 64 i0 (.agg #[.int .i64 0, .int .i64 0, .bool false]) 3 24 Try.underlying40 hinf hz0 hz1 hz2 (by rfl) (by decide) (.slice (some ⟨g, 0, none⟩) n cap) n cs (by rfl) HO.out ⟨vb, 0, none⟩ 1 vc xs (by rfl) H3.out HX.out h1 (by decide) (by unfold maxLen; omega) (by omega) hb w.heap.size rfl ?_; intro g' cap' w3 hown3 hgrow hat hltg))
    all_goals
      go_ret
      exact ⟨g', cap', rfl, hown3, hgrow, hat⟩

set_option maxHeartbeats 4000000 in
set_option maxRecDepth 100000 in
theorem insert_room (base g n cap i : Nat) (cur : Array Value) (cs xs : List Value) (vb vc : Nat) (xv : Array Value) (w : World) (hg : w.heap[g]? = some (.cells cur 64 (0, 0))) (hbg : base ≤ g) (hcm : cap ≤ maxLen) (hcs : cur.size = cap * 3) (ht : cur.toList.take (n * 3) = cs) (hroom : n + 1 ≤ cap) (hi : i < n)
    (hx : w.heap[vb]? = some (.cells xv 64 (0, 0))) (hne : vb ≠ g) (hxl : xs.length = 3) (hxt : xv.toList.take 3 = xs) (hxs : xv.size = vc * 3) (hvc : 1 ≤ vc) (h1 : ∀ u ∈ xs, u.oneCell' = true) (h1c : ∀ u ∈ cs, u.oneCell' = true) (hn : n ≤ 1000) :
    Calls Try.prog 80 #[.slice (some ⟨g, 0, none⟩) n cap, .int .i64 i, .slice (some ⟨vb, 0, none⟩) 1 vc] w fun e w' => e = .returned (.slice (some ⟨g, 0, none⟩) (n + 1) cap) ∧ w'.ownsRow base 64 3 (.slice (some ⟨g, 0, none⟩) (n + 1) cap) (n + 1) (cs.take (i * 3) ++ xs ++ cs.drop (i * 3)) ∧ w.grownBy w' (some g) := by
  obtain ⟨i0, hinf, hz0, hz1, hz2⟩ := info_parts infoT
  have hlt := lt_of_block hg
  have hcm' : cap ≤ 9223372036854775807 := by unfold maxLen at hcm; omega
  have hcsl : cs.length = n * 3 := by rw [← ht, List.length_take]; simp; omega
  have hov : ∀ lb cb, (callFunc 85 #[.slice (some ⟨vb, 0, none⟩) 1 vc, .slice (some ⟨g, (i + 1) * 3, none⟩) lb cb]).run Try.prog w = .ok (.value (.bool false)) w := fun lb cb => by
    rw [run_callFunc_extern Try.func85 (by kernel_rfl) (by kernel_rfl) (by kernel_rfl) (e := Extern.SlicesOverlaps.overlaps #[40, 40] #[4]) (by kernel_rfl),
      Lib.run_overlaps_apart w 40 4 64 Try.underlying40 3 Try.sizeOf64 ⟨vb, 0, none⟩ ⟨g, (i + 1) * 3, none⟩ 1 vc lb cb hne 64 64 (vc * 3) (cap * 3) (by simp [World.shape?, hx, hxs]) (by simp [World.shape?, hg, hcs]) (by omega) (by simp [World.frozen?, hx]) (by simp [World.frozen?, hx])]
    rfl
  have hnq : ¬ ((i : Int) = (n : Int)) := by omega
  have hnq' : decide ((i : Int) = (n : Int)) = false := by simpa using hnq
  have hroom' : decide ((cap : Int) < (n : Int) + 1) = false := by simp; omega
  obtain ⟨R1, hR1⟩ : ∃ R1 : List Value, R1 = cur.toList.take (i * 3 + 3) ++ cs.drop (i * 3) ++ cur.toList.drop (i * 3 + 3 + (n * 3 - i * 3)) := ⟨_, rfl⟩
  obtain ⟨R2, hR2⟩ : ∃ R2 : List Value, R2 = R1.take (i * 3) ++ xs ++ R1.drop (i * 3 + 3) := ⟨_, rfl⟩
  have hcl : cur.toList.length = cap * 3 := by simpa using hcs
  have t2 : R2.take ((n + 1) * 3) = cs.take (i * 3) ++ xs ++ cs.drop (i * 3) := by
    rw [hR2, hR1, show (n + 1) * 3 = n * 3 + 3 from by omega]
    exact row_shift (by omega) hxl (by omega) ht
  have s2 : R2.toArray.size = cap * 3 := by
    have := row_shift_size (cur := cur.toList) (cs := cs) (xs := xs) (I := i * 3) (N := n * 3) (k := 3) (by omega) hxl (by omega) hcsl
    rw [hR2, hR1]
    simpa [hcl] using this
  have l1 : R1.length = cap * 3 := by rw [hR1]; simp [hcsl, hcs]; omega
  have hdl : (cs.drop (i * 3)).length = (n - i) * 3 := by rw [List.length_drop]; omega
  have hcp1 : ∀ ty dc sc, (Builtin.copy_ #[40, 40] ty #[.slice (some ⟨g, (i + 1) * 3, none⟩) (n - i) dc, .slice (some ⟨g, i * 3, none⟩) (n + 1 - i) sc]).run Try.prog w.drew = .ok (goInt ((n - i : Nat) : Int)) (w.drew.setRow g R1.toArray) := fun ty dc sc => by
    have hm : Nat.min (n + 1 - i) (n - i) = n - i := by simp only [Nat.min_def]; split <;> omega
    have := run_copy_row (P := Try.prog) w.drew 40 40 ty 64 3 g ((i + 1) * 3) (n - i) dc ⟨g, i * 3, none⟩ (n + 1 - i) sc (cs.drop (i * 3)) cur 64 Try.underlying40 i0 hinf hz1 (by rw [hm, hdl])
      (fun j v hj => by
        rw [add_at']
        rw [List.getElem?_drop, ← ht, List.getElem?_take] at hj
        split at hj
        · exact cell_of_block (w := w.drew) hg (by simpa using hj)
        · cases hj) hg (by rw [hdl]; omega) (fun v hv => h1c v (List.mem_of_mem_drop hv))
    rw [hm, hdl, show (i + 1) * 3 = i * 3 + 3 from by omega, show i * 3 + 3 + (n - i) * 3 = i * 3 + 3 + (n * 3 - i * 3) from by omega, ← hR1] at this
    rw [show (i + 1) * 3 = i * 3 + 3 from by omega]
    exact this
  have g1 : (w.drew.setRow g R1.toArray).heap[g]? = some (.cells R1.toArray 64 (0, 0)) := setRow_heap w.drew g _ R1.toArray 64 (0, 0) hg
  have x1 : (w.drew.setRow g R1.toArray).heap[vb]? = some (.cells xv 64 (0, 0)) := (setRow_other w.drew g _ _ hne).trans hx
  have gr1 : w.grownBy (w.drew.setRow g R1.toArray) (some g) := grownBy_trans (grownBy_drew w _) (grownBy_setRow (w := w.drew) hg)
  generalize w.drew.setRow g R1.toArray = W1 at *
  have hcp2 : ∀ ty dc, (Builtin.copy_ #[40, 40] ty #[.slice (some ⟨g, i * 3, none⟩) (n + 1 - i) dc, .slice (some ⟨vb, 0, none⟩) 1 vc]).run Try.prog W1 = .ok (goInt 1) (W1.setRow g R2.toArray) := fun ty dc => by
    have hm : Nat.min 1 (n + 1 - i) = 1 := by simp only [Nat.min_def]; split <;> omega
    have := run_copy_row (P := Try.prog) W1 40 40 ty 64 3 g (i * 3) (n + 1 - i) dc ⟨vb, 0, none⟩ 1 vc xs R1.toArray 64 Try.underlying40 i0 hinf hz1 (by rw [hm, hxl]) (news_block x1 hxt) g1 (by rw [hxl]; simp; omega) h1
    rw [hm, hxl] at this
    simp only at this
    rw [← hR2] at this
    exact this
  have HG2 : Hid ((W1.setRow g R2.toArray).ownsRow base 64 3 (.slice (some ⟨g, 0, none⟩) (n + 1) cap) (n + 1) (cs.take (i * 3) ++ xs ++ cs.drop (i * 3))) :=
    ⟨by simp [hxl, hcsl]; omega, .inr ⟨g, cap, R2.toArray, rfl, hbg, setRow_heap W1 g _ R2.toArray 64 (0, 0) g1, hroom, hcm, s2, t2⟩⟩
  have HGR : Hid (w.grownBy (W1.setRow g R2.toArray) (some g)) := grownBy_trans gr1 (grownBy_setRow g1)
  clear hR1 hR2 t2 s2 l1 g1 x1 gr1 hcl hdl hcsl ht h1c h1 hx hxt hxs hxl hg hcs
  have hcn : ¬ (cap = i + 1) := by omega
  have hcn' : ¬ (cap = i) := by omega
  go_enter Try.func80, Try.ntmps80
  go_wp2_with (simp only [hov])
  refine wp_region_path [(0, 0), (1, 0), (2, 0), (3, 2), (4, 2), (5, 0), (6, 0), (7, 2), (8, 3)] (by kernel_rfl) (by kernel_rfl) (by kernel_rfl) (by kernel_rfl) ?_
  simp only [parts, headed, headed2, List.getElem?_toArray, List.getElem?_cons_zero, List.getElem?_cons_succ]
  refine parts_step fun K HK => ?_
  go_wp2_with fail
  refine HK.out _ _ (Grow.refl _) ?_
  clear HK K
  refine parts_step2 (fun hw => by first | (cases hw; done) | (apply looks_run; intro w'; go_simp; try first | rfl | rw [if_neg (by omega)] | rw [if_pos (by omega)])) fun K HK => ?_
  go_wp2_with fail
  refine HK.out _ _ (Grow.refl _) ?_
  clear HK K
  refine parts_step2 (fun hw => by first | (cases hw; done) | (apply looks_run; intro w'; go_simp; try first | rfl | rw [if_neg (by omega)] | rw [if_pos (by omega)])) fun K HK => ?_
  go_wp2_with fail
  refine HK.out _ _ (Grow.refl _) ?_
  clear HK K
  refine parts_cut2 (fun hw => by first | (cases hw; done) | (apply looks_run; intro w'; go_simp; try first | rfl | rw [if_neg (by omega)] | rw [if_pos (by omega)])) fun K HK => ?_
  go_wp2_with (at_builtin; go_must (refine wpList_copy_run _ (by rfl) _ _ 40 40 (by rfl) _ _ (by rfl) (by rfl) (hcp1 _ _ _) ?_))
  refine HK.out _ _ ?_
  clear HK K
  refine parts_step fun K HK => ?_
  go_wp2_with fail
  refine HK.out _ _ (Grow.refl _) ?_
  clear HK K
  refine parts_done ?_
  go_wp2_with (at_builtin; refine wpList_copy_run _ (by rfl) _ _ 40 40 (by rfl) _ _ (by rfl) (by rfl) (hcp2 _ _) ?_)
  go_ret
  exact ⟨rfl, HG2.out, HGR.out⟩

set_option maxHeartbeats 4000000 in
set_option maxRecDepth 100000 in
theorem insert_grow (base g n cap i : Nat) (cur : Array Value) (cs xs : List Value) (vb vc : Nat) (xv : Array Value) (w : World) (hg : w.heap[g]? = some (.cells cur 64 (0, 0))) (hb : base ≤ w.heap.size) (hcm : cap ≤ maxLen) (hcs : cur.size = cap * 3) (ht : cur.toList.take (n * 3) = cs) (hnc : n ≤ cap) (hroom : cap < n + 1) (hi : i < n)
    (hx : w.heap[vb]? = some (.cells xv 64 (0, 0))) (hxl : xs.length = 3) (hxt : xv.toList.take 3 = xs) (hxs : xv.size = vc * 3) (hvc : 1 ≤ vc) (h1 : ∀ u ∈ xs, u.oneCell' = true) (h1c : ∀ u ∈ cs, u.oneCell' = true) (hn : n ≤ 1000) :
    Calls Try.prog 80 #[.slice (some ⟨g, 0, none⟩) n cap, .int .i64 i, .slice (some ⟨vb, 0, none⟩) 1 vc] w fun e w' => ∃ cap', e = .returned (.slice (some ⟨w.heap.size, 0, none⟩) (n + 1) cap') ∧ w'.ownsRow base 64 3 (.slice (some ⟨w.heap.size, 0, none⟩) (n + 1) cap') (n + 1) (cs.take (i * 3) ++ xs ++ cs.drop (i * 3)) ∧ Grow w w' := by
  obtain ⟨i0, hinf, hz0, hz1, hz2⟩ := info_parts infoT
  have hlt := lt_of_block hg
  have hltv := lt_of_block hx
  have hcm' : cap ≤ 9223372036854775807 := by unfold maxLen at hcm; omega
  have hcsl : cs.length = n * 3 := by rw [← ht, List.length_take]; simp; omega
  have hnq : ¬ ((i : Int) = (n : Int)) := by omega
  have hnq' : decide ((i : Int) = (n : Int)) = false := by simpa using hnq
  have hroom' : decide ((cap : Int) < (n : Int) + 1) = true := by simp; omega
  have hsrc : ∀ j v, cs[j]? = some v → w.cell? ⟨g, j, none⟩ = some v := fun j v hj => by
    rw [← ht, List.getElem?_take] at hj
    split at hj
    · exact cell_of_block hg (by simpa using hj)
    · cases hj
  obtain ⟨G, hG⟩ : ∃ G, G = grownCap w (n + 1) cap 64 := ⟨_, rfl⟩
  have hGn : n + 1 ≤ G := by rw [hG]; exact grownCap_ge w _ _ _
  have hGm : G ≤ maxLen := by rw [hG]; exact grownCap_le_maxLen w (n + 1) cap _ (by unfold maxLen; omega)
  have hG63 : G ≤ 9223372036854775807 := by unfold maxLen at hGm; omega
  obtain ⟨R0, hR0⟩ : ∃ R0 : Array Value, R0 = (cs.take (i * 3)).toArray ++ Builtin.zeroCells (Value.agg #[.int .i64 0, .int .i64 0, .bool false]).cells (n + 1 - i) ++ Builtin.zeroCells (Value.agg #[.int .i64 0, .int .i64 0, .bool false]).cells (G - (n + 1)) := ⟨_, rfl⟩
  have hrz : ∀ ty, (Builtin.append_ #[40, 3] ty #[.slice (some ⟨g, 0, none⟩) i cap, .int .i64 ((n : Int) + 1 - (i : Int))]).run Try.prog w = .ok (.slice (some ⟨w.heap.size, 0, none⟩) (n + 1) G) (w.drew.alloc (.cells R0 64)) := fun ty => by
    have hold : (Builtin.firstCells i0.size i (.slice (some ⟨g, 0, none⟩) i cap)).run Try.prog w.drew = .ok (cs.take (i * 3)).toArray w.drew := by
      rw [hz1]
      exact run_firstCells_some w.drew 3 i ⟨g, 0, none⟩ i cap (cs.take (i * 3)) (by rw [List.length_take]; omega) (fun j v hj => by
        rw [add_at', Nat.zero_add]
        rw [List.getElem?_take] at hj
        split at hj
        · exact hsrc j v hj
        · cases hj)
    have h := Lib.run_append_grow_zeros w 40 3 ty 64 i0 _ .i64 .i64 Try.underlying40 Try.underlying3 hinf hz0 (some ⟨g, 0, none⟩) i cap (cs.take (i * 3)) hold (n + 1 - i) (by omega) (by omega) (by omega) (by omega) (by rw [hz2]; omega) (growslice_fits_wide (by omega) (by rw [hz2]; omega))
    rw [show i + (n + 1 - i) = n + 1 from by omega, ← hG, ← hR0] at h
    rw [show (n : Int) + 1 - (i : Int) = ((n + 1 - i : Nat) : Int) from by omega]
    exact h
  have hzc : (Value.agg #[.int .i64 0, .int .i64 0, .bool false]).cells.size = 3 := rfl
  have s0 : R0.toList.length = G * 3 := by
    rw [hR0]
    simp [size_zeroCells, hzc, hcsl]
    omega
  have t0 : R0.toList.take (i * 3) = cs.take (i * 3) := by
    rw [hR0]
    simp only [Array.toList_append, List.append_assoc]
    exact List.take_left' (by simp [hcsl]; omega)
  have g0 : (w.drew.alloc (.cells R0 64)).heap[w.heap.size]? = some (.cells R0 64 (0, 0)) := heap_alloc_new w.drew _
  have gr0 : Grow w (w.drew.alloc (.cells R0 64)) := (Grow.refl w).drew.alloc _
  generalize w.drew.alloc (.cells R0 64) = W0 at *
  have x0 := grow_block gr0 hx
  obtain ⟨R1, hR1⟩ : ∃ R1 : List Value, R1 = R0.toList.take (i * 3) ++ xs ++ R0.toList.drop (i * 3 + 3) := ⟨_, rfl⟩
  obtain ⟨R2, hR2⟩ : ∃ R2 : List Value, R2 = R1.take (i * 3 + 3) ++ cs.drop (i * 3) ++ R1.drop (i * 3 + 3 + (n * 3 - i * 3)) := ⟨_, rfl⟩
  have t2 : R2.take ((n + 1) * 3) = cs.take (i * 3) ++ xs ++ cs.drop (i * 3) := by
    rw [hR2, hR1, show (n + 1) * 3 = n * 3 + 3 from by omega]
    exact row_new (by omega) hxl t0 hcsl
  have l1 : R1.length = G * 3 := by rw [hR1]; simp [hxl]; simp at s0; omega
  have l2 : R2.length = G * 3 := by rw [hR2]; simp [hcsl, l1]; omega
  have hdl : (cs.drop (i * 3)).length = (n - i) * 3 := by rw [List.length_drop]; omega
  have hcp1 : ∀ ty dc, (Builtin.copy_ #[40, 40] ty #[.slice (some ⟨w.heap.size, i * 3, none⟩) (n + 1 - i) dc, .slice (some ⟨vb, 0, none⟩) 1 vc]).run Try.prog W0 = .ok (goInt 1) (W0.setRow w.heap.size R1.toArray) := fun ty dc => by
    have hm : Nat.min 1 (n + 1 - i) = 1 := by simp only [Nat.min_def]; split <;> omega
    have := run_copy_row (P := Try.prog) W0 40 40 ty 64 3 w.heap.size (i * 3) (n + 1 - i) dc ⟨vb, 0, none⟩ 1 vc xs R0 64 Try.underlying40 i0 hinf hz1 (by rw [hm, hxl]) (news_block x0 hxt) g0 (by rw [hxl]; simp at s0; omega) h1
    rw [hm, hxl, ← hR1] at this
    exact this
  have g1 : (W0.setRow w.heap.size R1.toArray).heap[w.heap.size]? = some (.cells R1.toArray 64 (0, 0)) := setRow_heap W0 w.heap.size _ R1.toArray 64 (0, 0) g0
  have gr1 : Grow w (W0.setRow w.heap.size R1.toArray) := Below.trans gr0 ⟨rfl, rfl, rfl, by simp [World.setRow], fun k hk => setRow_other _ _ _ _ (by omega)⟩
  generalize W0.setRow w.heap.size R1.toArray = W1 at *
  have hcp2 : ∀ ty dc sc, (Builtin.copy_ #[40, 40] ty #[.slice (some ⟨w.heap.size, (i + 1) * 3, none⟩) (n - i) dc, .slice (some ⟨g, i * 3, none⟩) (n - i) sc]).run Try.prog W1.drew = .ok (goInt ((n - i : Nat) : Int)) (W1.drew.setRow w.heap.size R2.toArray) := fun ty dc sc => by
    have hm : Nat.min (n - i) (n - i) = n - i := Nat.min_self _
    have := run_copy_row (P := Try.prog) W1.drew 40 40 ty 64 3 w.heap.size ((i + 1) * 3) (n - i) dc ⟨g, i * 3, none⟩ (n - i) sc (cs.drop (i * 3)) R1.toArray 64 Try.underlying40 i0 hinf hz1 (by rw [hm, hdl])
      (fun j v hj => by
        rw [add_at']
        rw [List.getElem?_drop] at hj
        exact cell_grow gr1.drew (hsrc _ v hj)) g1 (by rw [hdl]; simp; omega) (fun v hv => h1c v (List.mem_of_mem_drop hv))
    rw [hm, hdl, show (i + 1) * 3 = i * 3 + 3 from by omega, show i * 3 + 3 + (n - i) * 3 = i * 3 + 3 + (n * 3 - i * 3) from by omega] at this
    simp only at this
    rw [← hR2] at this
    rw [show (i + 1) * 3 = i * 3 + 3 from by omega]
    exact this
  have HG2 : Hid ((W1.drew.setRow w.heap.size R2.toArray).ownsRow base 64 3 (.slice (some ⟨w.heap.size, 0, none⟩) (n + 1) G) (n + 1) (cs.take (i * 3) ++ xs ++ cs.drop (i * 3))) :=
    ⟨by simp [hxl, hcsl]; omega, .inr ⟨w.heap.size, G, R2.toArray, rfl, hb, setRow_heap W1.drew w.heap.size _ R2.toArray 64 (0, 0) g1, hGn, hGm, by simpa using l2, t2⟩⟩
  have HGR : Hid (Grow w (W1.drew.setRow w.heap.size R2.toArray)) := Below.trans gr1.drew ⟨rfl, rfl, rfl, by simp [World.setRow], fun k hk => setRow_other _ _ _ _ (by omega)⟩
  generalize W1.drew.setRow w.heap.size R2.toArray = W2 at *
  clear hR0 hR1 hR2 t0 t2 s0 l1 l2 g0 x0 gr0 g1 gr1 hdl hcsl ht h1c h1 hx hxt hxs hxl hg hcs hsrc hG hb hGm
  have hcn : ¬ (G = i + 1) := by omega
  have hcn' : ¬ (G = i) := by omega
  have hcn2 : ¬ (cap = i) := by omega
  go_enter Try.func80, Try.ntmps80
  go_wp2_with (first
    | (at_builtin; go_must (refine wpList_append_ran _ (by rfl) _ _ 40 3 (by rfl) _ _ (by rfl) (by rfl) (hrz _) ?_))
    | (at_builtin; go_must (refine wpList_copy_run _ (by rfl) _ _ 40 40 (by rfl) _ _ (by rfl) (by rfl) (hcp1 _ _) ?_)))
  refine wp_region_path [(0, 0), (1, 0), (2, 0), (3, 2), (4, 2), (5, 0), (6, 0), (7, 2), (8, 3)] (by kernel_rfl) (by kernel_rfl) (by kernel_rfl) (by kernel_rfl) ?_
  simp only [parts, headed, headed2, List.getElem?_toArray, List.getElem?_cons_zero, List.getElem?_cons_succ]
  refine parts_step fun K HK => ?_
  go_wp2_with fail
  refine HK.out _ _ (Grow.refl _) ?_
  clear HK K
  refine parts_step2 (fun hw => by first | (cases hw; done) | (apply looks_run; intro w'; go_simp; try first | rfl | rw [if_neg (by omega)] | rw [if_pos (by omega)])) fun K HK => ?_
  go_wp2_with fail
  refine HK.out _ _ (Grow.refl _) ?_
  clear HK K
  refine parts_step2 (fun hw => by first | (cases hw; done) | (apply looks_run; intro w'; go_simp; try first | rfl | rw [if_neg (by omega)] | rw [if_pos (by omega)])) fun K HK => ?_
  go_wp2_with fail
  refine HK.out _ _ (Grow.refl _) ?_
  clear HK K
  refine parts_cut2 (fun hw => by first | (cases hw; done) | (apply looks_run; intro w'; go_simp; try first | rfl | rw [if_neg (by omega)] | rw [if_pos (by omega)])) fun K HK => ?_
  go_wp2_with (at_builtin; go_must (refine wpList_copy_run _ (by rfl) _ _ 40 40 (by rfl) _ _ (by rfl) (by rfl) (hcp2 _ _ _) ?_))
  refine HK.out _ _ ?_
  clear HK K
  refine parts_step fun K HK => ?_
  go_wp2_with fail
  refine HK.out _ _ (Grow.refl _) ?_
  clear HK K
  refine parts_done ?_
  go_wp2
  go_ret
  exact ⟨G, rfl, HG2.out, HGR.out⟩

/-- slices.Insert of one wait into a row of one's own. -/
theorem insert_any (base : Nat) (v : Value) (n i : Nat) (cs xs : List Value) (vb vc : Nat) (xv : Array Value) (w : World) (hown : w.ownsRow base 64 3 v n cs) (hx : w.heap[vb]? = some (.cells xv 64 (0, 0))) (hne : v.ownBlock ≠ some vb) (hxl : xs.length = 3) (hxt : xv.toList.take 3 = xs) (hxs : xv.size = vc * 3) (hvc : 1 ≤ vc) (h1 : ∀ u ∈ xs, u.oneCell' = true) (h1c : ∀ u ∈ cs, u.oneCell' = true) (hn : n ≤ 1000) (hi : i ≤ n) (hb : base ≤ w.heap.size) :
    Calls Try.prog 80 #[v, .int .i64 i, .slice (some ⟨vb, 0, none⟩) 1 vc] w fun e w' => ∃ g cap, e = .returned (.slice (some ⟨g, 0, none⟩) (n + 1) cap) ∧ w'.ownsRow base 64 3 (.slice (some ⟨g, 0, none⟩) (n + 1) cap) (n + 1) (cs.take (i * 3) ++ xs ++ cs.drop (i * 3)) ∧ w.grownBy w' v.ownBlock ∧ (v.ownBlock = some g ∨ w.heap.size ≤ g) := by
  by_cases e : i = n
  · subst e
    refine (insert_end base v i cs xs vb vc xv w hown hx hxl hxt hxs hvc h1 hn hb).mono ?_
    rintro e w' ⟨g, cap, he, ho, hgr, hat⟩
    refine ⟨g, cap, he, ?_, hgr, hat.imp id fun h => by omega⟩
    have hl := hown.1
    rw [List.take_of_length_le (by omega), List.drop_of_length_le (by omega), List.append_nil]
    exact ho
  · rcases hown.2 with ⟨rfl, rfl⟩ | ⟨g, cap, cur, rfl, hbg, hg, hle, hcm, hcs, ht⟩
    · omega
    · by_cases hroom : n + 1 ≤ cap
      · refine (insert_room base g n cap i cur cs xs vb vc xv w hg hbg hcm hcs ht hroom (by omega) hx (fun e => hne (by rw [e]; rfl)) hxl hxt hxs hvc h1 h1c hn).mono ?_
        rintro e w' ⟨he, ho, hgr⟩
        exact ⟨g, cap, he, ho, hgr, .inl rfl⟩
      · refine (insert_grow base g n cap i cur cs xs vb vc xv w hg hb hcm hcs ht hle (by omega) (by omega) hx hxl hxt hxs hvc h1 h1c hn).mono ?_
        rintro e w' ⟨cap', he, ho, hgr⟩
        exact ⟨w.heap.size, cap', he, ho, grownBy_of_grow hgr _, .inr (Nat.le_refl _)⟩
end Go.Proofs.Ytlioojekjnigiab.IW
/- slices.Delete of one wait, of a row of one's own. -/
namespace Go.Proofs.Ytlioojekjnigiab.DW
open Go.RowKit

set_option maxHeartbeats 4000000 in
set_option maxRecDepth 100000 in
theorem delete_any (base g m cap i : Nat) (cs : List Value) (w : World) (hown : w.ownsRow base 64 3 (.slice (some ⟨g, 0, none⟩) (m + 1) cap) (m + 1) cs) (hi : i ≤ m) (h1c : ∀ u ∈ cs, u.oneCell' = true) (hm : m ≤ 1000) :
    Calls Try.prog 81 #[.slice (some ⟨g, 0, none⟩) (m + 1) cap, .int .i64 i, .int .i64 ((i : Int) + 1)] w fun e w' => e = .returned (.slice (some ⟨g, 0, none⟩) m cap) ∧ w'.ownsRow base 64 3 (.slice (some ⟨g, 0, none⟩) m cap) m (cs.take (i * 3) ++ cs.drop (i * 3 + 3)) ∧ w.grownBy w' (some g) := by
  obtain ⟨i0, hinf, hz0, hz1, hz2⟩ := info_parts IW.infoT
  rcases hown with ⟨hl, ⟨h0, _⟩ | ⟨g', cap', cur, hv, hbg, hg, hle, hcm, hcs, ht⟩⟩
  · cases h0
  cases hv
  have hcm' : cap ≤ 9223372036854775807 := by unfold maxLen at hcm; omega
  obtain ⟨R1, hR1⟩ : ∃ R1 : List Value, R1 = cur.toList.take (i * 3) ++ cs.drop (i * 3 + 3) ++ cur.toList.drop (i * 3 + ((m + 1) * 3 - (i * 3 + 3))) := ⟨_, rfl⟩
  obtain ⟨R2, hR2⟩ : ∃ R2 : List Value, R2 = R1.take (m * 3) ++ (Builtin.zeroCells (Value.agg #[.int .i64 0, .int .i64 0, .bool false]).cells (0 + 1)).toList ++ R1.drop (m * 3 + 3) := ⟨_, rfl⟩
  have hcl : cur.toList.length = cap * 3 := by simpa using hcs
  have hzc : (Value.agg #[.int .i64 0, .int .i64 0, .bool false]).cells.size = 3 := rfl
  have hzl : (Builtin.zeroCells (Value.agg #[.int .i64 0, .int .i64 0, .bool false]).cells (0 + 1)).toList.length = 3 := by simp [size_zeroCells, hzc]
  have t2 : R2.take (m * 3) = cs.take (i * 3) ++ cs.drop (i * 3 + 3) := by
    have := row_cut (cur := cur.toList) (cs := cs) (I := i * 3) (N := (m + 1) * 3) (k := 3) (by omega) hzl (by omega) ht
    rw [show (m + 1) * 3 - 3 = m * 3 from by omega, ← hR1, ← hR2] at this
    exact this
  have s1 : R1.length = cap * 3 := by rw [hR1]; simp [hl, hcs]; omega
  have s2 : R2.length = cap * 3 := by
    rw [hR2]
    simp only [List.length_append, hzl, List.length_take, List.length_drop, s1]
    omega
  have hdl : (cs.drop (i * 3 + 3)).length = (m - i) * 3 := by rw [List.length_drop]; omega
  have hrz : ∀ ty A c, (i < m → A = ⟨g, (i + 1) * 3, none⟩) → (Builtin.append_ #[40, 40] ty #[.slice (some ⟨g, 0, none⟩) i cap, .slice (some A) (m - i) c]).run Try.prog w.drew = .ok (.slice (some ⟨g, 0, none⟩) m cap) (w.drew.setRow g R1.toArray) := fun ty A c hA => by
    have := run_append_room (P := Try.prog) w.drew 40 ty 64 i0 Try.underlying40 hinf g i cap cur hg A (m - i) c (cs.drop (i * 3 + 3)) (by rw [hz1, hdl])
      (fun j u hj => by
        have hlt : j < (cs.drop (i * 3 + 3)).length := (List.getElem?_eq_some_iff.1 hj).1
        rw [hA (by omega), add_at']
        rw [List.getElem?_drop, ← ht, List.getElem?_take] at hj
        split at hj
        · exact cell_of_block (w := w.drew) hg (by rw [show (i + 1) * 3 + j = i * 3 + 3 + j from by omega]; simpa using hj)
        · cases hj) (fun v hv => h1c v (List.mem_of_mem_drop hv)) (by omega) (by rw [hz1, hdl]; omega)
    rw [hz1, hdl, show i + (m - i) = m from by omega, show i * 3 + (m - i) * 3 = i * 3 + ((m + 1) * 3 - (i * 3 + 3)) from by omega, ← hR1] at this
    exact this
  have g1 : (w.drew.setRow g R1.toArray).heap[g]? = some (.cells R1.toArray 64 (0, 0)) := setRow_heap w.drew g _ R1.toArray 64 (0, 0) hg
  have gr1 : w.grownBy (w.drew.setRow g R1.toArray) (some g) := grownBy_trans (grownBy_drew w _) (grownBy_setRow (w := w.drew) hg)
  generalize w.drew.setRow g R1.toArray = W1 at *
  have hcr : ∀ ty c, (Builtin.clear_ #[40] ty #[.slice (some ⟨g, m * 3, none⟩) 1 c]).run Try.prog W1 = .ok (.tuple #[]) (W1.setRow g R2.toArray) := fun ty c => by
    have := run_clear_row (P := Try.prog) W1 40 64 ty (.agg #[.int .i64 0, .int .i64 0, .bool false]) Try.underlying40 Try.zeroValue64 (by decide) g (m * 3) 0 c R1.toArray 64 g1 (by rw [hzc]; simp; omega)
    rw [hzc] at this
    simp only [Nat.zero_add, Nat.one_mul] at this
    rw [hR2]
    exact this
  have HG2 : Hid ((W1.setRow g R2.toArray).ownsRow base 64 3 (.slice (some ⟨g, 0, none⟩) m cap) m (cs.take (i * 3) ++ cs.drop (i * 3 + 3))) :=
    ⟨by simp [hl]; omega, .inr ⟨g, cap, R2.toArray, rfl, hbg, setRow_heap W1 g _ R2.toArray 64 (0, 0) g1, by omega, hcm, by simpa using s2, t2⟩⟩
  have HGR : Hid (w.grownBy (W1.setRow g R2.toArray) (some g)) := grownBy_trans gr1 (grownBy_setRow g1)
  generalize W1.setRow g R2.toArray = W2 at *
  clear hR1 hR2 t2 s1 s2 hzl hzc hdl g1 gr1 hcl ht h1c hg hcs hl
  have hcn : ¬ (cap = m) := by omega
  by_cases hc : cap = i + 1
  · obtain rfl : m = i := by omega
    subst hc
    have hr := fun ty A c => hrz ty A c (fun h => absurd h (Nat.lt_irrefl _))
    clear hrz
    simp only [Nat.sub_self] at hr
    go_enter Try.func81, Try.ntmps81
    go_wp2_with fail
    refine wp_region_path [(0, 0), (1, 0), (2, 2), (3, 0), (4, 0), (5, 2), (6, 3), (7, 0)] (by kernel_rfl) (by kernel_rfl) (by kernel_rfl) (by kernel_rfl) ?_
    simp only [parts, headed, headed2, List.getElem?_toArray, List.getElem?_cons_zero, List.getElem?_cons_succ]
    refine parts_step fun K HK => ?_
    go_wp2_with fail
    refine HK.out _ _ (Grow.refl _) ?_
    clear HK K
    refine parts_step2 (fun hw => by first | (cases hw; done) | (apply looks_run; intro w'; go_simp; try first | rfl | rw [if_neg (by omega)] | rw [if_pos (by omega)])) fun K HK => ?_
    go_wp2_with fail
    refine HK.out _ _ (Grow.refl _) ?_
    clear HK K
    refine parts_cut2 (fun hw => by first | (cases hw; done) | (apply looks_run; intro w'; go_simp; try first | rfl | rw [if_neg (by omega)] | rw [if_pos (by omega)])) fun K HK => ?_
    go_wp2_with (at_builtin; go_must (refine wpList_append_ran _ (by rfl) _ _ 40 40 (by rfl) _ _ (by rfl) (by rfl) (hr _ _ _) ?_))
    refine HK.out _ _ ?_
    clear HK K
    refine parts_step fun K HK => ?_
    go_wp2_with fail
    refine HK.out _ _ (Grow.refl _) ?_
    clear HK K
    refine parts_done ?_
    go_wp2_with (at_builtin; go_must (refine wpList_clear_run _ (by rfl) _ 40 (by rfl) _ (by rfl) (hcr _ _) ?_))
    go_ret
    exact ⟨rfl, HG2.out, HGR.out⟩
  · have hr := fun ty c => hrz ty ⟨g, (i + 1) * 3, none⟩ c (fun _ => rfl)
    clear hrz
    go_enter Try.func81, Try.ntmps81
    go_wp2_with fail
    refine wp_region_path [(0, 0), (1, 0), (2, 2), (3, 0), (4, 0), (5, 2), (6, 3), (7, 0)] (by kernel_rfl) (by kernel_rfl) (by kernel_rfl) (by kernel_rfl) ?_
    simp only [parts, headed, headed2, List.getElem?_toArray, List.getElem?_cons_zero, List.getElem?_cons_succ]
    refine parts_step fun K HK => ?_
    go_wp2_with fail
    refine HK.out _ _ (Grow.refl _) ?_
    clear HK K
    refine parts_step2 (fun hw => by first | (cases hw; done) | (apply looks_run; intro w'; go_simp; try first | rfl | rw [if_neg (by omega)] | rw [if_pos (by omega)])) fun K HK => ?_
    go_wp2_with fail
    refine HK.out _ _ (Grow.refl _) ?_
    clear HK K
    refine parts_cut2 (fun hw => by first | (cases hw; done) | (apply looks_run; intro w'; go_simp; try first | rfl | rw [if_neg (by omega)] | rw [if_pos (by omega)])) fun K HK => ?_
    go_wp2_with (at_builtin; go_must (refine wpList_append_ran _ (by rfl) _ _ 40 40 (by rfl) _ _ (by rfl) (by rfl) (hr _ _) ?_))
    refine HK.out _ _ ?_
    clear HK K
    refine parts_step fun K HK => ?_
    go_wp2_with fail
    refine HK.out _ _ (Grow.refl _) ?_
    clear HK K
    refine parts_done ?_
    go_wp2_with (at_builtin; go_must (refine wpList_clear_run _ (by rfl) _ 40 (by rfl) _ (by rfl) (hcr _ _) ?_))
    go_ret
    exact ⟨rfl, HG2.out, HGR.out⟩
end Go.Proofs.Ytlioojekjnigiab.DW
/- Servers: one more waits, one less. -/
namespace Go.Proofs.Ytlioojekjnigiab.AM.Sk
set_option linter.unusedVariables false
set_option linter.unusedSimpArgs false
set_option maxHeartbeats 0 in
theorem insertWait_end (es : List (List D)) (x : List D) (hs : es.length ≤ 1000) (hx : x.length = 3) : ECall Try.prog 80 [.row 0, dInt es.length, .row 1] [(0, .rows 64 3 es true), (1, .rows 64 3 [x] true)] 2 (.row 2) [(0, .dead), (1, .dead), (2, .rows 64 3 (es ++ [x]) true)] 1 := by
  refine acall_intro tab_all tab_mixed Try.func80 (by kernel_rfl) Try.ntmps80 rfl ?_
  conv => whnf
  refine .mk es.length es.length rfl rfl (Nat.le_refl _) (Nat.le_refl _) ?_
  conv => whnf
  repeat (first | (refine Conf.mk (by kernel_rfl) ?_; conv => whnf) | (refine SeqOk.go ?_; conv => whnf))
  refine BoolCase.no rfl ?_
  conv => whnf
  repeat (first | (refine Conf.mk (by kernel_rfl) ?_; conv => whnf) | (refine SeqOk.go ?_; conv => whnf))
  refine BoolCase.yes (beq_self_eq_true _) ?_
  conv => whnf
  repeat (first | (refine Conf.mk (by kernel_rfl) ?_; conv => whnf) | (refine SeqOk.go ?_; conv => whnf))
  refine ⟨by simpa using hx, by simp; omega, ?_⟩
  conv => whnf
  repeat (first | (refine Conf.mk (by kernel_rfl) ?_; conv => whnf) | (refine SeqOk.go ?_; conv => whnf))
  exact .mk [] [0, 1, 2] (.row 2) [(0, .dead), (1, .dead), (2, .rows 64 3 (es ++ [x]) true)] rfl (.same rfl) ⟨trivial, trivial, ⟨rfl, rfl, rfl, rfl⟩, trivial⟩ rfl rfl ⟨rfl, rfl, rfl⟩
theorem map_takeW {l : List Wt} {i : Nat} : (l.map Wt.enc).take i = (l.take i).map Wt.enc := by rw [List.map_take]
theorem map_dropW {l : List Wt} {i : Nat} : (l.map Wt.enc).drop i = (l.drop i).map Wt.enc := by rw [List.map_drop]
def putW3 (l : List Wt) (i : Nat) (t : Wt) : List Wt := l.take i ++ t :: l.drop i
theorem insertWait_ok (l : List Wt) (t : Wt) (i : Nat) (hi : i ≤ l.length) (hs : l.length ≤ 1000) : ECall Try.prog 80 [.row 0, dInt i, .row 1] [(0, .rows 64 3 (l.map Wt.enc) true), (1, .rows 64 3 [t.enc] true)] 2 (.row 2) [(0, .dead), (1, .dead), (2, .rows 64 3 ((putW3 l i t).map Wt.enc) true)] 1 := by
  have e : (putW3 l i t).map Wt.enc = (l.map Wt.enc).take i ++ t.enc :: (l.map Wt.enc).drop i := by
    unfold putW3
    rw [List.map_append, List.map_cons, map_takeW, map_dropW]
  rw [e]
  by_cases h : i = l.length
  · have := insertWait_end (l.map Wt.enc) t.enc (by simpa using hs) rfl
    rw [h, List.take_of_length_le (by simp), List.drop_of_length_le (by simp)]
    rw [List.length_map] at this
    exact this
  · exact acall_insert (T := 64) (k := 3) (by decide) (by kernel_rfl) (l.map Wt.enc) t.enc i (by simp; omega) (by simpa using hs) fun n i v cs xs vb vc xv w h1 h2 h3 h4 h5 h6 h7 h8 h9 h10 h11 => IW.insert_any 0 v n i cs xs vb vc xv w h1 h2 h3 h4 h5 h6 h7 h8 h9 h10 h11 (Nat.zero_le _)
theorem deleteWait_ok (l : List Wt) (i : Nat) (hi : i < l.length) (hs : l.length ≤ 1000) : ECall Try.prog 81 [.row 0, dInt i, dInt (IntKind.i64.wrap ((i : Int) + 1))] [(0, .rows 64 3 (l.map Wt.enc) true)] 1 (.row 1) [(0, .dead), (1, .rows 64 3 ((l.eraseIdx i).map Wt.enc) true)] 1 := by
  have e : (l.eraseIdx i).map Wt.enc = (l.map Wt.enc).take i ++ (l.map Wt.enc).drop (i + 1) := by
    rw [List.eraseIdx_eq_take_drop_succ, List.map_append, map_takeW, map_dropW]
  rw [e, wrap_id (by omega) (by omega)]
  exact acall_delete (T := 64) (k := 3) (by decide) (by kernel_rfl) (l.map Wt.enc) i (by simpa using hi) (by simpa using hs) fun g m cap i cs w h1 h2 h3 h4 => DW.delete_any 0 g m cap i cs w h1 h2 h3 h4
theorem insAt_lt {n : Int} : ∀ {ws : List Wt} {i : Nat} (hi : i < ws.length), i < insAt ws n → ws[i].number < n
  | [], i, hi, _ => by simp at hi
  | t :: u, i, hi, h => by
    unfold insAt at h
    split at h
    · rename_i hl
      match i with
      | 0 => exact hl
      | i + 1 => exact insAt_lt (ws := u) (by simpa using hi) (by omega)
    · omega
theorem insAt_at {n : Int} : ∀ {ws : List Wt} (hi : insAt ws n < ws.length), ¬ (ws[insAt ws n]).number < n
  | [], hi => by simp at hi
  | t :: u, hi => by
    by_cases hl : t.number < n
    · have e : insAt (t :: u) n = insAt u n + 1 := by rw [insAt, if_pos hl]
      have hi' : insAt u n < u.length := by rw [e] at hi; simpa using hi
      have := insAt_at (ws := u) hi'
      simp only [e, List.getElem_cons_succ]
      exact this
    · have e : insAt (t :: u) n = 0 := by rw [insAt, if_neg hl]
      simp only [e, List.getElem_cons_zero]
      exact hl
set_option maxHeartbeats 0 in
theorem kawait_ok (c : Int) (ws : List Wt) (ds : List Int) (n t : Int) (hs : ws.length ≤ 1000) : ECall Try.prog 73 [.ptr 0 0, .agg [dInt n, dInt t, .kb false]] [(0, .vars 90 3 [dInt c, .row 1, .row 2] true), (1, .rows 64 3 (ws.map Wt.enc) true), (2, .rows 3 1 (ds.map encI) true)] 3 (.tup []) [(0, .vars 90 3 [dInt c, .row 3, .row 2] true), (1, .dead), (2, .rows 3 1 (ds.map encI) true), (3, .rows 64 3 ((insertW ws ⟨n, t, false⟩).map Wt.enc) true)] 1 := by
  have hple := insAt_le ws n
  refine acall_cut tab_all tab_mixed Try.func73 (by kernel_rfl) Try.ntmps73 rfl ?_
  conv => whnf
  conv => whnf
  refine SeqOk.cut' ⟨[(0, .ptr 0 0), (4, dInt (insAt ws n)), (3, .ptr 3 0)], 4, [(0, .vars 90 3 [dInt c, .row 1, .row 2] true), (1, .rows 64 3 (ws.map Wt.enc) true), (2, .rows 3 1 (ds.map encI) true), (3, .vars 64 3 [dInt n, dInt t, .kb false] true)]⟩ ?_ ?_
  · conv => whnf
    refine LoopOk.mk (fun m s => ∃ i, i + m = insAt ws n ∧ s = ⟨[(0, .ptr 0 0), (4, dInt i), (3, .ptr 3 0)], 4, [(0, .vars 90 3 [dInt c, .row 1, .row 2] true), (1, .rows 64 3 (ws.map Wt.enc) true), (2, .rows 3 1 (ds.map encI) true), (3, .vars 64 3 [dInt n, dInt t, .kb false] true)]⟩) (insAt ws n) (Into.mono (Into.to [0, 1, 2, 3] [(0, .ptr 0 0), (4, dInt (0 : Nat)), (3, .ptr 3 0)] [(0, .vars 90 3 [dInt c, .row 1, .row 2] true), (1, .rows 64 3 (ws.map Wt.enc) true), (2, .rows 3 1 (ds.map encI) true), (3, .vars 64 3 [dInt n, dInt t, .kb false] true)] (by repeat (first | exact trivial | refine ⟨.same (congrArg dInt (wrap_up (by omega))), ?_⟩ | refine ⟨.same rfl, ?_⟩ | refine ⟨.any _, ?_⟩)) ⟨⟨rfl, rfl, rfl, .same rfl, rfl, .same rfl, rfl, .same rfl, rfl, trivial⟩, ⟨rfl, rfl, rfl, rfl⟩, ⟨rfl, rfl, rfl, rfl⟩, ⟨rfl, rfl, rfl, .same rfl, rfl, .same rfl, rfl, .same rfl, rfl, trivial⟩, trivial⟩ rfl rfl) fun s' h => ⟨0, by omega, h⟩) ?_
    rintro m s ⟨i, hi, rfl⟩
    conv => whnf
    repeat (first | (refine Conf.mk (by kernel_rfl) ?_; conv => whnf) | (refine SeqOk.go ?_; conv => whnf))
    refine ⟨fun h => ?_, fun h => ?_⟩
    · have hi' := lt_of h
      conv => whnf
      repeat (first | (refine Conf.mk (by kernel_rfl) ?_; conv => whnf) | (refine SeqOk.go ?_; conv => whnf))
      refine AtIdx.ofMap hi' rfl ?_
      conv => whnf
      repeat (first | (refine Conf.mk (by kernel_rfl) ?_; conv => whnf) | (refine SeqOk.go ?_; conv => whnf))
      refine .mk _ (by rw [List.getElem?_map, List.getElem?_eq_getElem hi']; rfl) ?_
      conv => whnf
      repeat (first | (refine Conf.mk (by kernel_rfl) ?_; conv => whnf) | (refine SeqOk.go ?_; conv => whnf))
      by_cases hlt : i < insAt ws n
      · refine BoolCase.yes (by simpa using insAt_lt hi' hlt) ?_
        conv => whnf
        repeat (first | (refine Conf.mk (by kernel_rfl) ?_; conv => whnf) | (refine SeqOk.go ?_; conv => whnf))
        exact Into.mono (Into.to [0, 1, 2, 3] [(0, .ptr 0 0), (4, dInt (i + 1 : Nat)), (3, .ptr 3 0)] [(0, .vars 90 3 [dInt c, .row 1, .row 2] true), (1, .rows 64 3 (ws.map Wt.enc) true), (2, .rows 3 1 (ds.map encI) true), (3, .vars 64 3 [dInt n, dInt t, .kb false] true)] (by repeat (first | exact trivial | refine ⟨.same (congrArg dInt (wrap_up (by omega))), ?_⟩ | refine ⟨.same rfl, ?_⟩ | refine ⟨.any _, ?_⟩)) ⟨⟨rfl, rfl, rfl, .same rfl, rfl, .same rfl, rfl, .same rfl, rfl, trivial⟩, ⟨rfl, rfl, rfl, rfl⟩, ⟨rfl, rfl, rfl, rfl⟩, ⟨rfl, rfl, rfl, .same rfl, rfl, .same rfl, rfl, .same rfl, rfl, trivial⟩, trivial⟩ rfl rfl) fun s' h => ⟨m - 1, by omega, i + 1, by omega, h⟩
      · have hie : i = insAt ws n := by omega
        subst hie
        refine BoolCase.no (by simpa using insAt_at hi') ?_
        conv => whnf
        repeat (first | (refine Conf.mk (by kernel_rfl) ?_; conv => whnf) | (refine SeqOk.go ?_; conv => whnf))
        exact Into.to [0, 1, 2, 3] [(0, .ptr 0 0), (4, dInt (insAt ws n)), (3, .ptr 3 0)] [(0, .vars 90 3 [dInt c, .row 1, .row 2] true), (1, .rows 64 3 (ws.map Wt.enc) true), (2, .rows 3 1 (ds.map encI) true), (3, .vars 64 3 [dInt n, dInt t, .kb false] true)] (by repeat (first | exact trivial | refine ⟨.same (congrArg dInt (wrap_up (by omega))), ?_⟩ | refine ⟨.same rfl, ?_⟩ | refine ⟨.any _, ?_⟩)) ⟨⟨rfl, rfl, rfl, .same rfl, rfl, .same rfl, rfl, .same rfl, rfl, trivial⟩, ⟨rfl, rfl, rfl, rfl⟩, ⟨rfl, rfl, rfl, rfl⟩, ⟨rfl, rfl, rfl, .same rfl, rfl, .same rfl, rfl, .same rfl, rfl, trivial⟩, trivial⟩ rfl rfl
    · have hie : i = insAt ws n := by have := ge_of h; omega
      subst hie
      conv => whnf
      repeat (first | (refine Conf.mk (by kernel_rfl) ?_; conv => whnf) | (refine SeqOk.go ?_; conv => whnf))
      exact Into.to [0, 1, 2, 3] [(0, .ptr 0 0), (4, dInt (insAt ws n)), (3, .ptr 3 0)] [(0, .vars 90 3 [dInt c, .row 1, .row 2] true), (1, .rows 64 3 (ws.map Wt.enc) true), (2, .rows 3 1 (ds.map encI) true), (3, .vars 64 3 [dInt n, dInt t, .kb false] true)] (by repeat (first | exact trivial | refine ⟨.same (congrArg dInt (wrap_up (by omega))), ?_⟩ | refine ⟨.same rfl, ?_⟩ | refine ⟨.any _, ?_⟩)) ⟨⟨rfl, rfl, rfl, .same rfl, rfl, .same rfl, rfl, .same rfl, rfl, trivial⟩, ⟨rfl, rfl, rfl, rfl⟩, ⟨rfl, rfl, rfl, rfl⟩, ⟨rfl, rfl, rfl, .same rfl, rfl, .same rfl, rfl, .same rfl, rfl, trivial⟩, trivial⟩ rfl rfl
  · conv => whnf
    repeat (first | (refine Conf.mk (by kernel_rfl) ?_; conv => whnf) | (refine SeqOk.go ?_; conv => whnf))
    refine .eff [1, 4] _ _ _ _ 1 (insertWait_ok ws ⟨n, t, false⟩ (insAt ws n) hple hs) rfl rfl rfl rfl rfl ?_
    conv => whnf
    repeat (first | (refine Conf.mk (by kernel_rfl) ?_; conv => whnf) | (refine SeqOk.go ?_; conv => whnf))
    exact .mk [] [0, 1, 2, 5] (.tup []) [(0, .vars 90 3 [dInt c, .row 3, .row 2] true), (1, .dead), (2, .rows 3 1 (ds.map encI) true), (3, .rows 64 3 ((insertW ws ⟨n, t, false⟩).map Wt.enc) true)] rfl (.same rfl) ⟨⟨rfl, rfl, rfl, .same rfl, rfl, .same rfl, rfl, .same rfl, rfl, trivial⟩, trivial, ⟨rfl, rfl, rfl, rfl⟩, ⟨rfl, rfl, rfl, rfl⟩, trivial⟩ rfl rfl ⟨rfl, rfl, rfl⟩
end Go.Proofs.Ytlioojekjnigiab.AM.Sk
/- Servers: Propose. -/
namespace Go.Proofs.Ytlioojekjnigiab.AM.Sk
set_option linter.unusedVariables false
set_option linter.unusedSimpArgs false
set_option maxHeartbeats 0 in
theorem scopyOf_ok (s : Sv) (hw : s.waits.length ≤ 1000) (hl : s.done.length ≤ 1000) : ECall Try.prog 49 [s.arg] [] 0 (.agg [dInt s.clock, .row 0, .row 1]) [(0, .rows 64 3 (s.waits.map Wt.enc) true), (1, .rows 3 1 (s.done.map encI) true)] 2 := by
  refine acall_cut tab_all tab_mixed Try.func49 (by kernel_rfl) Try.ntmps49 rfl ?_
  conv => whnf
  conv => whnf
  repeat (first | (refine Conf.mk (by kernel_rfl) ?_; conv => whnf) | (refine SeqOk.go ?_; conv => whnf))
  refine ⟨by simp [Wt.enc], by simp; omega, ?_⟩
  conv => whnf
  repeat (first | (refine Conf.mk (by kernel_rfl) ?_; conv => whnf) | (refine SeqOk.go ?_; conv => whnf))
  refine ⟨by simp [encI], by simp; omega, ?_⟩
  conv => whnf
  repeat (first | (refine Conf.mk (by kernel_rfl) ?_; conv => whnf) | (refine SeqOk.go ?_; conv => whnf))
  exact .mk [] [2, 3] (.agg [dInt s.clock, .row 0, .row 1]) [(0, .rows 64 3 (s.waits.map Wt.enc) true), (1, .rows 3 1 (s.done.map encI) true)] rfl (.same rfl) ⟨⟨rfl, rfl, rfl, rfl⟩, ⟨rfl, rfl, rfl, rfl⟩, trivial⟩ rfl rfl ⟨rfl, rfl, rfl⟩
set_option maxHeartbeats 0 in
theorem kpropose_no (c : Int) (ws : List Wt) (ds : List Int) (n : Int) (hw : ws.length ≤ 1000) (hl : ds.length ≤ 1000) (h : propErr ⟨c, ws, ds⟩ n ≠ 0) : ECall Try.prog 50 [.ptr 0 0, dInt n] [(0, .vars 90 3 [dInt c, .row 1, .row 2] true), (1, .rows 64 3 (ws.map Wt.enc) true), (2, .rows 3 1 (ds.map encI) true)] 3 (dInt (propErr ⟨c, ws, ds⟩ n)) [(0, .vars 90 3 [dInt c, .row 1, .row 2] true), (1, .rows 64 3 (ws.map Wt.enc) true), (2, .rows 3 1 (ds.map encI) true)] 0 := by
  refine acall_cut tab_all tab_mixed Try.func50 (by kernel_rfl) Try.ntmps50 rfl ?_
  conv => whnf
  conv => whnf
  repeat (first | (refine Conf.mk (by kernel_rfl) ?_; conv => whnf) | (refine SeqOk.go ?_; conv => whnf))
  refine .data _ _ (isNumber_ok n) rfl ?_
  conv => whnf
  repeat (first | (refine Conf.mk (by kernel_rfl) ?_; conv => whnf) | (refine SeqOk.go ?_; conv => whnf))
  by_cases h1 : isNum n = false
  · have hE : propErr ⟨c, ws, ds⟩ n = 3 := by unfold propErr; rw [if_pos h1]
    refine BoolCase.yes (by rw [h1]; rfl) ?_
    conv => whnf
    repeat (first | (refine Conf.mk (by kernel_rfl) ?_; conv => whnf) | (refine SeqOk.go ?_; conv => whnf))
    rw [hE]
    exact .mk [] [0, 1, 2] _ [(0, .vars 90 3 [dInt c, .row 1, .row 2] true), (1, .rows 64 3 (ws.map Wt.enc) true), (2, .rows 3 1 (ds.map encI) true)] rfl (.same rfl) ⟨⟨rfl, rfl, rfl, .same rfl, rfl, .same rfl, rfl, .same rfl, rfl, trivial⟩, ⟨rfl, rfl, rfl, rfl⟩, ⟨rfl, rfl, rfl, rfl⟩, trivial⟩ rfl rfl ⟨rfl, rfl, rfl⟩
  · refine BoolCase.no (by simpa using h1) ?_
    conv => whnf
    repeat (first | (refine Conf.mk (by kernel_rfl) ?_; conv => whnf) | (refine SeqOk.go ?_; conv => whnf))
    refine .look _ _ (find_ok ws n hw) rfl rfl ?_
    conv => whnf
    repeat (first | (refine Conf.mk (by kernel_rfl) ?_; conv => whnf) | (refine SeqOk.go ?_; conv => whnf))
    by_cases h2 : (findAt ws n).isSome = true
    · have hE : propErr ⟨c, ws, ds⟩ n = 6 := by unfold propErr; rw [if_neg h1, if_pos (.inl h2)]
      refine BoolCase.yes ((optInt_nonneg _).trans h2) ?_
      conv => whnf
      repeat (first | (refine Conf.mk (by kernel_rfl) ?_; conv => whnf) | (refine SeqOk.go ?_; conv => whnf))
      rw [hE]
      exact .mk [] [0, 1, 2] _ [(0, .vars 90 3 [dInt c, .row 1, .row 2] true), (1, .rows 64 3 (ws.map Wt.enc) true), (2, .rows 3 1 (ds.map encI) true)] rfl (.same rfl) ⟨⟨rfl, rfl, rfl, .same rfl, rfl, .same rfl, rfl, .same rfl, rfl, trivial⟩, ⟨rfl, rfl, rfl, rfl⟩, ⟨rfl, rfl, rfl, rfl⟩, trivial⟩ rfl rfl ⟨rfl, rfl, rfl⟩
    · refine BoolCase.no ((optInt_nonneg _).trans (by simpa using h2)) ?_
      conv => whnf
      repeat (first | (refine Conf.mk (by kernel_rfl) ?_; conv => whnf) | (refine SeqOk.go ?_; conv => whnf))
      refine .look _ _ (contains_ok ds n hl) rfl rfl ?_
      conv => whnf
      repeat (first | (refine Conf.mk (by kernel_rfl) ?_; conv => whnf) | (refine SeqOk.go ?_; conv => whnf))
      by_cases h3 : n ∈ ds
      · have hE : propErr ⟨c, ws, ds⟩ n = 6 := by unfold propErr; rw [if_neg h1, if_pos (.inr h3)]
        refine BoolCase.yes (by simpa using h3) ?_
        conv => whnf
        repeat (first | (refine Conf.mk (by kernel_rfl) ?_; conv => whnf) | (refine SeqOk.go ?_; conv => whnf))
        rw [hE]
        exact .mk [] [0, 1, 2] _ [(0, .vars 90 3 [dInt c, .row 1, .row 2] true), (1, .rows 64 3 (ws.map Wt.enc) true), (2, .rows 3 1 (ds.map encI) true)] rfl (.same rfl) ⟨⟨rfl, rfl, rfl, .same rfl, rfl, .same rfl, rfl, .same rfl, rfl, trivial⟩, ⟨rfl, rfl, rfl, rfl⟩, ⟨rfl, rfl, rfl, rfl⟩, trivial⟩ rfl rfl ⟨rfl, rfl, rfl⟩
      · refine BoolCase.no (by simpa using h3) ?_
        conv => whnf
        repeat (first | (refine Conf.mk (by kernel_rfl) ?_; conv => whnf) | (refine SeqOk.go ?_; conv => whnf))
        have hE : propErr ⟨c, ws, ds⟩ n = 2 := by
          unfold propErr at h ⊢
          rw [if_neg h1, if_neg (by rintro (k | k); exact h2 k; exact h3 k)] at h ⊢
          split at h
          · rename_i k; exact if_pos k
          · exact absurd rfl h
        have h4 : ws.length = 8 ∨ c = 999 := by
          unfold propErr at hE
          rw [if_neg h1, if_neg (by rintro (k | k); exact h2 k; exact h3 k)] at hE
          split at hE
          · rename_i k; exact k
          · cases hE
        by_cases h5 : ws.length = 8
        · refine BoolCase.yes (by simp; omega) ?_
          conv => whnf
          repeat (first | (refine Conf.mk (by kernel_rfl) ?_; conv => whnf) | (refine SeqOk.go ?_; conv => whnf))
          rw [hE]
          exact .mk [] [0, 1, 2] _ [(0, .vars 90 3 [dInt c, .row 1, .row 2] true), (1, .rows 64 3 (ws.map Wt.enc) true), (2, .rows 3 1 (ds.map encI) true)] rfl (.same rfl) ⟨⟨rfl, rfl, rfl, .same rfl, rfl, .same rfl, rfl, .same rfl, rfl, trivial⟩, ⟨rfl, rfl, rfl, rfl⟩, ⟨rfl, rfl, rfl, rfl⟩, trivial⟩ rfl rfl ⟨rfl, rfl, rfl⟩
        · refine BoolCase.no (by simp; omega) ?_
          conv => whnf
          repeat (first | (refine Conf.mk (by kernel_rfl) ?_; conv => whnf) | (refine SeqOk.go ?_; conv => whnf))
          refine BoolCase.yes (by simpa using h4.resolve_left h5) ?_
          conv => whnf
          repeat (first | (refine Conf.mk (by kernel_rfl) ?_; conv => whnf) | (refine SeqOk.go ?_; conv => whnf))
          rw [hE]
          exact .mk [] [0, 1, 2] _ [(0, .vars 90 3 [dInt c, .row 1, .row 2] true), (1, .rows 64 3 (ws.map Wt.enc) true), (2, .rows 3 1 (ds.map encI) true)] rfl (.same rfl) ⟨⟨rfl, rfl, rfl, .same rfl, rfl, .same rfl, rfl, .same rfl, rfl, trivial⟩, ⟨rfl, rfl, rfl, rfl⟩, ⟨rfl, rfl, rfl, rfl⟩, trivial⟩ rfl rfl ⟨rfl, rfl, rfl⟩
set_option maxHeartbeats 0 in
theorem kpropose_ok (c : Int) (ws : List Wt) (ds : List Int) (n : Int) (hw : ws.length ≤ 1000) (hl : ds.length ≤ 1000) (hc : 0 ≤ c ∧ c ≤ 999) (h : propErr ⟨c, ws, ds⟩ n = 0) : ECall Try.prog 50 [.ptr 0 0, dInt n] [(0, .vars 90 3 [dInt c, .row 1, .row 2] true), (1, .rows 64 3 (ws.map Wt.enc) true), (2, .rows 3 1 (ds.map encI) true)] 3 (dInt 0) [(0, .vars 90 3 [dInt (c + 1), .row 3, .row 2] true), (1, .dead), (2, .rows 3 1 (ds.map encI) true), (3, .rows 64 3 ((insertW ws ⟨n, c + 1, false⟩).map Wt.enc) true)] 1 := by
  obtain ⟨h1, h2, h3, h4, h5⟩ := propErr_zero h
  simp only at h2 h3 h4 h5
  have hfn : (findAt ws n).isSome = false := by
    rw [Bool.eq_false_iff]
    intro k
    obtain ⟨x, hx, hxn⟩ := findAt_isSome.1 k
    exact h2 x hx hxn
  refine acall_cut tab_all tab_mixed Try.func50 (by kernel_rfl) Try.ntmps50 rfl ?_
  conv => whnf
  conv => whnf
  repeat (first | (refine Conf.mk (by kernel_rfl) ?_; conv => whnf) | (refine SeqOk.go ?_; conv => whnf))
  refine .data _ _ (isNumber_ok n) rfl ?_
  conv => whnf
  repeat (first | (refine Conf.mk (by kernel_rfl) ?_; conv => whnf) | (refine SeqOk.go ?_; conv => whnf))
  refine BoolCase.no (by rw [h1]; rfl) ?_
  conv => whnf
  repeat (first | (refine Conf.mk (by kernel_rfl) ?_; conv => whnf) | (refine SeqOk.go ?_; conv => whnf))
  refine .look _ _ (find_ok ws n hw) rfl rfl ?_
  conv => whnf
  repeat (first | (refine Conf.mk (by kernel_rfl) ?_; conv => whnf) | (refine SeqOk.go ?_; conv => whnf))
  refine BoolCase.no ((optInt_nonneg _).trans hfn) ?_
  conv => whnf
  repeat (first | (refine Conf.mk (by kernel_rfl) ?_; conv => whnf) | (refine SeqOk.go ?_; conv => whnf))
  refine .look _ _ (contains_ok ds n hl) rfl rfl ?_
  conv => whnf
  repeat (first | (refine Conf.mk (by kernel_rfl) ?_; conv => whnf) | (refine SeqOk.go ?_; conv => whnf))
  refine BoolCase.no (by simpa using h3) ?_
  conv => whnf
  repeat (first | (refine Conf.mk (by kernel_rfl) ?_; conv => whnf) | (refine SeqOk.go ?_; conv => whnf))
  refine BoolCase.no (by simp; omega) ?_
  conv => whnf
  repeat (first | (refine Conf.mk (by kernel_rfl) ?_; conv => whnf) | (refine SeqOk.go ?_; conv => whnf))
  refine BoolCase.no (by simp; omega) ?_
  conv => whnf
  repeat (first | (refine Conf.mk (by kernel_rfl) ?_; conv => whnf) | (refine SeqOk.go ?_; conv => whnf))
  rw [wrap_id (n := c + 1) (by omega) (by omega)]
  refine .eff [0, 1, 2] _ _ _ _ 1 (kawait_ok (c + 1) ws ds n (c + 1) hw) rfl rfl rfl rfl rfl ?_
  conv => whnf
  repeat (first | (refine Conf.mk (by kernel_rfl) ?_; conv => whnf) | (refine SeqOk.go ?_; conv => whnf))
  exact .mk [] [0, 1, 2, 3] (dInt 0) [(0, .vars 90 3 [dInt (c + 1), .row 3, .row 2] true), (1, .dead), (2, .rows 3 1 (ds.map encI) true), (3, .rows 64 3 ((insertW ws ⟨n, c + 1, false⟩).map Wt.enc) true)] rfl (.same rfl) ⟨⟨rfl, rfl, rfl, .same rfl, rfl, .same rfl, rfl, .same rfl, rfl, trivial⟩, trivial, ⟨rfl, rfl, rfl, rfl⟩, ⟨rfl, rfl, rfl, rfl⟩, trivial⟩ rfl rfl ⟨rfl, rfl, rfl⟩
end Go.Proofs.Ytlioojekjnigiab.AM.Sk
/- Servers: what is done. -/
namespace Go.Proofs.Ytlioojekjnigiab.AM.Sk
set_option linter.unusedVariables false
set_option linter.unusedSimpArgs false
theorem settle_go {m : Nat} {wt : List Wt} {dn : List Int} (hm : wt.length = m) (h : finalFirst wt = true) : ∃ m' x, m = m' + 1 ∧ wt[firstAt wt]? = some x ∧ firstAt wt < wt.length ∧ settle m wt dn = settle m' (wt.eraseIdx (firstAt wt)) (dn ++ [x.number]) ∧ (wt.eraseIdx (firstAt wt)).length = m' := by
  obtain ⟨x, hx, hf⟩ := finalFirst_some h
  have hlt := (List.getElem?_eq_some_iff.1 hx).1
  have hle := List.length_eraseIdx_of_lt hlt
  refine ⟨m - 1, x, by omega, hx, hlt, ?_, by omega⟩
  have e : m = m - 1 + 1 := by omega
  rw [e]
  exact settle_step hx hf dn (m - 1)
set_option maxHeartbeats 0 in
theorem ksettle_ok (c : Int) (ws : List Wt) (ds : List Int) (hlen : ws.length + ds.length ≤ 1000) : ACall Try.prog 74 [.ptr 0 0] [(0, .vars 90 3 [dInt c, .row 1, .row 2] true), (1, .rows 64 3 (ws.map Wt.enc) true), (2, .rows 3 1 (ds.map encI) true)] 3 fun x H' n' => (x = .tup [] ∧ settle ws.length ws ds = (ws, ds) ∧ H' = [(0, .vars 90 3 [dInt c, .row 1, .row 2] true), (1, .rows 64 3 (ws.map Wt.enc) true), (2, .rows 3 1 (ds.map encI) true)] ∧ n' = 3) ∨ (x = .tup [] ∧ H' = [(0, .vars 90 3 [dInt c, .row 3, .row 4] true), (1, .dead), (2, .dead), (3, .rows 64 3 ((settle ws.length ws ds).1.map Wt.enc) true), (4, .rows 3 1 ((settle ws.length ws ds).2.map encI) true)] ∧ n' = 5) := by
  refine acall_cut tab_all tab_mixed Try.func74 (by kernel_rfl) Try.ntmps74 rfl ?_
  conv => whnf
  refine LoopOk.hide fun Q1 hQ1 => ?_
  refine LoopOk.mk (fun m s => ∃ wt dn, wt.length = m ∧ wt.length + dn.length ≤ 1000 ∧ settle ws.length ws ds = settle m wt dn ∧ ((wt = ws ∧ dn = ds ∧ s = ⟨[(0, .ptr 0 0)], 3, [(0, .vars 90 3 [dInt c, .row 1, .row 2] true), (1, .rows 64 3 (ws.map Wt.enc) true), (2, .rows 3 1 (ds.map encI) true)]⟩) ∨ s = ⟨[(0, .ptr 0 0)], 5, [(0, .vars 90 3 [dInt c, .row 3, .row 4] true), (1, .dead), (2, .dead), (3, .rows 64 3 (wt.map Wt.enc) true), (4, .rows 3 1 (dn.map encI) true)]⟩)) ws.length (Into.mono (Into.to [0, 1, 2] [(0, .ptr 0 0)] [(0, .vars 90 3 [dInt c, .row 1, .row 2] true), (1, .rows 64 3 (ws.map Wt.enc) true), (2, .rows 3 1 (ds.map encI) true)] (by repeat (first | exact trivial | refine ⟨.same (congrArg dInt (wrap_up (by omega))), ?_⟩ | refine ⟨.same rfl, ?_⟩ | refine ⟨.any _, ?_⟩)) ⟨⟨rfl, rfl, rfl, .same rfl, rfl, .same rfl, rfl, .same rfl, rfl, trivial⟩, ⟨rfl, rfl, rfl, rfl⟩, ⟨rfl, rfl, rfl, rfl⟩, trivial⟩ rfl rfl) fun s' h => ⟨ws, ds, rfl, hlen, rfl, .inl ⟨rfl, rfl, h⟩⟩) ?_
  rintro m s ⟨wt, dn, hm, hle, hst, hs⟩
  have hff := isFinalFirst_ok wt (by omega)
  rcases hs with ⟨hA1, hA2, rfl⟩ | rfl
  · have hA1 := hA1.symm
    have hA2 := hA2.symm
    subst hA1 hA2
    conv => whnf
    repeat (first | (refine Conf.mk (by kernel_rfl) ?_; conv => whnf) | (refine SeqOk.go ?_; conv => whnf))
    refine .look _ _ hff rfl rfl ?_
    conv => whnf
    repeat (first | (refine Conf.mk (by kernel_rfl) ?_; conv => whnf) | (refine SeqOk.go ?_; conv => whnf))
    cases hfv : finalFirst ws with
    | false =>
      refine BoolCase.no rfl ?_
      conv => whnf
      repeat (first | (refine Conf.mk (by kernel_rfl) ?_; conv => whnf) | (refine SeqOk.go ?_; conv => whnf))
      subst hQ1
      conv => whnf
      exact .mk [] [0, 1, 2] (.tup []) [(0, .vars 90 3 [dInt c, .row 1, .row 2] true), (1, .rows 64 3 (ws.map Wt.enc) true), (2, .rows 3 1 (ds.map encI) true)] rfl (.same rfl) ⟨⟨rfl, rfl, rfl, .same rfl, rfl, .same rfl, rfl, .same rfl, rfl, trivial⟩, ⟨rfl, rfl, rfl, rfl⟩, ⟨rfl, rfl, rfl, rfl⟩, trivial⟩ rfl rfl (.inl ⟨rfl, settle_stop hfv ds _, rfl, rfl⟩)
    | true =>
      obtain ⟨m', x, e1, hx, hlt, hss, hl2⟩ := settle_go (dn := ds) hm hfv
      have hfs := first_ok ws (by omega) (by omega)
      have hrow : (ds ++ [ws[firstAt ws].number]).map encI = ds.map encI ++ [[.int .i64 ws[firstAt ws].number]] := by rw [List.map_append]; rfl
      rw [show x = ws[firstAt ws] by rw [List.getElem?_eq_getElem hlt] at hx; exact (Option.some.inj hx).symm] at hss
      refine BoolCase.yes rfl ?_
      conv => whnf
      repeat (first | (refine Conf.mk (by kernel_rfl) ?_; conv => whnf) | (refine SeqOk.go ?_; conv => whnf))
      refine .look _ _ hfs rfl rfl ?_
      conv => whnf
      repeat (first | (refine Conf.mk (by kernel_rfl) ?_; conv => whnf) | (refine SeqOk.go ?_; conv => whnf))
      refine AtIdx.ofMap hlt rfl ?_
      conv => whnf
      repeat (first | (refine Conf.mk (by kernel_rfl) ?_; conv => whnf) | (refine SeqOk.go ?_; conv => whnf))
      refine .mk _ (by rw [List.getElem?_map, List.getElem?_eq_getElem hlt]; rfl) ?_
      conv => whnf
      repeat (first | (refine Conf.mk (by kernel_rfl) ?_; conv => whnf) | (refine SeqOk.go ?_; conv => whnf))
      refine ⟨by simp [encI], by simp; omega, ?_⟩
      conv => whnf
      repeat (first | (refine Conf.mk (by kernel_rfl) ?_; conv => whnf) | (refine SeqOk.go ?_; conv => whnf))
      refine .eff [1] _ _ _ _ 1 (deleteWait_ok ws (firstAt ws) hlt (by omega)) rfl rfl rfl rfl rfl ?_
      conv => whnf
      repeat (first | (refine Conf.mk (by kernel_rfl) ?_; conv => whnf) | (refine SeqOk.go ?_; conv => whnf))
      exact Into.mono (Into.to [0, 1, 2, 5, 4] [(0, .ptr 0 0)] [(0, .vars 90 3 [dInt c, .row 3, .row 4] true), (1, .dead), (2, .dead), (3, .rows 64 3 ((ws.eraseIdx (firstAt ws)).map Wt.enc) true), (4, .rows 3 1 ((ds ++ [ws[firstAt ws].number]).map encI) true)] (by repeat (first | exact trivial | refine ⟨.same (congrArg dInt (wrap_up (by omega))), ?_⟩ | refine ⟨.same rfl, ?_⟩ | refine ⟨.any _, ?_⟩)) ⟨⟨rfl, rfl, rfl, .same rfl, rfl, .same rfl, rfl, .same rfl, rfl, trivial⟩, trivial, trivial, ⟨rfl, rfl, rfl, rfl⟩, ⟨rfl, rfl, rfl, hrow⟩, trivial⟩ rfl rfl) fun s' h => ⟨m', by omega, ws.eraseIdx (firstAt ws), ds ++ [ws[firstAt ws].number], hl2, by simp; omega, by rw [hst, hss], .inr h⟩
  · conv => whnf
    repeat (first | (refine Conf.mk (by kernel_rfl) ?_; conv => whnf) | (refine SeqOk.go ?_; conv => whnf))
    refine .look _ _ hff rfl rfl ?_
    conv => whnf
    repeat (first | (refine Conf.mk (by kernel_rfl) ?_; conv => whnf) | (refine SeqOk.go ?_; conv => whnf))
    cases hfv : finalFirst wt with
    | false =>
      have hend := settle_stop hfv dn m
      refine BoolCase.no rfl ?_
      conv => whnf
      repeat (first | (refine Conf.mk (by kernel_rfl) ?_; conv => whnf) | (refine SeqOk.go ?_; conv => whnf))
      subst hQ1
      conv => whnf
      exact .mk [] [0, 1, 2, 3, 4] (.tup []) [(0, .vars 90 3 [dInt c, .row 3, .row 4] true), (1, .dead), (2, .dead), (3, .rows 64 3 ((settle ws.length ws ds).1.map Wt.enc) true), (4, .rows 3 1 ((settle ws.length ws ds).2.map encI) true)] rfl (.same rfl) ⟨⟨rfl, rfl, rfl, .same rfl, rfl, .same rfl, rfl, .same rfl, rfl, trivial⟩, trivial, trivial, ⟨rfl, rfl, rfl, by rw [hst, hend]⟩, ⟨rfl, rfl, rfl, by rw [hst, hend]⟩, trivial⟩ rfl rfl (.inr ⟨rfl, rfl, rfl⟩)
    | true =>
      obtain ⟨m', x, e1, hx, hlt, hss, hl2⟩ := settle_go (dn := dn) hm hfv
      have hfs := first_ok wt (by omega) (by omega)
      have hrow : (dn ++ [wt[firstAt wt].number]).map encI = dn.map encI ++ [[.int .i64 wt[firstAt wt].number]] := by rw [List.map_append]; rfl
      rw [show x = wt[firstAt wt] by rw [List.getElem?_eq_getElem hlt] at hx; exact (Option.some.inj hx).symm] at hss
      refine BoolCase.yes rfl ?_
      conv => whnf
      repeat (first | (refine Conf.mk (by kernel_rfl) ?_; conv => whnf) | (refine SeqOk.go ?_; conv => whnf))
      refine .look _ _ hfs rfl rfl ?_
      conv => whnf
      repeat (first | (refine Conf.mk (by kernel_rfl) ?_; conv => whnf) | (refine SeqOk.go ?_; conv => whnf))
      refine AtIdx.ofMap hlt rfl ?_
      conv => whnf
      repeat (first | (refine Conf.mk (by kernel_rfl) ?_; conv => whnf) | (refine SeqOk.go ?_; conv => whnf))
      refine .mk _ (by rw [List.getElem?_map, List.getElem?_eq_getElem hlt]; rfl) ?_
      conv => whnf
      repeat (first | (refine Conf.mk (by kernel_rfl) ?_; conv => whnf) | (refine SeqOk.go ?_; conv => whnf))
      refine ⟨by simp [encI], by simp; omega, ?_⟩
      conv => whnf
      repeat (first | (refine Conf.mk (by kernel_rfl) ?_; conv => whnf) | (refine SeqOk.go ?_; conv => whnf))
      refine .eff [3] _ _ _ _ 1 (deleteWait_ok wt (firstAt wt) hlt (by omega)) rfl rfl rfl rfl rfl ?_
      conv => whnf
      repeat (first | (refine Conf.mk (by kernel_rfl) ?_; conv => whnf) | (refine SeqOk.go ?_; conv => whnf))
      exact Into.mono (Into.to [0, 1, 2, 7, 6] [(0, .ptr 0 0)] [(0, .vars 90 3 [dInt c, .row 3, .row 4] true), (1, .dead), (2, .dead), (3, .rows 64 3 ((wt.eraseIdx (firstAt wt)).map Wt.enc) true), (4, .rows 3 1 ((dn ++ [wt[firstAt wt].number]).map encI) true)] (by repeat (first | exact trivial | refine ⟨.same (congrArg dInt (wrap_up (by omega))), ?_⟩ | refine ⟨.same rfl, ?_⟩ | refine ⟨.any _, ?_⟩)) ⟨⟨rfl, rfl, rfl, .same rfl, rfl, .same rfl, rfl, .same rfl, rfl, trivial⟩, trivial, trivial, ⟨rfl, rfl, rfl, rfl⟩, ⟨rfl, rfl, rfl, hrow⟩, trivial⟩ rfl rfl) fun s' h => ⟨m', by omega, wt.eraseIdx (firstAt wt), dn ++ [wt[firstAt wt].number], hl2, by simp; omega, by rw [hst, hss], .inr h⟩
end Go.Proofs.Ytlioojekjnigiab.AM.Sk
/- Servers: Propose, commit. -/
namespace Go.Proofs.Ytlioojekjnigiab.AM.Sk
set_option linter.unusedVariables false
set_option linter.unusedSimpArgs false
theorem propR_no {s : Sv} {n : Int} (h : s.propE n ≠ 0) : s.propR n = zeroSv := by unfold Sv.propR; rw [if_neg h]
set_option maxHeartbeats 0 in
theorem sprop_ok (s : Sv) (n : Int) (hl : s.done.length ≤ 140737488355328) (hw : s.waits.length ≤ 140737488355328) : PCall Try.prog 19 [s.arg, dInt n] (.tup [(s.propR n).arg, dInt (s.propR n).clock, dInt (s.propE n)]) := by
  have hck := scheck_ok s hl hw
  refine pcall_cut tab_all tab_mixed Try.func19 (by kernel_rfl) Try.ntmps19 rfl ?_
  conv => whnf
  conv => whnf
  repeat (first | (refine Conf.mk (by kernel_rfl) ?_; conv => whnf) | (refine SeqOk.go ?_; conv => whnf))
  refine .data _ _ hck rfl ?_
  conv => whnf
  repeat (first | (refine Conf.mk (by kernel_rfl) ?_; conv => whnf) | (refine SeqOk.go ?_; conv => whnf))
  by_cases h1 : s.err = 0
  · obtain ⟨hc, hw8, hd30, _⟩ := s.fine h1
    have hE : s.propE n = propErr s n := by unfold Sv.propE; rw [if_neg (by simp [h1])]
    refine BoolCase.no (by simp [h1]) ?_
    conv => whnf
    repeat (first | (refine Conf.mk (by kernel_rfl) ?_; conv => whnf) | (refine SeqOk.go ?_; conv => whnf))
    refine .eff [] _ _ _ _ 2 (scopyOf_ok s (by omega) (by omega)) rfl rfl rfl rfl rfl ?_
    conv => whnf
    repeat (first | (refine Conf.mk (by kernel_rfl) ?_; conv => whnf) | (refine SeqOk.go ?_; conv => whnf))
    by_cases h2 : propErr s n = 0
    · have hR : s.propR n = ⟨s.clock + 1, insertW s.waits ⟨n, s.clock + 1, false⟩, s.done⟩ := by unfold Sv.propR; rw [hE, if_pos h2]; rfl
      refine .eff [4, 2, 3] _ _ _ _ 1 (kpropose_ok s.clock s.waits s.done n (by omega) (by omega) hc h2) rfl rfl rfl rfl rfl ?_
      conv => whnf
      repeat (first | (refine Conf.mk (by kernel_rfl) ?_; conv => whnf) | (refine SeqOk.go ?_; conv => whnf))
      refine BoolCase.no rfl ?_
      conv => whnf
      repeat (first | (refine Conf.mk (by kernel_rfl) ?_; conv => whnf) | (refine SeqOk.go ?_; conv => whnf))
      rw [hR, hE, h2]
      exact Ret.to rfl
    · have hR := propR_no (s := s) (n := n) (by rw [hE]; exact h2)
      refine .eff [4, 2, 3] _ _ _ _ 0 (kpropose_no s.clock s.waits s.done n (by omega) (by omega) h2) rfl rfl rfl rfl rfl ?_
      conv => whnf
      repeat (first | (refine Conf.mk (by kernel_rfl) ?_; conv => whnf) | (refine SeqOk.go ?_; conv => whnf))
      refine BoolCase.yes (by simpa using h2) ?_
      conv => whnf
      repeat (first | (refine Conf.mk (by kernel_rfl) ?_; conv => whnf) | (refine SeqOk.go ?_; conv => whnf))
      rw [hR, hE]
      exact Ret.to rfl
  · have hE : s.propE n = s.err := by unfold Sv.propE; rw [if_pos h1]
    have hR := propR_no (s := s) (n := n) (by rw [hE]; exact h1)
    refine BoolCase.yes (by simpa using h1) ?_
    conv => whnf
    repeat (first | (refine Conf.mk (by kernel_rfl) ?_; conv => whnf) | (refine SeqOk.go ?_; conv => whnf))
    rw [hR, hE]
    exact Ret.to rfl
set_option maxHeartbeats 0 in
theorem kcommit_ok (c : Int) (ws : List Wt) (ds : List Int) (n t : Int) (hw : ws.length ≤ 8) (hl : ds.length ≤ 30) : ACall Try.prog 51 [.ptr 0 0, dInt n, dInt t] [(0, .vars 90 3 [dInt c, .row 1, .row 2] true), (1, .rows 64 3 (ws.map Wt.enc) true), (2, .rows 3 1 (ds.map encI) true)] 3 fun x H' n' => x = dInt (commErr ⟨c, ws, ds⟩ n t) ∧ ((commErr ⟨c, ws, ds⟩ n t ≠ 0 ∧ H' = [(0, .vars 90 3 [dInt c, .row 1, .row 2] true), (1, .rows 64 3 (ws.map Wt.enc) true), (2, .rows 3 1 (ds.map encI) true)] ∧ n' = 3) ∨ ∃ i, findAt ws n = some i ∧ ((commSv ⟨c, ws, ds⟩ n t i = ⟨max c t, ws.set i ⟨n, t, true⟩, ds⟩ ∧ H' = [(0, .vars 90 3 [dInt (max c t), .row 1, .row 2] true), (1, .rows 64 3 ((ws.set i ⟨n, t, true⟩).map Wt.enc) true), (2, .rows 3 1 (ds.map encI) true)] ∧ n' = 3) ∨ (H' = [(0, .vars 90 3 [dInt (max c t), .row 3, .row 4] true), (1, .dead), (2, .dead), (3, .rows 64 3 ((commSv ⟨c, ws, ds⟩ n t i).waits.map Wt.enc) true), (4, .rows 3 1 ((commSv ⟨c, ws, ds⟩ n t i).done.map encI) true)] ∧ n' = 5))) := by
  refine acall_cut tab_all tab_mixed Try.func51 (by kernel_rfl) Try.ntmps51 rfl ?_
  conv => whnf
  conv => whnf
  repeat (first | (refine Conf.mk (by kernel_rfl) ?_; conv => whnf) | (refine SeqOk.go ?_; conv => whnf))
  refine .data _ _ (isNumber_ok n) rfl ?_
  conv => whnf
  repeat (first | (refine Conf.mk (by kernel_rfl) ?_; conv => whnf) | (refine SeqOk.go ?_; conv => whnf))
  by_cases h1 : isNum n = false
  · have hE : commErr ⟨c, ws, ds⟩ n t = 3 := by unfold commErr; rw [if_pos (.inl h1)]
    refine BoolCase.yes (by rw [h1]; rfl) ?_
    conv => whnf
    repeat (first | (refine Conf.mk (by kernel_rfl) ?_; conv => whnf) | (refine SeqOk.go ?_; conv => whnf))
    exact .mk [] [0, 1, 2] _ [(0, .vars 90 3 [dInt c, .row 1, .row 2] true), (1, .rows 64 3 (ws.map Wt.enc) true), (2, .rows 3 1 (ds.map encI) true)] rfl (.same rfl) ⟨⟨rfl, rfl, rfl, .same rfl, rfl, .same rfl, rfl, .same rfl, rfl, trivial⟩, ⟨rfl, rfl, rfl, rfl⟩, ⟨rfl, rfl, rfl, rfl⟩, trivial⟩ rfl rfl ⟨by rw [hE], .inl ⟨by rw [hE]; decide, rfl, rfl⟩⟩
  · refine BoolCase.no (by simpa using h1) ?_
    conv => whnf
    repeat (first | (refine Conf.mk (by kernel_rfl) ?_; conv => whnf) | (refine SeqOk.go ?_; conv => whnf))
    by_cases h2 : t < 1
    · have hE : commErr ⟨c, ws, ds⟩ n t = 3 := by unfold commErr; rw [if_pos (.inr (.inl h2))]
      refine BoolCase.yes (by simpa using h2) ?_
      conv => whnf
      repeat (first | (refine Conf.mk (by kernel_rfl) ?_; conv => whnf) | (refine SeqOk.go ?_; conv => whnf))
      exact .mk [] [0, 1, 2] _ [(0, .vars 90 3 [dInt c, .row 1, .row 2] true), (1, .rows 64 3 (ws.map Wt.enc) true), (2, .rows 3 1 (ds.map encI) true)] rfl (.same rfl) ⟨⟨rfl, rfl, rfl, .same rfl, rfl, .same rfl, rfl, .same rfl, rfl, trivial⟩, ⟨rfl, rfl, rfl, rfl⟩, ⟨rfl, rfl, rfl, rfl⟩, trivial⟩ rfl rfl ⟨by rw [hE], .inl ⟨by rw [hE]; decide, rfl, rfl⟩⟩
    · refine BoolCase.no (by simpa using h2) ?_
      conv => whnf
      repeat (first | (refine Conf.mk (by kernel_rfl) ?_; conv => whnf) | (refine SeqOk.go ?_; conv => whnf))
      by_cases h3 : 999 < t
      · have hE : commErr ⟨c, ws, ds⟩ n t = 3 := by unfold commErr; rw [if_pos (.inr (.inr h3))]
        refine BoolCase.yes (by simpa using h3) ?_
        conv => whnf
        repeat (first | (refine Conf.mk (by kernel_rfl) ?_; conv => whnf) | (refine SeqOk.go ?_; conv => whnf))
        exact .mk [] [0, 1, 2] _ [(0, .vars 90 3 [dInt c, .row 1, .row 2] true), (1, .rows 64 3 (ws.map Wt.enc) true), (2, .rows 3 1 (ds.map encI) true)] rfl (.same rfl) ⟨⟨rfl, rfl, rfl, .same rfl, rfl, .same rfl, rfl, .same rfl, rfl, trivial⟩, ⟨rfl, rfl, rfl, rfl⟩, ⟨rfl, rfl, rfl, rfl⟩, trivial⟩ rfl rfl ⟨by rw [hE], .inl ⟨by rw [hE]; decide, rfl, rfl⟩⟩
      · have hb : ¬ (isNum n = false ∨ t < 1 ∨ 999 < t) := by rintro (k | k | k); exact h1 k; exact h2 k; exact h3 k
        refine BoolCase.no (by simpa using h3) ?_
        conv => whnf
        repeat (first | (refine Conf.mk (by kernel_rfl) ?_; conv => whnf) | (refine SeqOk.go ?_; conv => whnf))
        refine .look _ _ (find_ok ws n (by omega)) rfl rfl ?_
        conv => whnf
        repeat (first | (refine Conf.mk (by kernel_rfl) ?_; conv => whnf) | (refine SeqOk.go ?_; conv => whnf))
        cases hf : findAt ws n with
        | none =>
          have hE : commErr ⟨c, ws, ds⟩ n t = 5 := by unfold commErr; rw [if_neg hb, hf]
          refine BoolCase.yes rfl ?_
          conv => whnf
          repeat (first | (refine Conf.mk (by kernel_rfl) ?_; conv => whnf) | (refine SeqOk.go ?_; conv => whnf))
          exact .mk [] [0, 1, 2] _ [(0, .vars 90 3 [dInt c, .row 1, .row 2] true), (1, .rows 64 3 (ws.map Wt.enc) true), (2, .rows 3 1 (ds.map encI) true)] rfl (.same rfl) ⟨⟨rfl, rfl, rfl, .same rfl, rfl, .same rfl, rfl, .same rfl, rfl, trivial⟩, ⟨rfl, rfl, rfl, rfl⟩, ⟨rfl, rfl, rfl, rfl⟩, trivial⟩ rfl rfl ⟨by rw [hE], .inl ⟨by rw [hE]; decide, rfl, rfl⟩⟩
        | some i =>
          obtain ⟨x, hx, hxn⟩ := findAt_is hf
          have hi := (List.getElem?_eq_some_iff.1 hx).1
          have hxe : x = ws[i] := by rw [List.getElem?_eq_getElem hi] at hx; exact (Option.some.inj hx).symm
          subst hxe
          have hC : commErr ⟨c, ws, ds⟩ n t = if ws[i].final = true ∨ t < ws[i].time then 4 else if 30 < (commSv ⟨c, ws, ds⟩ n t i).done.length then 2 else 0 := by
            unfold commErr
            rw [if_neg hb, hf]
            simp only [hx]
          refine BoolCase.no (decide_eq_false (by show ¬ ((i : Int) < 0); omega)) ?_
          conv => whnf
          repeat (first | (refine Conf.mk (by kernel_rfl) ?_; conv => whnf) | (refine SeqOk.go ?_; conv => whnf))
          refine AtIdx.ofMap hi rfl ?_
          conv => whnf
          repeat (first | (refine Conf.mk (by kernel_rfl) ?_; conv => whnf) | (refine SeqOk.go ?_; conv => whnf))
          refine .mk _ (by rw [List.getElem?_map, List.getElem?_eq_getElem hi]; rfl) ?_
          conv => whnf
          repeat (first | (refine Conf.mk (by kernel_rfl) ?_; conv => whnf) | (refine SeqOk.go ?_; conv => whnf))
          by_cases h4 : ws[i].final = true
          · have hE : commErr ⟨c, ws, ds⟩ n t = 4 := by rw [hC, if_pos (.inl h4)]
            refine BoolCase.yes h4 ?_
            conv => whnf
            repeat (first | (refine Conf.mk (by kernel_rfl) ?_; conv => whnf) | (refine SeqOk.go ?_; conv => whnf))
            exact .mk [] [0, 1, 2] _ [(0, .vars 90 3 [dInt c, .row 1, .row 2] true), (1, .rows 64 3 (ws.map Wt.enc) true), (2, .rows 3 1 (ds.map encI) true)] rfl (.same rfl) ⟨⟨rfl, rfl, rfl, .same rfl, rfl, .same rfl, rfl, .same rfl, rfl, trivial⟩, ⟨rfl, rfl, rfl, rfl⟩, ⟨rfl, rfl, rfl, rfl⟩, trivial⟩ rfl rfl ⟨by rw [hE], .inl ⟨by rw [hE]; decide, rfl, rfl⟩⟩
          · refine BoolCase.no (by simpa using h4) ?_
            conv => whnf
            repeat (first | (refine Conf.mk (by kernel_rfl) ?_; conv => whnf) | (refine SeqOk.go ?_; conv => whnf))
            by_cases h5 : t < ws[i].time
            · have hE : commErr ⟨c, ws, ds⟩ n t = 4 := by rw [hC, if_pos (.inr h5)]
              refine BoolCase.yes (by simpa using h5) ?_
              conv => whnf
              repeat (first | (refine Conf.mk (by kernel_rfl) ?_; conv => whnf) | (refine SeqOk.go ?_; conv => whnf))
              exact .mk [] [0, 1, 2] _ [(0, .vars 90 3 [dInt c, .row 1, .row 2] true), (1, .rows 64 3 (ws.map Wt.enc) true), (2, .rows 3 1 (ds.map encI) true)] rfl (.same rfl) ⟨⟨rfl, rfl, rfl, .same rfl, rfl, .same rfl, rfl, .same rfl, rfl, trivial⟩, ⟨rfl, rfl, rfl, rfl⟩, ⟨rfl, rfl, rfl, rfl⟩, trivial⟩ rfl rfl ⟨by rw [hE], .inl ⟨by rw [hE]; decide, rfl, rfl⟩⟩
            · refine BoolCase.no (by simpa using h5) ?_
              conv => whnf
              repeat (first | (refine Conf.mk (by kernel_rfl) ?_; conv => whnf) | (refine SeqOk.go ?_; conv => whnf))
              rw [if_neg (by rintro (k | k); exact h4 k; exact h5 k)] at hC
              refine AtIdx.mk i ws[i].enc rfl (by rw [List.getElem?_map, List.getElem?_eq_getElem hi]; rfl) rfl ?_
              conv => whnf
              repeat (first | (refine Conf.mk (by kernel_rfl) ?_; conv => whnf) | (refine SeqOk.go ?_; conv => whnf))
              refine .mk _ (by rw [List.getElem?_map, List.getElem?_eq_getElem hi]; rfl) ?_
              conv => whnf
              repeat (first | (refine Conf.mk (by kernel_rfl) ?_; conv => whnf) | (refine SeqOk.go ?_; conv => whnf))
              have hmx : (bif true then if t > c then t else c else if t < c then t else c) = max c t := by show (if t > c then t else c) = max c t; split <;> omega
              have hset : (ws.set i ⟨n, t, true⟩).map Wt.enc = (ws.map Wt.enc).set i (⟨n, t, true⟩ : Wt).enc := List.map_set
              have hlen : (ws.set i ⟨n, t, true⟩).length = ws.length := List.length_set
              have hse := ksettle_ok (bif true then if t > c then t else c else if t < c then t else c) (ws.set i ⟨n, t, true⟩) ds (by simp; omega)
              rw [hset, hlen] at hse
              refine .some [0, 1, 2] _ _ _ rfl hse rfl rfl rfl rfl rfl ?_
              rintro x Hc' m' (⟨rfl, hst, rfl, hm'⟩ | ⟨rfl, rfl, hm'⟩)
              · obtain rfl : m' = 0 := by simp at hm'; omega
                have hS : commSv ⟨c, ws, ds⟩ n t i = ⟨max c t, ws.set i ⟨n, t, true⟩, ds⟩ := by
                  show (⟨max c t, (settle ws.length (ws.set i ⟨n, t, true⟩) ds).1, (settle ws.length (ws.set i ⟨n, t, true⟩) ds).2⟩ : Sv) = _
                  rw [hst]
                have hE : commErr ⟨c, ws, ds⟩ n t = 0 := by rw [hC, hS]; exact if_neg (by show ¬ 30 < ds.length; omega)
                conv => whnf
                repeat (first | (refine Conf.mk (by kernel_rfl) ?_; conv => whnf) | (refine SeqOk.go ?_; conv => whnf))
                refine BoolCase.no (by simp; omega) ?_
                conv => whnf
                repeat (first | (refine Conf.mk (by kernel_rfl) ?_; conv => whnf) | (refine SeqOk.go ?_; conv => whnf))
                exact .mk [] [0, 1, 2] (dInt 0) [(0, .vars 90 3 [dInt (max c t), .row 1, .row 2] true), (1, .rows 64 3 ((ws.set i ⟨n, t, true⟩).map Wt.enc) true), (2, .rows 3 1 (ds.map encI) true)] rfl (.same rfl) ⟨⟨rfl, rfl, rfl, .same (by first | exact congrArg dInt hmx | exact congrArg dInt hmx.symm), rfl, .same rfl, rfl, .same rfl, rfl, trivial⟩, ⟨rfl, rfl, rfl, by first | exact hset | exact hset.symm⟩, ⟨rfl, rfl, rfl, rfl⟩, trivial⟩ rfl rfl ⟨by rw [hE], .inr ⟨i, rfl, .inl ⟨hS, rfl, rfl⟩⟩⟩
              · obtain rfl : m' = 2 := by simp at hm'; omega
                have hd : (commSv ⟨c, ws, ds⟩ n t i).done = (settle ws.length (ws.set i ⟨n, t, true⟩) ds).2 := rfl
                have hw2 : (commSv ⟨c, ws, ds⟩ n t i).waits = (settle ws.length (ws.set i ⟨n, t, true⟩) ds).1 := rfl
                rw [hd] at hC
                conv => whnf
                repeat (first | (refine Conf.mk (by kernel_rfl) ?_; conv => whnf) | (refine SeqOk.go ?_; conv => whnf))
                by_cases h6 : 30 < (settle ws.length (ws.set i ⟨n, t, true⟩) ds).2.length
                · rw [if_pos h6] at hC
                  refine BoolCase.yes (by simp; omega) ?_
                  conv => whnf
                  repeat (first | (refine Conf.mk (by kernel_rfl) ?_; conv => whnf) | (refine SeqOk.go ?_; conv => whnf))
                  exact .mk [] [0, 1, 2, 4, 5] _ [(0, .vars 90 3 [dInt (max c t), .row 3, .row 4] true), (1, .dead), (2, .dead), (3, .rows 64 3 ((commSv ⟨c, ws, ds⟩ n t i).waits.map Wt.enc) true), (4, .rows 3 1 ((commSv ⟨c, ws, ds⟩ n t i).done.map encI) true)] rfl (.same rfl) ⟨⟨rfl, rfl, rfl, .same (by first | exact congrArg dInt hmx | exact congrArg dInt hmx.symm), rfl, .same rfl, rfl, .same rfl, rfl, trivial⟩, trivial, trivial, ⟨rfl, rfl, rfl, rfl⟩, ⟨rfl, rfl, rfl, rfl⟩, trivial⟩ rfl rfl ⟨by rw [hC], .inr ⟨i, rfl, .inr ⟨rfl, rfl⟩⟩⟩
                · rw [if_neg h6] at hC
                  refine BoolCase.no (by simp; omega) ?_
                  conv => whnf
                  repeat (first | (refine Conf.mk (by kernel_rfl) ?_; conv => whnf) | (refine SeqOk.go ?_; conv => whnf))
                  exact .mk [] [0, 1, 2, 4, 5] _ [(0, .vars 90 3 [dInt (max c t), .row 3, .row 4] true), (1, .dead), (2, .dead), (3, .rows 64 3 ((commSv ⟨c, ws, ds⟩ n t i).waits.map Wt.enc) true), (4, .rows 3 1 ((commSv ⟨c, ws, ds⟩ n t i).done.map encI) true)] rfl (.same rfl) ⟨⟨rfl, rfl, rfl, .same (by first | exact congrArg dInt hmx | exact congrArg dInt hmx.symm), rfl, .same rfl, rfl, .same rfl, rfl, trivial⟩, trivial, trivial, ⟨rfl, rfl, rfl, rfl⟩, ⟨rfl, rfl, rfl, rfl⟩, trivial⟩ rfl rfl ⟨by rw [hC], .inr ⟨i, rfl, .inr ⟨rfl, rfl⟩⟩⟩
end Go.Proofs.Ytlioojekjnigiab.AM.Sk
/- Servers: Commit. -/
namespace Go.Proofs.Ytlioojekjnigiab.AM.Sk
set_option linter.unusedVariables false
set_option linter.unusedSimpArgs false

theorem commR_no {s : Sv} {n t : Int} (h : s.commE n t ≠ 0) : s.commR n t = zeroSv := by unfold Sv.commR; rw [if_neg h]
set_option maxHeartbeats 0 in
theorem scomm_ok (s : Sv) (n t : Int) (hl : s.done.length ≤ 140737488355328) (hw : s.waits.length ≤ 140737488355328) : PCall Try.prog 20 [s.arg, dInt n, dInt t] (.tup [(s.commR n t).arg, dInt (s.commE n t)]) := by
  have hck := scheck_ok s hl hw
  refine pcall_cut tab_all tab_mixed Try.func20 (by kernel_rfl) Try.ntmps20 rfl ?_
  conv => whnf
  conv => whnf
  repeat (first | (refine Conf.mk (by kernel_rfl) ?_; conv => whnf) | (refine SeqOk.go ?_; conv => whnf))
  refine .data _ _ hck rfl ?_
  conv => whnf
  repeat (first | (refine Conf.mk (by kernel_rfl) ?_; conv => whnf) | (refine SeqOk.go ?_; conv => whnf))
  by_cases h1 : s.err = 0
  · obtain ⟨hc, hw8, hd30, _⟩ := s.fine h1
    have hE : s.commE n t = commErr s n t := by unfold Sv.commE; rw [if_neg (by simp [h1])]
    refine BoolCase.no (by simp [h1]) ?_
    conv => whnf
    repeat (first | (refine Conf.mk (by kernel_rfl) ?_; conv => whnf) | (refine SeqOk.go ?_; conv => whnf))
    refine .eff [] _ _ _ _ 2 (scopyOf_ok s (by omega) (by omega)) rfl rfl rfl rfl rfl ?_
    conv => whnf
    repeat (first | (refine Conf.mk (by kernel_rfl) ?_; conv => whnf) | (refine SeqOk.go ?_; conv => whnf))
    refine .some [4, 2, 3] _ _ _ rfl (kcommit_ok s.clock s.waits s.done n t hw8 hd30) rfl rfl rfl rfl rfl ?_
    rintro x Hc' m' ⟨rfl, ⟨h2, rfl, hm'⟩ | ⟨i, hf, ⟨hS, rfl, hm'⟩ | ⟨rfl, hm'⟩⟩⟩
    · obtain rfl : m' = 0 := by simp at hm'; omega
      have h2 : commErr s n t ≠ 0 := h2
      have hR := commR_no (s := s) (n := n) (t := t) (by rw [hE]; exact h2)
      conv => whnf
      repeat (first | (refine Conf.mk (by kernel_rfl) ?_; conv => whnf) | (refine SeqOk.go ?_; conv => whnf))
      refine BoolCase.yes (by simpa using h2) ?_
      conv => whnf
      repeat (first | (refine Conf.mk (by kernel_rfl) ?_; conv => whnf) | (refine SeqOk.go ?_; conv => whnf))
      rw [hR, hE]
      exact Ret.to rfl
    · obtain rfl : m' = 0 := by simp at hm'; omega
      have hS : commSv s n t i = ⟨max s.clock t, s.waits.set i ⟨n, t, true⟩, s.done⟩ := hS
      have hret : AVal.tup [(⟨max s.clock t, s.waits.set i ⟨n, t, true⟩, s.done⟩ : Sv).arg, dInt 0] = .tup [(commSv s n t i).arg, dInt 0] := by rw [hS]
      conv => whnf
      repeat (first | (refine Conf.mk (by kernel_rfl) ?_; conv => whnf) | (refine SeqOk.go ?_; conv => whnf))
      by_cases h2 : commErr s n t = 0
      · have hR : s.commR n t = commSv s n t i := by unfold Sv.commR; rw [hE, if_pos h2, hf]; rfl
        refine BoolCase.no (by simpa using h2) ?_
        conv => whnf
        repeat (first | (refine Conf.mk (by kernel_rfl) ?_; conv => whnf) | (refine SeqOk.go ?_; conv => whnf))
        rw [hR, hE, h2]
        exact Ret.to hret
      · have hR := commR_no (s := s) (n := n) (t := t) (by rw [hE]; exact h2)
        refine BoolCase.yes (by simpa using h2) ?_
        conv => whnf
        repeat (first | (refine Conf.mk (by kernel_rfl) ?_; conv => whnf) | (refine SeqOk.go ?_; conv => whnf))
        rw [hR, hE]
        exact Ret.to rfl
    · obtain rfl : m' = 2 := by simp at hm'; omega
      have hret : AVal.tup [(commSv s n t i).arg, dInt 0] = .tup [(commSv s n t i).arg, dInt 0] := rfl
      conv => whnf
      repeat (first | (refine Conf.mk (by kernel_rfl) ?_; conv => whnf) | (refine SeqOk.go ?_; conv => whnf))
      by_cases h2 : commErr s n t = 0
      · have hR : s.commR n t = commSv s n t i := by unfold Sv.commR; rw [hE, if_pos h2, hf]; rfl
        refine BoolCase.no (by simpa using h2) ?_
        conv => whnf
        repeat (first | (refine Conf.mk (by kernel_rfl) ?_; conv => whnf) | (refine SeqOk.go ?_; conv => whnf))
        rw [hR, hE, h2]
        exact Ret.to hret
      · have hR := commR_no (s := s) (n := n) (t := t) (by rw [hE]; exact h2)
        refine BoolCase.yes (by simpa using h2) ?_
        conv => whnf
        repeat (first | (refine Conf.mk (by kernel_rfl) ?_; conv => whnf) | (refine SeqOk.go ?_; conv => whnf))
        rw [hR, hE]
        exact Ret.to rfl
  · have hE : s.commE n t = s.err := by unfold Sv.commE; rw [if_pos h1]
    have hR := commR_no (s := s) (n := n) (t := t) (by rw [hE]; exact h1)
    refine BoolCase.yes (by simpa using h1) ?_
    conv => whnf
    repeat (first | (refine Conf.mk (by kernel_rfl) ?_; conv => whnf) | (refine SeqOk.go ?_; conv => whnf))
    rw [hR, hE]
    exact Ret.to rfl
end Go.Proofs.Ytlioojekjnigiab.AM.Sk
/- Servers: what is wrong with three. -/
namespace Go.Proofs.Ytlioojekjnigiab.AM.Sk
set_option linter.unusedVariables false
set_option linter.unusedSimpArgs false

def SvOk (s : Sv) : Prop := s.done.length ≤ 140737488355328 ∧ s.waits.length ≤ 140737488355328
def errAt (ss : List Sv) (i : Nat) : Int := match ss[i]? with
  | some s => s.err
  | none => 0
set_option maxHeartbeats 0 in
theorem checkAll_ok (ss : List Sv) (c : Int) (hs : ∀ s ∈ ss, SvOk s) : PCall Try.prog 52 [.dat (.list (ss.map Sv.enc)), dInt c] (dInt (allErr ss c)) := by
  refine pcall_cut tab_all tab_mixed Try.func52 (by kernel_rfl) Try.ntmps52 rfl ?_
  conv => whnf
  conv => whnf
  repeat (first | (refine Conf.mk (by kernel_rfl) ?_; conv => whnf) | (refine SeqOk.go ?_; conv => whnf))
  by_cases h3 : ss.length = 3
  · refine BoolCase.no (by simp [h3]) ?_
    conv => whnf
    repeat (first | (refine Conf.mk (by kernel_rfl) ?_; conv => whnf) | (refine SeqOk.go ?_; conv => whnf))
    refine LoopOk.hide fun Q1 hQ1 => ?_
    refine LoopOk.mk (fun m s => ∃ i, i + m = ss.length ∧ (∀ j, j < i → errAt ss j = 0) ∧ s = ⟨[(13, dInt i), (12, dInt (ss.map Sv.enc).length), (11, .dat (.list (ss.map Sv.enc))), (1, dInt c)], 0, []⟩) ss.length (Into.mono (Into.to [] [(13, dInt (0 : Nat)), (12, dInt (ss.map Sv.enc).length), (11, .dat (.list (ss.map Sv.enc))), (1, dInt c)] [] (by repeat (first | exact trivial | refine ⟨.same (congrArg dInt (wrap_up (by omega))), ?_⟩ | refine ⟨.same rfl, ?_⟩ | refine ⟨.any _, ?_⟩)) trivial rfl rfl) fun s' h => ⟨0, by omega, fun j hj => absurd hj (Nat.not_lt_zero _), h⟩) ?_
    rintro m s ⟨i, hi, hp, rfl⟩
    conv => whnf
    repeat (first | (refine Conf.mk (by kernel_rfl) ?_; conv => whnf) | (refine SeqOk.go ?_; conv => whnf))
    refine ⟨fun h => ?_, fun h => ?_⟩
    · have hi' := lt_of h
      have hx : errAt ss i = ss[i].err := by unfold errAt; rw [List.getElem?_eq_getElem hi']
      obtain ⟨k1, k2⟩ := hs _ (List.getElem_mem hi')
      conv => whnf
      repeat (first | (refine Conf.mk (by kernel_rfl) ?_; conv => whnf) | (refine SeqOk.go ?_; conv => whnf))
      refine AtIdx.ofMap hi' rfl ?_
      conv => whnf
      repeat (first | (refine Conf.mk (by kernel_rfl) ?_; conv => whnf) | (refine SeqOk.go ?_; conv => whnf))
      refine .data _ _ (scheck_ok ss[i] k1 k2) rfl ?_
      conv => whnf
      repeat (first | (refine Conf.mk (by kernel_rfl) ?_; conv => whnf) | (refine SeqOk.go ?_; conv => whnf))
      by_cases h4 : ss[i].err = 0
      · refine BoolCase.no (by simp [h4]) ?_
        conv => whnf
        repeat (first | (refine Conf.mk (by kernel_rfl) ?_; conv => whnf) | (refine SeqOk.go ?_; conv => whnf))
        exact Into.mono (Into.to [] [(13, dInt (i + 1 : Nat)), (12, dInt (ss.map Sv.enc).length), (11, .dat (.list (ss.map Sv.enc))), (1, dInt c)] [] (by repeat (first | exact trivial | refine ⟨.same (congrArg dInt (wrap_up (by omega))), ?_⟩ | refine ⟨.same rfl, ?_⟩ | refine ⟨.any _, ?_⟩)) trivial rfl rfl) fun s' h => ⟨m - 1, by omega, i + 1, by omega, fun j hj => by
          by_cases e : j = i
          · rw [e, hx]; exact h4
          · exact hp j (by omega), h⟩
      · have hF : firstErr (errAt ss) 3 = ss[i].err := by rw [firstErr_at _ i hp (by rw [hx]; exact h4) _ (by omega), hx]
        have hE : allErr ss c = ss[i].err := by
          show (if ss.length ≠ 3 then 1 else if firstErr (errAt ss) 3 ≠ 0 then firstErr (errAt ss) 3 else if c < 1 ∨ 7 < c then 3 else 0) = _
          rw [if_neg (by simp [h3]), hF, if_pos h4]
        refine BoolCase.yes (by simpa using h4) ?_
        conv => whnf
        repeat (first | (refine Conf.mk (by kernel_rfl) ?_; conv => whnf) | (refine SeqOk.go ?_; conv => whnf))
        subst hQ1
        conv => whnf
        exact Ret.int hE.symm
    · have hi' := ge_of h
      have hF : firstErr (errAt ss) 3 = 0 := firstErr_zero _ _ fun j hj => hp j (by omega)
      have hE : allErr ss c = if c < 1 ∨ 7 < c then 3 else 0 := by
        show (if ss.length ≠ 3 then 1 else if firstErr (errAt ss) 3 ≠ 0 then firstErr (errAt ss) 3 else if c < 1 ∨ 7 < c then 3 else 0) = _
        rw [if_neg (by simp [h3]), hF, if_neg (by simp)]
      conv => whnf
      repeat (first | (refine Conf.mk (by kernel_rfl) ?_; conv => whnf) | (refine SeqOk.go ?_; conv => whnf))
      subst hQ1
      conv => whnf
      conv => whnf
      repeat (first | (refine Conf.mk (by kernel_rfl) ?_; conv => whnf) | (refine SeqOk.go ?_; conv => whnf))
      by_cases h5 : c < 1
      · rw [if_pos (.inl h5)] at hE
        refine BoolCase.yes (by simpa using h5) ?_
        conv => whnf
        repeat (first | (refine Conf.mk (by kernel_rfl) ?_; conv => whnf) | (refine SeqOk.go ?_; conv => whnf))
        exact Ret.int hE.symm
      · refine BoolCase.no (by simpa using h5) ?_
        conv => whnf
        repeat (first | (refine Conf.mk (by kernel_rfl) ?_; conv => whnf) | (refine SeqOk.go ?_; conv => whnf))
        by_cases h6 : 7 < c
        · rw [if_pos (.inr h6)] at hE
          refine BoolCase.yes (by simpa using h6) ?_
          conv => whnf
          repeat (first | (refine Conf.mk (by kernel_rfl) ?_; conv => whnf) | (refine SeqOk.go ?_; conv => whnf))
          exact Ret.int hE.symm
        · rw [if_neg (by rintro (k | k); exact h5 k; exact h6 k)] at hE
          refine BoolCase.no (by simpa using h6) ?_
          conv => whnf
          repeat (first | (refine Conf.mk (by kernel_rfl) ?_; conv => whnf) | (refine SeqOk.go ?_; conv => whnf))
          exact Ret.int hE.symm
  · have hE : allErr ss c = 1 := by unfold allErr; rw [if_pos h3]
    refine BoolCase.yes (by simp; omega) ?_
    conv => whnf
    repeat (first | (refine Conf.mk (by kernel_rfl) ?_; conv => whnf) | (refine SeqOk.go ?_; conv => whnf))
    exact Ret.int hE.symm
end Go.Proofs.Ytlioojekjnigiab.AM.Sk
/- Servers: All's two closures. -/
namespace Go.Proofs.Ytlioojekjnigiab.AM.Sk
set_option linter.unusedVariables false
set_option linter.unusedSimpArgs false

def cellsOf (s : Sv) : List AVal := [dInt s.clock, .dat (.list (s.waits.map Wt.enc)), .dat (.list (s.done.map encI))]
theorem all2_ok (s : Sv) (n t : Int) (h : SvOk s) : PCall Try.prog 56 [s.arg, .dat (.ptr [.int .i64 n]), .dat (.ptr [.int .i64 t])] (.tup [(s.commR n t).arg, dInt (s.commE n t)]) := by
  refine pcall_cut tab_all tab_mixed Try.func56 (by kernel_rfl) Try.ntmps56 rfl ?_
  conv => whnf
  conv => whnf
  repeat (first | (refine Conf.mk (by kernel_rfl) ?_; conv => whnf) | (refine SeqOk.go ?_; conv => whnf))
  refine .data _ _ (scomm_ok s n t h.1 h.2) rfl ?_
  conv => whnf
  repeat (first | (refine Conf.mk (by kernel_rfl) ?_; conv => whnf) | (refine SeqOk.go ?_; conv => whnf))
  exact Ret.to rfl
theorem all1_ok (s : Sv) (n g : Int) (h : SvOk s) : ECall Try.prog 55 [s.arg, .ptr 0 0, .ptr 1 0] [(0, .vars 3 1 [dInt n] true), (1, .vars 3 1 [dInt g] true)] 2 (.tup [(s.propR n).arg, dInt (s.propE n)]) [(0, .vars 3 1 [dInt n] true), (1, .vars 3 1 [dInt (max g (s.propR n).clock)] true)] 0 := by
  have hmx : (bif true then if (s.propR n).clock > g then (s.propR n).clock else g else if (s.propR n).clock < g then (s.propR n).clock else g) = max g (s.propR n).clock := by show (if (s.propR n).clock > g then (s.propR n).clock else g) = _; split <;> omega
  refine acall_cut tab_all tab_mixed Try.func55 (by kernel_rfl) Try.ntmps55 rfl ?_
  conv => whnf
  conv => whnf
  repeat (first | (refine Conf.mk (by kernel_rfl) ?_; conv => whnf) | (refine SeqOk.go ?_; conv => whnf))
  refine .data _ _ (sprop_ok s n h.1 h.2) rfl ?_
  conv => whnf
  repeat (first | (refine Conf.mk (by kernel_rfl) ?_; conv => whnf) | (refine SeqOk.go ?_; conv => whnf))
  exact .mk [] [0, 1] (.tup [(s.propR n).arg, dInt (s.propE n)]) [(0, .vars 3 1 [dInt n] true), (1, .vars 3 1 [dInt (max g (s.propR n).clock)] true)] rfl (.same rfl) ⟨⟨rfl, rfl, rfl, .same rfl, rfl, trivial⟩, ⟨rfl, rfl, rfl, .same (by first | exact congrArg dInt hmx | exact congrArg dInt hmx.symm), rfl, trivial⟩, trivial⟩ rfl rfl ⟨rfl, rfl, rfl⟩
end Go.Proofs.Ytlioojekjnigiab.AM.Sk
/- Servers: more that is plain: gathered out of the old sources. -/
namespace Go.Proofs.Ytlioojekjnigiab.AM.Sk
set_option linter.unusedVariables false
set_option linter.unusedSimpArgs false

theorem num_between (n : Int) : isBetween n 1 20 = isNum n := rfl
theorem rises_of_err {clock : Int} {ws : List Wt} (h : firstErr (waitErr clock ws) ws.length = 0) : Rises ws := by
  refine rises_of fun i x y hx hy => ?_
  have h0 := firstErr_all _ _ h (i + 1) (List.getElem?_eq_some_iff.1 hy).1
  rw [waitErr, hy] at h0
  simp only at h0
  split at h0
  · cases h0
  simp only [hx] at h0
  split at h0
  · cases h0
  · omega
theorem insAt_of {ws : List Wt} {n : Int} {k : Nat} (hr : Rises ws) (hk : k ≤ ws.length) (hz : ∀ j d, k ≤ j → ws[j]? = some d → n < d.number) (hp : ∀ q y, k = q + 1 → ws[q]? = some y → y.number < n) : insAt ws n = k := by
  refine insAt_is ws n k (fun j hj d hd => ?_) hk fun d hd => by have := hz k d (Nat.le_refl _) hd; omega
  obtain ⟨q, rfl⟩ : ∃ q, k = q + 1 := ⟨k - 1, by omega⟩
  have hy : ws[q]? = some ws[q] := List.getElem?_eq_getElem (by omega)
  have h1 := hp q _ rfl hy
  obtain ⟨hjl, rfl⟩ := List.getElem?_eq_some_iff.1 hd
  by_cases e : j = q
  · subst e; exact h1
  · have := List.pairwise_iff_getElem.1 hr j q hjl (by omega) (by omega)
    omega
theorem swap_list {ws : List Wt} {x y : Wt} {q : Nat} (hy : ws[q]? = some y) : ((ws.take (q + 1) ++ x :: ws.drop (q + 1)).set (q + 1) y).set q x = ws.take q ++ x :: ws.drop q := by
  obtain ⟨hq, e⟩ := List.getElem?_eq_some_iff.1 hy
  have e1 : ws.take (q + 1) = ws.take q ++ [y] := by rw [List.take_add_one, hy]; rfl
  have e2 : ws.drop q = y :: ws.drop (q + 1) := by rw [← e]; exact List.drop_eq_getElem_cons hq
  have hl : (ws.take q).length = q := by rw [List.length_take]; omega
  rw [e1, e2, List.append_assoc]
  rw [List.set_append_right _ _ (by omega), List.set_append_right _ _ (by omega), hl, Nat.add_sub_cancel_left, Nat.sub_self]
  rfl
def Sv.propD (s : Sv) (n : Int) : Sv := if propErr s n = 0 then propSv s n else zeroSv
def Sv.commD (s : Sv) (n t : Int) : Sv := if commErr s n t = 0 then commSv s n t ((findAt s.waits n).getD 0) else zeroSv
theorem between_time (t : Int) : isBetween t 1 999 = !decide (t < 1 ∨ 999 < t) := by
  unfold isBetween
  by_cases h1 : t < 1
  · simp [h1]; omega
  · by_cases h2 : 999 < t
    · simp [h2]
    · simp [h1, h2]; omega
theorem eachGo_skip {f : Sv → Int → Sv × Int × Int} {colors : Int} {k : Nat} {ss : List Sv} {g : Int} {s : Sv} (hk : k < 3) (hs : ss[k]? = some s) (hb : bitOf colors k = false) : eachGo f colors (3 - (k + 1)) (k + 1) ss g = eachGo f colors (3 - k) k ss g := by
  rw [show 3 - k = (3 - (k + 1)) + 1 by omega, eachGo, hs]
  simp only [hb, Bool.false_eq_true, if_false]
theorem eachGo_go {f : Sv → Int → Sv × Int × Int} {colors : Int} {k : Nat} {ss : List Sv} {g : Int} {s : Sv} (hk : k < 3) (hs : ss[k]? = some s) (hb : bitOf colors k = true) (h0 : (f s g).2.2 = 0) : eachGo f colors (3 - (k + 1)) (k + 1) (ss.set k (f s g).1) (f s g).2.1 = eachGo f colors (3 - k) k ss g := by
  rw [show 3 - k = (3 - (k + 1)) + 1 by omega, eachGo, hs]
  simp only [hb, if_true]
  rw [if_pos h0]
theorem eachGo_err {f : Sv → Int → Sv × Int × Int} {colors : Int} {k : Nat} {ss : List Sv} {g : Int} {s : Sv} (hk : k < 3) (hs : ss[k]? = some s) (hb : bitOf colors k = true) (h0 : (f s g).2.2 ≠ 0) : (eachGo f colors (3 - k) k ss g).2.2 = (f s g).2.2 := by
  rw [show 3 - k = (3 - (k + 1)) + 1 by omega, eachGo, hs]
  simp only [hb, if_true]
  rw [if_neg h0]
theorem propE_right {s : Sv} (h : Right s) (n : Int) : s.propE n = propErr s n := by
  unfold Sv.propE
  rw [if_neg (by rw [err_of_right h]; simp)]
theorem propR_right {s : Sv} (h : Right s) (n : Int) : s.propR n = s.propD n := by
  unfold Sv.propR Sv.propD
  rw [propE_right h]
theorem commE_right {s : Sv} (h : Right s) (n t : Int) : s.commE n t = commErr s n t := by
  unfold Sv.commE
  rw [if_neg (by rw [err_of_right h]; simp)]
theorem commR_right {s : Sv} (h : Right s) (n t : Int) : s.commR n t = s.commD n t := by
  unfold Sv.commR Sv.commD
  rw [commE_right h]
theorem propD_right {s : Sv} {n : Int} (h : Right s) (h0 : propErr s n = 0) : Right (s.propD n) ∧ (s.propD n).done = s.done := by
  unfold Sv.propD
  rw [if_pos h0]
  exact ⟨prop_right h h0, rfl⟩
theorem commD_right {s : Sv} {n t : Int} (h : Right s) (h0 : commErr s n t = 0) : Right (s.commD n t) := by
  unfold Sv.commD
  rw [if_pos h0]
  obtain ⟨_, _, _, i, x, hf, _⟩ := commErr_zero h0
  rw [hf]
  exact comm_right h h0 hf
theorem between_colors (c : Int) : isBetween c 1 7 = !decide (c < 1 ∨ 7 < c) := by
  unfold isBetween
  by_cases h1 : c < 1
  · simp [h1]; omega
  · by_cases h2 : 7 < c
    · simp [h2]
    · simp [h1, h2]; omega
theorem set_all {p : Sv → Prop} {ss : List Sv} {k : Nat} {s : Sv} (h : ∀ x ∈ ss, p x) (hs : p s) : ∀ x ∈ ss.set k s, p x := fun x hx => by
  rcases List.mem_or_eq_of_mem_set hx with h' | rfl
  · exact h x h'
  · exact hs
end Go.Proofs.Ytlioojekjnigiab.AM.Sk
/- Servers: the document's HasInt, WaitAt, FirstWait. -/
namespace Go.Proofs.Ytlioojekjnigiab.AM.Sk
set_option linter.unusedVariables false
set_option linter.unusedSimpArgs false
theorem kbetween_ok (n a b : Int) : PCall Try.prog 57 [dInt n, dInt a, dInt b] (dBool (isBetween n a b)) := between_ok n a b
def hasInt (l : List Int) (n : Int) : Bool := l.any fun x => decide (x = n)
set_option maxHeartbeats 0 in
theorem hasInt_ok (l : List Int) (n : Int) (hl : l.length ≤ 140737488355328) : PCall Try.prog 58 [.dat (.list (l.map encI)), dInt n] (dBool (hasInt l n)) := by
  refine pcall_cut tab_all tab_mixed Try.func58 (by kernel_rfl) Try.ntmps58 rfl ?_
  conv => whnf
  conv => whnf
  repeat (first | (refine Conf.mk (by kernel_rfl) ?_; conv => whnf) | (refine SeqOk.go ?_; conv => whnf))
  refine LoopOk.hide fun Q1 hQ1 => ?_
  refine LoopOk.mk (fun m s => ∃ i, i + m = l.length ∧ hasInt l n = hasInt (l.drop i) n ∧ s = ⟨[(5, dInt i), (0, .dat (.list (l.map encI))), (1, dInt n)], 0, []⟩) l.length (Into.mono (Into.to [] [(5, dInt (0 : Nat)), (0, .dat (.list (l.map encI))), (1, dInt n)] [] (by repeat (first | exact trivial | refine ⟨.same (congrArg dInt (wrap_up (by omega))), ?_⟩ | refine ⟨.same rfl, ?_⟩ | refine ⟨.any _, ?_⟩)) trivial rfl rfl) fun s' h => ⟨0, by omega, rfl, h⟩) ?_
  rintro m s ⟨i, hi, hp, rfl⟩
  conv => whnf
  repeat (first | (refine Conf.mk (by kernel_rfl) ?_; conv => whnf) | (refine SeqOk.go ?_; conv => whnf))
  refine ⟨fun h => ?_, fun h => ?_⟩
  · have hi' := lt_of h
    rw [List.drop_eq_getElem_cons hi', hasInt, hasInt, List.any_cons] at hp
    conv => whnf
    repeat (first | (refine Conf.mk (by kernel_rfl) ?_; conv => whnf) | (refine SeqOk.go ?_; conv => whnf))
    refine AtIdx.ofMap hi' rfl ?_
    conv => whnf
    repeat (first | (refine Conf.mk (by kernel_rfl) ?_; conv => whnf) | (refine SeqOk.go ?_; conv => whnf))
    by_cases h1 : l[i] = n
    · refine BoolCase.yes (by simpa using h1) ?_
      conv => whnf
      repeat (first | (refine Conf.mk (by kernel_rfl) ?_; conv => whnf) | (refine SeqOk.go ?_; conv => whnf))
      subst hQ1
      conv => whnf
      exact Ret.bool (by rw [hasInt, hp]; simp [h1])
    · refine BoolCase.no (by simpa using h1) ?_
      conv => whnf
      repeat (first | (refine Conf.mk (by kernel_rfl) ?_; conv => whnf) | (refine SeqOk.go ?_; conv => whnf))
      exact Into.mono (Into.to [] [(5, dInt (i + 1 : Nat)), (0, .dat (.list (l.map encI))), (1, dInt n)] [] (by repeat (first | exact trivial | refine ⟨.same (congrArg dInt (wrap_up (by omega))), ?_⟩ | refine ⟨.same rfl, ?_⟩ | refine ⟨.any _, ?_⟩)) trivial rfl rfl) fun s' h => ⟨m - 1, by omega, i + 1, by omega, by rw [hasInt, hp]; simp [h1, hasInt], h⟩
  · have hi' := ge_of h
    conv => whnf
    repeat (first | (refine Conf.mk (by kernel_rfl) ?_; conv => whnf) | (refine SeqOk.go ?_; conv => whnf))
    subst hQ1
    conv => whnf
    exact Ret.bool (by rw [hp, List.drop_eq_nil_of_le hi']; rfl)
theorem findAt_step {ws : List Wt} {n : Int} {i : Nat} (hp : ∀ j d, j < i → ws[j]? = some d → d.number ≠ n) {d : Wt} (hd : ws[i]? = some d) (hn : d.number ≠ n) : ∀ j d, j < i + 1 → ws[j]? = some d → d.number ≠ n := fun j e hj he => by
  by_cases h : j = i
  · subst h; rw [hd] at he; cases he; exact hn
  · exact hp j e (by omega) he
set_option maxHeartbeats 0 in
theorem waitAt_ok (s : Sv) (n : Int) (hl : s.waits.length ≤ 140737488355328) : PCall Try.prog 59 [s.arg, dInt n] (dInt (optInt (findAt s.waits n))) := by
  refine pcall_cut tab_all tab_mixed Try.func59 (by kernel_rfl) Try.ntmps59 rfl ?_
  conv => whnf
  conv => whnf
  repeat (first | (refine Conf.mk (by kernel_rfl) ?_; conv => whnf) | (refine SeqOk.go ?_; conv => whnf))
  refine LoopOk.hide fun Q1 hQ1 => ?_
  refine LoopOk.mk (fun m st => ∃ i, i + m = s.waits.length ∧ (∀ j d, j < i → s.waits[j]? = some d → d.number ≠ n) ∧ st = ⟨[(5, dInt i), (2, .ptr 0 0), (1, dInt n)], 1, [(0, .vars 43 3 [dInt s.clock, .dat (.list (s.waits.map Wt.enc)), .dat (.list (s.done.map encI))] true)]⟩) s.waits.length (Into.mono (Into.to [0] [(5, dInt (0 : Nat)), (2, .ptr 0 0), (1, dInt n)] [(0, .vars 43 3 [dInt s.clock, .dat (.list (s.waits.map Wt.enc)), .dat (.list (s.done.map encI))] true)] (by repeat (first | exact trivial | refine ⟨.same (congrArg dInt (wrap_up (by omega))), ?_⟩ | refine ⟨.same rfl, ?_⟩ | refine ⟨.any _, ?_⟩)) ⟨⟨rfl, rfl, rfl, .same rfl, rfl, .same rfl, rfl, .same rfl, rfl, trivial⟩, trivial⟩ rfl rfl) fun s' h => ⟨0, by omega, fun j d hj => absurd hj (Nat.not_lt_zero _), h⟩) ?_
  rintro m st ⟨i, hi, hp, rfl⟩
  conv => whnf
  repeat (first | (refine Conf.mk (by kernel_rfl) ?_; conv => whnf) | (refine SeqOk.go ?_; conv => whnf))
  refine ⟨fun h => ?_, fun h => ?_⟩
  · have hi' := lt_of h
    have hd : s.waits[i]? = some s.waits[i] := List.getElem?_eq_getElem hi'
    conv => whnf
    repeat (first | (refine Conf.mk (by kernel_rfl) ?_; conv => whnf) | (refine SeqOk.go ?_; conv => whnf))
    refine AtIdx.ofMap hi' rfl ?_
    conv => whnf
    repeat (first | (refine Conf.mk (by kernel_rfl) ?_; conv => whnf) | (refine SeqOk.go ?_; conv => whnf))
    by_cases h1 : s.waits[i].number = n
    · refine BoolCase.yes (by simpa using h1) ?_
      conv => whnf
      repeat (first | (refine Conf.mk (by kernel_rfl) ?_; conv => whnf) | (refine SeqOk.go ?_; conv => whnf))
      subst hQ1
      conv => whnf
      exact Ret.int (by rw [findAt_some hd h1 fun j hj d hd => hp j d hj hd]; rfl)
    · refine BoolCase.no (by simpa using h1) ?_
      conv => whnf
      repeat (first | (refine Conf.mk (by kernel_rfl) ?_; conv => whnf) | (refine SeqOk.go ?_; conv => whnf))
      exact Into.mono (Into.to [0] [(5, dInt (i + 1 : Nat)), (2, .ptr 0 0), (1, dInt n)] [(0, .vars 43 3 [dInt s.clock, .dat (.list (s.waits.map Wt.enc)), .dat (.list (s.done.map encI))] true)] (by repeat (first | exact trivial | refine ⟨.same (congrArg dInt (wrap_up (by omega))), ?_⟩ | refine ⟨.same rfl, ?_⟩ | refine ⟨.any _, ?_⟩)) ⟨⟨rfl, rfl, rfl, .same rfl, rfl, .same rfl, rfl, .same rfl, rfl, trivial⟩, trivial⟩ rfl rfl) fun s' h => ⟨m - 1, by omega, i + 1, by omega, findAt_step hp hd h1, h⟩
  · have hi' := ge_of h
    conv => whnf
    repeat (first | (refine Conf.mk (by kernel_rfl) ?_; conv => whnf) | (refine SeqOk.go ?_; conv => whnf))
    subst hQ1
    conv => whnf
    exact Ret.int (by rw [findAt_none fun j d hd => hp j d (by have := (List.getElem?_eq_some_iff.1 hd).1; omega) hd]; rfl)
/-- Does none of the first ones beat it? -/
def leadsTo (ws : List Wt) (i k : Nat) : Bool := (List.range k).all fun m => !beats ws m i
theorem leadsTo_step (ws : List Wt) (i k : Nat) : leadsTo ws i (k + 1) = (leadsTo ws i k && !beats ws k i) := by
  unfold leadsTo
  rw [List.range_succ, List.all_append]
  simp
theorem firstPlace_step {ws : List Wt} {i : Nat} (hp : ∀ j, j < i → leads ws j = false) (hi : i < ws.length) (h : leads ws i = true) : firstPlace ws = some i := by
  unfold firstPlace
  rw [List.find?_eq_some_iff_getElem]
  refine ⟨h, i, by simpa using hi, by simp, fun j hj => ?_⟩
  simpa using hp j hj
theorem firstPlace_none {ws : List Wt} (hp : ∀ j, j < ws.length → leads ws j = false) : firstPlace ws = none := by
  unfold firstPlace
  rw [List.find?_eq_none]
  intro x hx
  simpa using hp x (by simpa using hx)
theorem beats_at {ws : List Wt} {k i : Nat} (hk : k < ws.length) (hi : i < ws.length) : beats ws k i = (decide (ws[k].time < ws[i].time) || ws[k].time == ws[i].time && decide (k < i)) := by
  unfold beats
  rw [List.getElem?_eq_getElem hk, List.getElem?_eq_getElem hi]
set_option maxHeartbeats 0 in
theorem firstWait_ok (s : Sv) (hl : s.waits.length ≤ 1000) : PCall Try.prog 60 [s.arg] (dInt (optInt (firstPlace s.waits))) := by
  refine pcall_cut tab_all tab_mixed Try.func60 (by kernel_rfl) Try.ntmps60 rfl ?_
  conv => whnf
  conv => whnf
  repeat (first | (refine Conf.mk (by kernel_rfl) ?_; conv => whnf) | (refine SeqOk.go ?_; conv => whnf))
  refine LoopOk.hide fun Q1 hQ1 => ?_
  refine LoopOk.mk (fun m st => ∃ i, i + m = s.waits.length ∧ (∀ j, j < i → leads s.waits j = false) ∧ st = ⟨[(3, dInt i), (1, .ptr 0 0)], 1, [(0, .vars 43 3 [dInt s.clock, .dat (.list (s.waits.map Wt.enc)), .dat (.list (s.done.map encI))] true)]⟩) s.waits.length (Into.mono (Into.to [0] [(3, dInt (0 : Nat)), (1, .ptr 0 0)] [(0, .vars 43 3 [dInt s.clock, .dat (.list (s.waits.map Wt.enc)), .dat (.list (s.done.map encI))] true)] (by repeat (first | exact trivial | refine ⟨.same (congrArg dInt (wrap_up (by omega))), ?_⟩ | refine ⟨.same rfl, ?_⟩ | refine ⟨.any _, ?_⟩)) ⟨⟨rfl, rfl, rfl, .same rfl, rfl, .same rfl, rfl, .same rfl, rfl, trivial⟩, trivial⟩ rfl rfl) fun s' h => ⟨0, by omega, fun j hj => absurd hj (Nat.not_lt_zero _), h⟩) ?_
  rintro m st ⟨i, hi, hp, rfl⟩
  conv => whnf
  repeat (first | (refine Conf.mk (by kernel_rfl) ?_; conv => whnf) | (refine SeqOk.go ?_; conv => whnf))
  refine ⟨fun h => ?_, fun h => ?_⟩
  · have hi' := lt_of h
    conv => whnf
    repeat (first | (refine Conf.mk (by kernel_rfl) ?_; conv => whnf) | (refine SeqOk.go ?_; conv => whnf))
    refine LoopOk.hide fun Q2 hQ2 => ?_
    refine LoopOk.mk (fun m' st => ∃ k, k + m' = s.waits.length ∧ st = ⟨[(5, dInt k), (4, dBool (leadsTo s.waits i k)), (3, dInt i), (1, .ptr 0 0)], 1, [(0, .vars 43 3 [dInt s.clock, .dat (.list (s.waits.map Wt.enc)), .dat (.list (s.done.map encI))] true)]⟩) s.waits.length (Into.mono (Into.to [0] [(5, dInt (0 : Nat)), (4, dBool true), (3, dInt i), (1, .ptr 0 0)] [(0, .vars 43 3 [dInt s.clock, .dat (.list (s.waits.map Wt.enc)), .dat (.list (s.done.map encI))] true)] ⟨.same rfl, .kb _, .same rfl, .same rfl, trivial⟩ ⟨⟨rfl, rfl, rfl, .same rfl, rfl, .same rfl, rfl, .same rfl, rfl, trivial⟩, trivial⟩ rfl rfl) fun s' h => ⟨0, by omega, h⟩) ?_
    rintro m' st ⟨k, hk, rfl⟩
    conv => whnf
    repeat (first | (refine Conf.mk (by kernel_rfl) ?_; conv => whnf) | (refine SeqOk.go ?_; conv => whnf))
    refine ⟨fun h2 => ?_, fun h2 => ?_⟩
    · have hk' := lt_of h2
      have hb := beats_at hk' hi'
      conv => whnf
      repeat (first | (refine Conf.mk (by kernel_rfl) ?_; conv => whnf) | (refine SeqOk.go ?_; conv => whnf))
      refine AtIdx.ofMap hk' rfl ?_
      conv => whnf
      repeat (first | (refine Conf.mk (by kernel_rfl) ?_; conv => whnf) | (refine SeqOk.go ?_; conv => whnf))
      refine AtIdx.ofMap hi' rfl ?_
      conv => whnf
      repeat (first | (refine Conf.mk (by kernel_rfl) ?_; conv => whnf) | (refine SeqOk.go ?_; conv => whnf))
      have hst0 := leadsTo_step s.waits i k
      rw [hb] at hst0
      by_cases h3 : s.waits[k].time < s.waits[i].time
      · have hst : leadsTo s.waits i (k + 1) = false := by rw [hst0]; simp [h3]
        refine BoolCase.yes (by simpa using h3) ?_
        conv => whnf
        repeat (first | (refine Conf.mk (by kernel_rfl) ?_; conv => whnf) | (refine SeqOk.go ?_; conv => whnf))
        exact Into.mono (Into.to [0] [(5, dInt (k + 1 : Nat)), (4, dBool (leadsTo s.waits i (k + 1))), (3, dInt i), (1, .ptr 0 0)] [(0, .vars 43 3 [dInt s.clock, .dat (.list (s.waits.map Wt.enc)), .dat (.list (s.done.map encI))] true)] ⟨.same (congrArg dInt (wrap_up (by omega))), by first | exact .same (congrArg dBool hst) | exact (congrArg dBool hst) ▸ Fit.kb _, .same rfl, .same rfl, trivial⟩ ⟨⟨rfl, rfl, rfl, .same rfl, rfl, .same rfl, rfl, .same rfl, rfl, trivial⟩, trivial⟩ rfl rfl) fun s' h => ⟨m' - 1, by omega, k + 1, by omega, h⟩
      · refine BoolCase.no (by simpa using h3) ?_
        conv => whnf
        repeat (first | (refine Conf.mk (by kernel_rfl) ?_; conv => whnf) | (refine SeqOk.go ?_; conv => whnf))
        refine AtIdx.ofMap hk' rfl ?_
        conv => whnf
        repeat (first | (refine Conf.mk (by kernel_rfl) ?_; conv => whnf) | (refine SeqOk.go ?_; conv => whnf))
        refine AtIdx.ofMap hi' rfl ?_
        conv => whnf
        repeat (first | (refine Conf.mk (by kernel_rfl) ?_; conv => whnf) | (refine SeqOk.go ?_; conv => whnf))
        by_cases h4 : s.waits[k].time = s.waits[i].time
        · refine BoolCase.yes (by simpa using h4) ?_
          conv => whnf
          repeat (first | (refine Conf.mk (by kernel_rfl) ?_; conv => whnf) | (refine SeqOk.go ?_; conv => whnf))
          by_cases h5 : k < i
          · have hst : leadsTo s.waits i (k + 1) = false := by rw [hst0]; simp [h4, h5]
            refine BoolCase.yes (by simpa using h5) ?_
            conv => whnf
            repeat (first | (refine Conf.mk (by kernel_rfl) ?_; conv => whnf) | (refine SeqOk.go ?_; conv => whnf))
            exact Into.mono (Into.to [0] [(5, dInt (k + 1 : Nat)), (4, dBool (leadsTo s.waits i (k + 1))), (3, dInt i), (1, .ptr 0 0)] [(0, .vars 43 3 [dInt s.clock, .dat (.list (s.waits.map Wt.enc)), .dat (.list (s.done.map encI))] true)] ⟨.same (congrArg dInt (wrap_up (by omega))), by first | exact .same (congrArg dBool hst) | exact (congrArg dBool hst) ▸ Fit.kb _, .same rfl, .same rfl, trivial⟩ ⟨⟨rfl, rfl, rfl, .same rfl, rfl, .same rfl, rfl, .same rfl, rfl, trivial⟩, trivial⟩ rfl rfl) fun s' h => ⟨m' - 1, by omega, k + 1, by omega, h⟩
          · have hst : leadsTo s.waits i (k + 1) = leadsTo s.waits i k := by rw [hst0]; simp [h3, h5]
            refine BoolCase.no (by simpa using h5) ?_
            conv => whnf
            repeat (first | (refine Conf.mk (by kernel_rfl) ?_; conv => whnf) | (refine SeqOk.go ?_; conv => whnf))
            exact Into.mono (Into.to [0] [(5, dInt (k + 1 : Nat)), (4, dBool (leadsTo s.waits i (k + 1))), (3, dInt i), (1, .ptr 0 0)] [(0, .vars 43 3 [dInt s.clock, .dat (.list (s.waits.map Wt.enc)), .dat (.list (s.done.map encI))] true)] ⟨.same (congrArg dInt (wrap_up (by omega))), by first | exact .same (congrArg dBool hst) | exact (congrArg dBool hst) ▸ Fit.kb _, .same rfl, .same rfl, trivial⟩ ⟨⟨rfl, rfl, rfl, .same rfl, rfl, .same rfl, rfl, .same rfl, rfl, trivial⟩, trivial⟩ rfl rfl) fun s' h => ⟨m' - 1, by omega, k + 1, by omega, h⟩
        · have hst : leadsTo s.waits i (k + 1) = leadsTo s.waits i k := by rw [hst0]; simp [h3, h4]
          refine BoolCase.no (by simpa using h4) ?_
          conv => whnf
          repeat (first | (refine Conf.mk (by kernel_rfl) ?_; conv => whnf) | (refine SeqOk.go ?_; conv => whnf))
          exact Into.mono (Into.to [0] [(5, dInt (k + 1 : Nat)), (4, dBool (leadsTo s.waits i (k + 1))), (3, dInt i), (1, .ptr 0 0)] [(0, .vars 43 3 [dInt s.clock, .dat (.list (s.waits.map Wt.enc)), .dat (.list (s.done.map encI))] true)] ⟨.same (congrArg dInt (wrap_up (by omega))), by first | exact .same (congrArg dBool hst) | exact (congrArg dBool hst) ▸ Fit.kb _, .same rfl, .same rfl, trivial⟩ ⟨⟨rfl, rfl, rfl, .same rfl, rfl, .same rfl, rfl, .same rfl, rfl, trivial⟩, trivial⟩ rfl rfl) fun s' h => ⟨m' - 1, by omega, k + 1, by omega, h⟩
    · have hk' := ge_of h2
      obtain rfl : k = s.waits.length := by omega
      conv => whnf
      repeat (first | (refine Conf.mk (by kernel_rfl) ?_; conv => whnf) | (refine SeqOk.go ?_; conv => whnf))
      subst hQ2
      conv => whnf
      have hl2 : leadsTo s.waits i s.waits.length = leads s.waits i := rfl
      rw [hl2]
      cases h3 : leads s.waits i
      · refine BoolCase.no rfl ?_
        conv => whnf
        repeat (first | (refine Conf.mk (by kernel_rfl) ?_; conv => whnf) | (refine SeqOk.go ?_; conv => whnf))
        exact Into.mono (Into.to [0] [(3, dInt (i + 1 : Nat)), (1, .ptr 0 0)] [(0, .vars 43 3 [dInt s.clock, .dat (.list (s.waits.map Wt.enc)), .dat (.list (s.done.map encI))] true)] (by repeat (first | exact trivial | refine ⟨.same (congrArg dInt (wrap_up (by omega))), ?_⟩ | refine ⟨.same rfl, ?_⟩ | refine ⟨.any _, ?_⟩)) ⟨⟨rfl, rfl, rfl, .same rfl, rfl, .same rfl, rfl, .same rfl, rfl, trivial⟩, trivial⟩ rfl rfl) fun s' h => ⟨m - 1, by omega, i + 1, by omega, fun j hj => by
          by_cases e : j = i
          · rw [e]; exact h3
          · exact hp j (by omega), h⟩
      · refine BoolCase.yes rfl ?_
        conv => whnf
        repeat (first | (refine Conf.mk (by kernel_rfl) ?_; conv => whnf) | (refine SeqOk.go ?_; conv => whnf))
        subst hQ1
        conv => whnf
        exact Ret.int (by rw [firstPlace_step hp hi' h3]; rfl)
  · have hi' := ge_of h
    conv => whnf
    repeat (first | (refine Conf.mk (by kernel_rfl) ?_; conv => whnf) | (refine SeqOk.go ?_; conv => whnf))
    subst hQ1
    conv => whnf
    exact Ret.int (by rw [firstPlace_none fun j hj => hp j (by omega)]; rfl)
end Go.Proofs.Ytlioojekjnigiab.AM.Sk
/- Servers: the document's CheckServer. -/
namespace Go.Proofs.Ytlioojekjnigiab.AM.Sk
set_option linter.unusedVariables false
set_option linter.unusedSimpArgs false
theorem hasInt_iff {l : List Int} {n : Int} : hasInt l n = true ↔ n ∈ l := by
  unfold hasInt
  rw [List.any_eq_true]
  constructor
  · rintro ⟨x, hx, h⟩
    obtain rfl : x = n := by simpa using h
    exact hx
  · intro h
    exact ⟨n, h, by simp⟩
theorem bool_no {b : Bool} (h : ¬ b = true) : b = false := by cases b; rfl; exact absurd rfl h
theorem waitErr_of {c : Int} {ws : List Wt} {i : Nat} {x : Wt} (hx : ws[i]? = some x) : waitErr c ws i = if isNum x.number = false ∨ x.time < 1 ∨ c < x.time then 3 else match (generalizing := false) i with
    | 0 => 0
    | j + 1 => match ws[j]? with
      | none => 0
      | some y => if x.number ≤ y.number then 4 else 0 := by
  unfold waitErr
  rw [hx]
  cases i <;> rfl
theorem doneErr_of {s : Sv} {i : Nat} (hi : i < s.done.length) : doneErr s i = if isNum s.done[i] = false then 3 else if s.done[i] ∈ s.done.take i ∨ (findAt s.waits s.done[i]).isSome = true then 6 else 0 := by
  unfold doneErr
  rw [List.getElem?_eq_getElem hi]
set_option maxHeartbeats 0 in
theorem checkServer_ok (s : Sv) (hl : s.done.length ≤ 140737488355328) (hw : s.waits.length ≤ 140737488355328) : PCall Try.prog 22 [s.arg] (dInt s.err) := by
  refine pcall_cut tab_all tab_mixed Try.func22 (by kernel_rfl) Try.ntmps22 rfl ?_
  conv => whnf
  conv => whnf
  repeat (first | (refine Conf.mk (by kernel_rfl) ?_; conv => whnf) | (refine SeqOk.go ?_; conv => whnf))
  refine .look _ _ (kbetween_ok s.clock 0 999) rfl rfl ?_
  conv => whnf
  repeat (first | (refine Conf.mk (by kernel_rfl) ?_; conv => whnf) | (refine SeqOk.go ?_; conv => whnf))
  by_cases h1 : s.clock < 0 ∨ 999 < s.clock
  · have hE : s.err = 3 := by unfold Sv.err; rw [if_pos h1]
    refine BoolCase.yes (by unfold isBetween; simp; omega) ?_
    conv => whnf
    repeat (first | (refine Conf.mk (by kernel_rfl) ?_; conv => whnf) | (refine SeqOk.go ?_; conv => whnf))
    exact Ret.int hE.symm
  · refine BoolCase.no (by unfold isBetween; simp; omega) ?_
    conv => whnf
    repeat (first | (refine Conf.mk (by kernel_rfl) ?_; conv => whnf) | (refine SeqOk.go ?_; conv => whnf))
    by_cases h2 : 8 < s.waits.length
    · have hE : s.err = 2 := by unfold Sv.err; rw [if_neg h1, if_pos (.inl h2)]
      refine BoolCase.yes (by simp; omega) ?_
      conv => whnf
      repeat (first | (refine Conf.mk (by kernel_rfl) ?_; conv => whnf) | (refine SeqOk.go ?_; conv => whnf))
      exact Ret.int hE.symm
    · refine BoolCase.no (by simp; omega) ?_
      conv => whnf
      repeat (first | (refine Conf.mk (by kernel_rfl) ?_; conv => whnf) | (refine SeqOk.go ?_; conv => whnf))
      by_cases h3 : 30 < s.done.length
      · have hE : s.err = 2 := by unfold Sv.err; rw [if_neg h1, if_pos (.inr h3)]
        refine BoolCase.yes (by simp; omega) ?_
        conv => whnf
        repeat (first | (refine Conf.mk (by kernel_rfl) ?_; conv => whnf) | (refine SeqOk.go ?_; conv => whnf))
        exact Ret.int hE.symm
      · refine BoolCase.no (by simp; omega) ?_
        conv => whnf
        repeat (first | (refine Conf.mk (by kernel_rfl) ?_; conv => whnf) | (refine SeqOk.go ?_; conv => whnf))
        have hE0 : s.err = if firstErr (waitErr s.clock s.waits) s.waits.length ≠ 0 then firstErr (waitErr s.clock s.waits) s.waits.length
            else if firstErr (doneErr s) s.done.length ≠ 0 then firstErr (doneErr s) s.done.length else if finalFirst s.waits then 4 else 0 := by
          unfold Sv.err
          rw [if_neg h1, if_neg (by omega)]
        refine LoopOk.hide fun Q1 hQ1 => ?_
        refine LoopOk.mk (fun m st => ∃ i, i + m = s.waits.length ∧ (∀ j, j < i → waitErr s.clock s.waits j = 0) ∧ st = ⟨[(3, dInt i), (1, .ptr 0 0)], 1, [(0, .vars 43 3 [dInt s.clock, .dat (.list (s.waits.map Wt.enc)), .dat (.list (s.done.map encI))] true)]⟩) s.waits.length (Into.mono (Into.to [0] [(3, dInt (0 : Nat)), (1, .ptr 0 0)] [(0, .vars 43 3 [dInt s.clock, .dat (.list (s.waits.map Wt.enc)), .dat (.list (s.done.map encI))] true)] (by repeat (first | exact trivial | refine ⟨.same (congrArg dInt (wrap_up (by omega))), ?_⟩ | refine ⟨.same rfl, ?_⟩ | refine ⟨.any _, ?_⟩)) ⟨⟨rfl, rfl, rfl, .same rfl, rfl, .same rfl, rfl, .same rfl, rfl, trivial⟩, trivial⟩ rfl rfl) fun s' h => ⟨0, by omega, fun j hj => absurd hj (Nat.not_lt_zero _), h⟩) ?_
        rintro m st ⟨i, hi, hp, rfl⟩
        conv => whnf
        repeat (first | (refine Conf.mk (by kernel_rfl) ?_; conv => whnf) | (refine SeqOk.go ?_; conv => whnf))
        refine ⟨fun h => ?_, fun h => ?_⟩
        · have hi' := lt_of h
          have hx := waitErr_of (c := s.clock) (List.getElem?_eq_getElem hi')
          conv => whnf
          repeat (first | (refine Conf.mk (by kernel_rfl) ?_; conv => whnf) | (refine SeqOk.go ?_; conv => whnf))
          refine AtIdx.ofMap hi' rfl ?_
          conv => whnf
          repeat (first | (refine Conf.mk (by kernel_rfl) ?_; conv => whnf) | (refine SeqOk.go ?_; conv => whnf))
          refine .look _ _ (kbetween_ok s.waits[i].number 1 20) rfl rfl ?_
          conv => whnf
          repeat (first | (refine Conf.mk (by kernel_rfl) ?_; conv => whnf) | (refine SeqOk.go ?_; conv => whnf))
          by_cases h4 : isNum s.waits[i].number = false
          · have hx' : waitErr s.clock s.waits i = 3 := by rw [hx, if_pos (.inl h4)]
            refine BoolCase.yes (by rw [num_between, h4]; rfl) ?_
            conv => whnf
            repeat (first | (refine Conf.mk (by kernel_rfl) ?_; conv => whnf) | (refine SeqOk.go ?_; conv => whnf))
            subst hQ1
            conv => whnf
            exact Ret.int (by rw [hE0, firstErr_at _ i hp (by rw [hx']; decide) _ hi', hx']; rfl)
          · refine BoolCase.no (by rw [num_between]; simpa using h4) ?_
            conv => whnf
            repeat (first | (refine Conf.mk (by kernel_rfl) ?_; conv => whnf) | (refine SeqOk.go ?_; conv => whnf))
            refine AtIdx.ofMap hi' rfl ?_
            conv => whnf
            repeat (first | (refine Conf.mk (by kernel_rfl) ?_; conv => whnf) | (refine SeqOk.go ?_; conv => whnf))
            refine .look _ _ (kbetween_ok s.waits[i].time 1 s.clock) rfl rfl ?_
            conv => whnf
            repeat (first | (refine Conf.mk (by kernel_rfl) ?_; conv => whnf) | (refine SeqOk.go ?_; conv => whnf))
            by_cases h5 : s.waits[i].time < 1 ∨ s.clock < s.waits[i].time
            · have hx' : waitErr s.clock s.waits i = 3 := by rw [hx, if_pos (.inr h5)]
              refine BoolCase.yes (by unfold isBetween; simp; omega) ?_
              conv => whnf
              repeat (first | (refine Conf.mk (by kernel_rfl) ?_; conv => whnf) | (refine SeqOk.go ?_; conv => whnf))
              subst hQ1
              conv => whnf
              exact Ret.int (by rw [hE0, firstErr_at _ i hp (by rw [hx']; decide) _ hi', hx']; rfl)
            · refine BoolCase.no (by unfold isBetween; simp; omega) ?_
              rw [if_neg (by rintro (k | k); exact h4 k; exact h5 k)] at hx
              conv => whnf
              repeat (first | (refine Conf.mk (by kernel_rfl) ?_; conv => whnf) | (refine SeqOk.go ?_; conv => whnf))
              cases i with
              | zero =>
                have hx' : waitErr s.clock s.waits 0 = 0 := hx
                refine BoolCase.no rfl ?_
                conv => whnf
                repeat (first | (refine Conf.mk (by kernel_rfl) ?_; conv => whnf) | (refine SeqOk.go ?_; conv => whnf))
                exact Into.mono (Into.to [0] [(3, dInt (0 + 1 : Nat)), (1, .ptr 0 0)] [(0, .vars 43 3 [dInt s.clock, .dat (.list (s.waits.map Wt.enc)), .dat (.list (s.done.map encI))] true)] (by repeat (first | exact trivial | refine ⟨.same (congrArg dInt (wrap_up (by omega))), ?_⟩ | refine ⟨.same rfl, ?_⟩ | refine ⟨.any _, ?_⟩)) ⟨⟨rfl, rfl, rfl, .same rfl, rfl, .same rfl, rfl, .same rfl, rfl, trivial⟩, trivial⟩ rfl rfl) fun s' h => ⟨m - 1, by omega, 0 + 1, by omega, fun j hj => by
                  obtain rfl : j = 0 := by omega
                  exact hx', h⟩
              | succ j =>
                have hj' : j < s.waits.length := by omega
                simp only [List.getElem?_eq_getElem hj'] at hx
                refine BoolCase.yes (by simp <;> omega) ?_
                conv => whnf
                repeat (first | (refine Conf.mk (by kernel_rfl) ?_; conv => whnf) | (refine SeqOk.go ?_; conv => whnf))
                refine AtIdx.ofMap' j (by simp; rw [wrap_id (by omega) (by omega)] <;> omega) hj' rfl ?_
                conv => whnf
                repeat (first | (refine Conf.mk (by kernel_rfl) ?_; conv => whnf) | (refine SeqOk.go ?_; conv => whnf))
                refine AtIdx.ofMap hi' rfl ?_
                conv => whnf
                repeat (first | (refine Conf.mk (by kernel_rfl) ?_; conv => whnf) | (refine SeqOk.go ?_; conv => whnf))
                by_cases h6 : s.waits[j + 1].number ≤ s.waits[j].number
                · have hx' : waitErr s.clock s.waits (j + 1) = 4 := by rw [hx, if_pos h6]
                  refine BoolCase.yes (by simpa using h6) ?_
                  conv => whnf
                  repeat (first | (refine Conf.mk (by kernel_rfl) ?_; conv => whnf) | (refine SeqOk.go ?_; conv => whnf))
                  subst hQ1
                  conv => whnf
                  exact Ret.int (by rw [hE0, firstErr_at _ (j + 1) hp (by rw [hx']; decide) _ hi', hx']; rfl)
                · have hx' : waitErr s.clock s.waits (j + 1) = 0 := by rw [hx, if_neg h6]
                  refine BoolCase.no (by simpa using h6) ?_
                  conv => whnf
                  repeat (first | (refine Conf.mk (by kernel_rfl) ?_; conv => whnf) | (refine SeqOk.go ?_; conv => whnf))
                  exact Into.mono (Into.to [0] [(3, dInt (j + 1 + 1 : Nat)), (1, .ptr 0 0)] [(0, .vars 43 3 [dInt s.clock, .dat (.list (s.waits.map Wt.enc)), .dat (.list (s.done.map encI))] true)] (by repeat (first | exact trivial | refine ⟨.same (congrArg dInt (wrap_up (by omega))), ?_⟩ | refine ⟨.same rfl, ?_⟩ | refine ⟨.any _, ?_⟩)) ⟨⟨rfl, rfl, rfl, .same rfl, rfl, .same rfl, rfl, .same rfl, rfl, trivial⟩, trivial⟩ rfl rfl) fun s' h => ⟨m - 1, by omega, j + 1 + 1, by omega, fun k hk => by
                    by_cases e : k = j + 1
                    · rw [e]; exact hx'
                    · exact hp k (by omega), h⟩
        · have hi' := ge_of h
          obtain rfl : i = s.waits.length := by omega
          have hF := firstErr_zero _ _ hp
          rw [if_neg (by simp [hF])] at hE0
          have hris := rises_of_err hF
          conv => whnf
          repeat (first | (refine Conf.mk (by kernel_rfl) ?_; conv => whnf) | (refine SeqOk.go ?_; conv => whnf))
          subst hQ1
          conv => whnf
          conv => whnf
          repeat (first | (refine Conf.mk (by kernel_rfl) ?_; conv => whnf) | (refine SeqOk.go ?_; conv => whnf))
          refine LoopOk.hide fun Q2 hQ2 => ?_
          refine LoopOk.mk (fun m st => ∃ i, i + m = s.done.length ∧ (∀ j, j < i → doneErr s j = 0) ∧ st = ⟨[(4, dInt i), (1, .ptr 0 0)], 1, [(0, .vars 43 3 [dInt s.clock, .dat (.list (s.waits.map Wt.enc)), .dat (.list (s.done.map encI))] true)]⟩) s.done.length (Into.mono (Into.to [0] [(4, dInt (0 : Nat)), (1, .ptr 0 0)] [(0, .vars 43 3 [dInt s.clock, .dat (.list (s.waits.map Wt.enc)), .dat (.list (s.done.map encI))] true)] (by repeat (first | exact trivial | refine ⟨.same (congrArg dInt (wrap_up (by omega))), ?_⟩ | refine ⟨.same rfl, ?_⟩ | refine ⟨.any _, ?_⟩)) ⟨⟨rfl, rfl, rfl, .same rfl, rfl, .same rfl, rfl, .same rfl, rfl, trivial⟩, trivial⟩ rfl rfl) fun s' h => ⟨0, by omega, fun j hj => absurd hj (Nat.not_lt_zero _), h⟩) ?_
          clear hp hi h
          rintro m st ⟨i, hi, hp, rfl⟩
          conv => whnf
          repeat (first | (refine Conf.mk (by kernel_rfl) ?_; conv => whnf) | (refine SeqOk.go ?_; conv => whnf))
          refine ⟨fun h => ?_, fun h => ?_⟩
          · have hi' := lt_of h
            have hx := doneErr_of hi'
            conv => whnf
            repeat (first | (refine Conf.mk (by kernel_rfl) ?_; conv => whnf) | (refine SeqOk.go ?_; conv => whnf))
            refine AtIdx.ofMap hi' rfl ?_
            conv => whnf
            repeat (first | (refine Conf.mk (by kernel_rfl) ?_; conv => whnf) | (refine SeqOk.go ?_; conv => whnf))
            refine .look _ _ (kbetween_ok s.done[i] 1 20) rfl rfl ?_
            conv => whnf
            repeat (first | (refine Conf.mk (by kernel_rfl) ?_; conv => whnf) | (refine SeqOk.go ?_; conv => whnf))
            by_cases h4 : isNum s.done[i] = false
            · have hx' : doneErr s i = 3 := by rw [hx, if_pos h4]
              refine BoolCase.yes (by rw [num_between, h4]; rfl) ?_
              conv => whnf
              repeat (first | (refine Conf.mk (by kernel_rfl) ?_; conv => whnf) | (refine SeqOk.go ?_; conv => whnf))
              subst hQ2
              conv => whnf
              exact Ret.int (by rw [hE0, firstErr_at _ i hp (by rw [hx']; decide) _ hi', hx']; rfl)
            · rw [if_neg h4] at hx
              refine BoolCase.no (by rw [num_between]; simpa using h4) ?_
              conv => whnf
              repeat (first | (refine Conf.mk (by kernel_rfl) ?_; conv => whnf) | (refine SeqOk.go ?_; conv => whnf))
              refine .mk 0 i rfl rfl (Nat.zero_le _) (by simp; omega) ?_
              conv => whnf
              repeat (first | (refine Conf.mk (by kernel_rfl) ?_; conv => whnf) | (refine SeqOk.go ?_; conv => whnf))
              refine AtIdx.ofMap hi' rfl ?_
              conv => whnf
              repeat (first | (refine Conf.mk (by kernel_rfl) ?_; conv => whnf) | (refine SeqOk.go ?_; conv => whnf))
              rw [takeI]
              refine .data _ _ (hasInt_ok (s.done.take i) s.done[i] (by simp; omega)) rfl ?_
              conv => whnf
              repeat (first | (refine Conf.mk (by kernel_rfl) ?_; conv => whnf) | (refine SeqOk.go ?_; conv => whnf))
              by_cases h5 : s.done[i] ∈ s.done.take i
              · have hx' : doneErr s i = 6 := by rw [hx, if_pos (.inl h5)]
                refine BoolCase.yes (hasInt_iff.2 h5) ?_
                conv => whnf
                repeat (first | (refine Conf.mk (by kernel_rfl) ?_; conv => whnf) | (refine SeqOk.go ?_; conv => whnf))
                subst hQ2
                conv => whnf
                exact Ret.int (by rw [hE0, firstErr_at _ i hp (by rw [hx']; decide) _ hi', hx']; rfl)
              · refine BoolCase.no (bool_no fun k => h5 (hasInt_iff.1 k)) ?_
                conv => whnf
                repeat (first | (refine Conf.mk (by kernel_rfl) ?_; conv => whnf) | (refine SeqOk.go ?_; conv => whnf))
                refine AtIdx.ofMap hi' rfl ?_
                conv => whnf
                repeat (first | (refine Conf.mk (by kernel_rfl) ?_; conv => whnf) | (refine SeqOk.go ?_; conv => whnf))
                refine .data _ _ (waitAt_ok s s.done[i] hw) rfl ?_
                conv => whnf
                repeat (first | (refine Conf.mk (by kernel_rfl) ?_; conv => whnf) | (refine SeqOk.go ?_; conv => whnf))
                by_cases h6 : (findAt s.waits s.done[i]).isSome = true
                · have hx' : doneErr s i = 6 := by rw [hx, if_pos (.inr h6)]
                  refine BoolCase.yes ((optInt_nonneg _).trans h6) ?_
                  conv => whnf
                  repeat (first | (refine Conf.mk (by kernel_rfl) ?_; conv => whnf) | (refine SeqOk.go ?_; conv => whnf))
                  subst hQ2
                  conv => whnf
                  exact Ret.int (by rw [hE0, firstErr_at _ i hp (by rw [hx']; decide) _ hi', hx']; rfl)
                · have hx' : doneErr s i = 0 := by rw [hx, if_neg (by rintro (k | k); exact h5 k; exact h6 k)]
                  refine BoolCase.no ((optInt_nonneg _).trans (bool_no h6)) ?_
                  conv => whnf
                  repeat (first | (refine Conf.mk (by kernel_rfl) ?_; conv => whnf) | (refine SeqOk.go ?_; conv => whnf))
                  exact Into.mono (Into.to [0] [(4, dInt (i + 1 : Nat)), (1, .ptr 0 0)] [(0, .vars 43 3 [dInt s.clock, .dat (.list (s.waits.map Wt.enc)), .dat (.list (s.done.map encI))] true)] (by repeat (first | exact trivial | refine ⟨.same (congrArg dInt (wrap_up (by omega))), ?_⟩ | refine ⟨.same rfl, ?_⟩ | refine ⟨.any _, ?_⟩)) ⟨⟨rfl, rfl, rfl, .same rfl, rfl, .same rfl, rfl, .same rfl, rfl, trivial⟩, trivial⟩ rfl rfl) fun s' h => ⟨m - 1, by omega, i + 1, by omega, fun j hj => by
                    by_cases e : j = i
                    · rw [e]; exact hx'
                    · exact hp j (by omega), h⟩
          · have hi' := ge_of h
            obtain rfl : i = s.done.length := by omega
            have hF2 := firstErr_zero _ _ hp
            rw [if_neg (by simp [hF2])] at hE0
            conv => whnf
            repeat (first | (refine Conf.mk (by kernel_rfl) ?_; conv => whnf) | (refine SeqOk.go ?_; conv => whnf))
            subst hQ2
            conv => whnf
            conv => whnf
            repeat (first | (refine Conf.mk (by kernel_rfl) ?_; conv => whnf) | (refine SeqOk.go ?_; conv => whnf))
            refine .data _ _ (firstWait_ok s (by omega)) rfl ?_
            conv => whnf
            repeat (first | (refine Conf.mk (by kernel_rfl) ?_; conv => whnf) | (refine SeqOk.go ?_; conv => whnf))
            by_cases h7 : s.waits = []
            · have hfp : firstPlace s.waits = none := by rw [h7]; rfl
              have hff : finalFirst s.waits = false := by rw [h7]; rfl
              rw [if_neg (by simp [hff])] at hE0
              rw [hfp]
              refine BoolCase.no rfl ?_
              conv => whnf
              repeat (first | (refine Conf.mk (by kernel_rfl) ?_; conv => whnf) | (refine SeqOk.go ?_; conv => whnf))
              exact Ret.int hE0.symm
            · have hfp := firstPlace_is hris h7
              have hlt : firstAt s.waits < s.waits.length := firstUpto_lt _ _ (Nat.le_refl _) (List.length_pos_iff.2 h7)
              rw [hfp]
              refine BoolCase.yes ((optInt_nonneg _).trans rfl) ?_
              conv => whnf
              repeat (first | (refine Conf.mk (by kernel_rfl) ?_; conv => whnf) | (refine SeqOk.go ?_; conv => whnf))
              refine AtIdx.ofMap' (firstAt s.waits) rfl hlt rfl ?_
              conv => whnf
              repeat (first | (refine Conf.mk (by kernel_rfl) ?_; conv => whnf) | (refine SeqOk.go ?_; conv => whnf))
              have hff : finalFirst s.waits = s.waits[firstAt s.waits].final := finalFirst_at (List.length_pos_iff.2 h7)
              rw [hff] at hE0
              cases h8 : s.waits[firstAt s.waits].final
              · rw [h8] at hE0
                refine BoolCase.no rfl ?_
                conv => whnf
                repeat (first | (refine Conf.mk (by kernel_rfl) ?_; conv => whnf) | (refine SeqOk.go ?_; conv => whnf))
                exact Ret.int hE0.symm
              · rw [h8] at hE0
                refine BoolCase.yes rfl ?_
                conv => whnf
                repeat (first | (refine Conf.mk (by kernel_rfl) ?_; conv => whnf) | (refine SeqOk.go ?_; conv => whnf))
                exact Ret.int hE0.symm
end Go.Proofs.Ytlioojekjnigiab.AM.Sk
/- Servers: the document's ProposeOf. -/
namespace Go.Proofs.Ytlioojekjnigiab.AM.Sk
set_option linter.unusedVariables false
set_option linter.unusedSimpArgs false
theorem propErr_of (s : Sv) (n : Int) : propErr s n = if isNum n = false then 3 else if (findAt s.waits n).isSome = true ∨ n ∈ s.done then 6 else if s.waits.length = 8 ∨ s.clock = 999 then 2 else 0 := rfl
theorem propD_no {s : Sv} {n : Int} (h : propErr s n ≠ 0) : s.propD n = zeroSv := by unfold Sv.propD; rw [if_neg h]
/-- A wait put in at a place. -/
def putAt (ws : List Wt) (x : Wt) (q : Nat) : List Wt := ws.take q ++ x :: ws.drop q
theorem putAt_len {ws : List Wt} {x : Wt} {q : Nat} (h : q ≤ ws.length) : (putAt ws x q).length = ws.length + 1 := by simp [putAt]; omega
theorem putAt_at {ws : List Wt} {x : Wt} {q : Nat} (h : q ≤ ws.length) : (putAt ws x q)[q]? = some x := by
  unfold putAt
  rw [List.getElem?_append_right (by simp; omega), List.length_take, Nat.min_eq_left h, Nat.sub_self]
  rfl
theorem putAt_lt {ws : List Wt} {x : Wt} {q j : Nat} (h : q ≤ ws.length) (hj : j < q) : (putAt ws x q)[j]? = ws[j]? := by
  unfold putAt
  rw [List.getElem?_append_left (by simp; omega), List.getElem?_take, if_pos hj]
theorem atW {l : List Wt} {i : Nat} {x : Wt} {k : Nat → List D → Prop} {n : Int} (hn : n = (i : Int)) (h : l[i]? = some x) (hk : k i x.enc) : AtIdx n (l.map Wt.enc) 3 k := .mk i x.enc hn (by rw [List.getElem?_map, h]; rfl) rfl hk
theorem elW {l : List Wt} {i : Nat} {x : Wt} {k : List D → Prop} (h : l[i]? = some x) (hk : k x.enc) : ElemAt (l.map Wt.enc) i k := .mk x.enc (by rw [List.getElem?_map, h]; rfl) hk
set_option maxHeartbeats 0 in
theorem proposeOf_ok (s : Sv) (n : Int) (hr : Right s) : PCall Try.prog 23 [s.arg, dInt n] (.tup [(s.propD n).arg, dInt (propErr s n)]) := by
  obtain ⟨hc, hlw, hld⟩ : (0 ≤ s.clock ∧ s.clock ≤ 999) ∧ s.waits.length ≤ 8 ∧ s.done.length ≤ 30 := ⟨hr.clock, hr.len, hr.len2⟩
  have hE0 := propErr_of s n
  refine pcall_cut tab_all tab_mixed Try.func23 (by kernel_rfl) Try.ntmps23 rfl ?_
  conv => whnf
  conv => whnf
  repeat (first | (refine Conf.mk (by kernel_rfl) ?_; conv => whnf) | (refine SeqOk.go ?_; conv => whnf))
  refine .look _ _ (kbetween_ok n 1 20) rfl rfl ?_
  conv => whnf
  repeat (first | (refine Conf.mk (by kernel_rfl) ?_; conv => whnf) | (refine SeqOk.go ?_; conv => whnf))
  by_cases h1 : isNum n = false
  · have hE : propErr s n = 3 := by rw [hE0, if_pos h1]
    refine BoolCase.yes (by rw [num_between, h1]; rfl) ?_
    conv => whnf
    repeat (first | (refine Conf.mk (by kernel_rfl) ?_; conv => whnf) | (refine SeqOk.go ?_; conv => whnf))
    rw [propD_no (by rw [hE]; decide), hE]
    exact Ret.to rfl
  · rw [if_neg h1] at hE0
    refine BoolCase.no (by rw [num_between]; simpa using h1) ?_
    conv => whnf
    repeat (first | (refine Conf.mk (by kernel_rfl) ?_; conv => whnf) | (refine SeqOk.go ?_; conv => whnf))
    refine .data _ _ (waitAt_ok s n (by omega)) rfl ?_
    conv => whnf
    repeat (first | (refine Conf.mk (by kernel_rfl) ?_; conv => whnf) | (refine SeqOk.go ?_; conv => whnf))
    by_cases h2 : (findAt s.waits n).isSome = true
    · have hE : propErr s n = 6 := by rw [hE0, if_pos (.inl h2)]
      refine BoolCase.yes ((optInt_nonneg _).trans h2) ?_
      conv => whnf
      repeat (first | (refine Conf.mk (by kernel_rfl) ?_; conv => whnf) | (refine SeqOk.go ?_; conv => whnf))
      rw [propD_no (by rw [hE]; decide), hE]
      exact Ret.to rfl
    · refine BoolCase.no ((optInt_nonneg _).trans (bool_no h2)) ?_
      conv => whnf
      repeat (first | (refine Conf.mk (by kernel_rfl) ?_; conv => whnf) | (refine SeqOk.go ?_; conv => whnf))
      refine .data _ _ (hasInt_ok s.done n (by omega)) rfl ?_
      conv => whnf
      repeat (first | (refine Conf.mk (by kernel_rfl) ?_; conv => whnf) | (refine SeqOk.go ?_; conv => whnf))
      by_cases h3 : n ∈ s.done
      · have hE : propErr s n = 6 := by rw [hE0, if_pos (.inr h3)]
        refine BoolCase.yes (hasInt_iff.2 h3) ?_
        conv => whnf
        repeat (first | (refine Conf.mk (by kernel_rfl) ?_; conv => whnf) | (refine SeqOk.go ?_; conv => whnf))
        rw [propD_no (by rw [hE]; decide), hE]
        exact Ret.to rfl
      · rw [if_neg (by rintro (k | k); exact h2 k; exact h3 k)] at hE0
        refine BoolCase.no (bool_no fun k => h3 (hasInt_iff.1 k)) ?_
        conv => whnf
        repeat (first | (refine Conf.mk (by kernel_rfl) ?_; conv => whnf) | (refine SeqOk.go ?_; conv => whnf))
        by_cases h4 : s.waits.length = 8
        · have hE : propErr s n = 2 := by rw [hE0, if_pos (.inl h4)]
          refine BoolCase.yes (by simp; omega) ?_
          conv => whnf
          repeat (first | (refine Conf.mk (by kernel_rfl) ?_; conv => whnf) | (refine SeqOk.go ?_; conv => whnf))
          rw [propD_no (by rw [hE]; decide), hE]
          exact Ret.to rfl
        · refine BoolCase.no (by simp; omega) ?_
          conv => whnf
          repeat (first | (refine Conf.mk (by kernel_rfl) ?_; conv => whnf) | (refine SeqOk.go ?_; conv => whnf))
          by_cases h5 : s.clock = 999
          · have hE : propErr s n = 2 := by rw [hE0, if_pos (.inr h5)]
            refine BoolCase.yes (by simpa using h5) ?_
            conv => whnf
            repeat (first | (refine Conf.mk (by kernel_rfl) ?_; conv => whnf) | (refine SeqOk.go ?_; conv => whnf))
            rw [propD_no (by rw [hE]; decide), hE]
            exact Ret.to rfl
          · have hE : propErr s n = 0 := by rw [hE0, if_neg (by rintro (k | k); exact h4 k; exact h5 k)]
            refine BoolCase.no (by simpa using h5) ?_
            conv => whnf
            repeat (first | (refine Conf.mk (by kernel_rfl) ?_; conv => whnf) | (refine SeqOk.go ?_; conv => whnf))
            rw [wrap_id (n := s.clock + 1) (by omega) (by omega)]
            refine ⟨by simp [Wt.enc], by simp; omega, ?_⟩
            conv => whnf
            repeat (first | (refine Conf.mk (by kernel_rfl) ?_; conv => whnf) | (refine SeqOk.go ?_; conv => whnf))
            refine ⟨by simp, by simp; omega, ?_⟩
            conv => whnf
            repeat (first | (refine Conf.mk (by kernel_rfl) ?_; conv => whnf) | (refine SeqOk.go ?_; conv => whnf))
            have hinit : (putAt s.waits (⟨n, s.clock + 1, false⟩ : Wt) s.waits.length).map Wt.enc = s.waits.map Wt.enc ++ [((⟨n, s.clock + 1, false⟩ : Wt)).enc] := by
              unfold putAt; simp
            refine LoopOk.hide fun Q1 hQ1 => ?_
            refine LoopOk.mk (fun m st => m ≤ s.waits.length ∧ (∀ j d, m ≤ j → s.waits[j]? = some d → n < d.number) ∧ st = ⟨[(7, dInt m), (6, .ptr 1 0), (4, .ptr 0 0)], 3, [(0, .vars 43 3 [dInt 0, .nil, .nil] true), (1, .vars 43 3 [dInt (s.clock + 1), .row 2, .dat (.list (s.done.map encI))] true), (2, .rows 64 3 ((putAt s.waits (⟨n, s.clock + 1, false⟩ : Wt) m).map Wt.enc) true)]⟩) s.waits.length (Into.mono (Into.to [1, 2, 5] [(7, dInt s.waits.length), (6, .ptr 1 0), (4, .ptr 0 0)] [(0, .vars 43 3 [dInt 0, .nil, .nil] true), (1, .vars 43 3 [dInt (s.clock + 1), .row 2, .dat (.list (s.done.map encI))] true), (2, .rows 64 3 ((putAt s.waits (⟨n, s.clock + 1, false⟩ : Wt) s.waits.length).map Wt.enc) true)] ⟨.same (congrArg dInt (by simp; rw [wrap_id (by omega) (by omega)] <;> omega)), .same rfl, .same rfl, trivial⟩ ⟨⟨rfl, rfl, rfl, .same rfl, rfl, .same rfl, rfl, .same rfl, rfl, trivial⟩, ⟨rfl, rfl, rfl, .same rfl, rfl, .same rfl, rfl, .same rfl, rfl, trivial⟩, ⟨rfl, rfl, rfl, hinit⟩, trivial⟩ rfl rfl) fun s' h => ⟨Nat.le_refl _, fun j d hj hd => by have := (List.getElem?_eq_some_iff.1 hd).1; omega, h⟩) ?_
            rintro q st ⟨hq, hz, rfl⟩
            have hout : ∀ q, insAt s.waits n = q → s.propD n = ⟨s.clock + 1, putAt s.waits (⟨n, s.clock + 1, false⟩ : Wt) q, s.done⟩ := fun q h => by
              unfold Sv.propD
              rw [if_pos hE, propSv, insertW, putAt]
              simp only [h]
            have hne : ∀ d ∈ s.waits, d.number ≠ n := fun d hd k => h2 (findAt_isSome.2 ⟨d, hd, k⟩)
            conv => whnf
            repeat (first | (refine Conf.mk (by kernel_rfl) ?_; conv => whnf) | (refine SeqOk.go ?_; conv => whnf))
            cases q with
            | zero =>
              refine BoolCase.no rfl ?_
              conv => whnf
              repeat (first | (refine Conf.mk (by kernel_rfl) ?_; conv => whnf) | (refine SeqOk.go ?_; conv => whnf))
              subst hQ1
              conv => whnf
              rw [hout 0 (insAt_of hr.rises (Nat.zero_le _) (fun j d hj hd => hz j d hj hd) (fun q y h => by omega)), hE]
              exact Ret.to rfl
            | succ q =>
              have hy : s.waits[q]? = some s.waits[q] := List.getElem?_eq_getElem (by omega)
              generalize s.waits[q] = y at hy
              have hx1 : (putAt s.waits (⟨n, s.clock + 1, false⟩ : Wt) (q + 1))[q + 1]? = some (⟨n, s.clock + 1, false⟩ : Wt) := putAt_at hq
              have hx2 : (putAt s.waits (⟨n, s.clock + 1, false⟩ : Wt) (q + 1))[q]? = some y := by rw [putAt_lt hq (Nat.lt_succ_self q), hy]
              have hw : IntKind.i64.wrap (((q + 1 : Nat) : Int) - 1) = (q : Int) := by rw [wrap_id (by omega) (by omega)]; omega
              refine BoolCase.yes (by simp <;> omega) ?_
              conv => whnf
              repeat (first | (refine Conf.mk (by kernel_rfl) ?_; conv => whnf) | (refine SeqOk.go ?_; conv => whnf))
              refine atW rfl hx1 ?_
              conv => whnf
              repeat (first | (refine Conf.mk (by kernel_rfl) ?_; conv => whnf) | (refine SeqOk.go ?_; conv => whnf))
              refine elW hx1 ?_
              conv => whnf
              repeat (first | (refine Conf.mk (by kernel_rfl) ?_; conv => whnf) | (refine SeqOk.go ?_; conv => whnf))
              refine atW hw hx2 ?_
              conv => whnf
              repeat (first | (refine Conf.mk (by kernel_rfl) ?_; conv => whnf) | (refine SeqOk.go ?_; conv => whnf))
              refine elW hx2 ?_
              conv => whnf
              repeat (first | (refine Conf.mk (by kernel_rfl) ?_; conv => whnf) | (refine SeqOk.go ?_; conv => whnf))
              by_cases h6 : n < y.number
              · refine BoolCase.yes (by simpa using h6) ?_
                conv => whnf
                repeat (first | (refine Conf.mk (by kernel_rfl) ?_; conv => whnf) | (refine SeqOk.go ?_; conv => whnf))
                refine atW hw hx2 ?_
                conv => whnf
                repeat (first | (refine Conf.mk (by kernel_rfl) ?_; conv => whnf) | (refine SeqOk.go ?_; conv => whnf))
                refine elW hx2 ?_
                conv => whnf
                repeat (first | (refine Conf.mk (by kernel_rfl) ?_; conv => whnf) | (refine SeqOk.go ?_; conv => whnf))
                refine atW rfl hx1 ?_
                conv => whnf
                repeat (first | (refine Conf.mk (by kernel_rfl) ?_; conv => whnf) | (refine SeqOk.go ?_; conv => whnf))
                refine elW hx1 ?_
                conv => whnf
                repeat (first | (refine Conf.mk (by kernel_rfl) ?_; conv => whnf) | (refine SeqOk.go ?_; conv => whnf))
                refine atW rfl hx1 ?_
                conv => whnf
                repeat (first | (refine Conf.mk (by kernel_rfl) ?_; conv => whnf) | (refine SeqOk.go ?_; conv => whnf))
                refine elW hx1 ?_
                conv => whnf
                repeat (first | (refine Conf.mk (by kernel_rfl) ?_; conv => whnf) | (refine SeqOk.go ?_; conv => whnf))
                refine .mk q y.enc hw (by rw [List.getElem?_set_ne (by omega), List.getElem?_map, hx2]; rfl) rfl ?_
                conv => whnf
                repeat (first | (refine Conf.mk (by kernel_rfl) ?_; conv => whnf) | (refine SeqOk.go ?_; conv => whnf))
                refine .mk y.enc (by rw [List.getElem?_set_ne (by omega), List.getElem?_map, hx2]; rfl) ?_
                conv => whnf
                repeat (first | (refine Conf.mk (by kernel_rfl) ?_; conv => whnf) | (refine SeqOk.go ?_; conv => whnf))
                have hsw : (putAt s.waits (⟨n, s.clock + 1, false⟩ : Wt) q).map Wt.enc = (((putAt s.waits (⟨n, s.clock + 1, false⟩ : Wt) (q + 1)).map Wt.enc).set (q + 1) y.enc).set q ((⟨n, s.clock + 1, false⟩ : Wt)).enc := by
                  rw [← List.map_set, ← List.map_set]
                  exact congrArg (List.map Wt.enc) (swap_list hy).symm
                exact Into.mono (Into.to [0, 1, 2] [(7, dInt q), (6, .ptr 1 0), (4, .ptr 0 0)] [(0, .vars 43 3 [dInt 0, .nil, .nil] true), (1, .vars 43 3 [dInt (s.clock + 1), .row 2, .dat (.list (s.done.map encI))] true), (2, .rows 64 3 ((putAt s.waits (⟨n, s.clock + 1, false⟩ : Wt) q).map Wt.enc) true)] ⟨.same (congrArg dInt hw.symm), .same rfl, .same rfl, trivial⟩ ⟨⟨rfl, rfl, rfl, .same rfl, rfl, .same rfl, rfl, .same rfl, rfl, trivial⟩, ⟨rfl, rfl, rfl, .same rfl, rfl, .same rfl, rfl, .same rfl, rfl, trivial⟩, ⟨rfl, rfl, rfl, hsw⟩, trivial⟩ rfl rfl) fun s' h => ⟨q, by omega, by omega, fun j d hj hd => by
                  by_cases e : j = q
                  · subst e; rw [hy] at hd; cases hd; exact h6
                  · exact hz j d (by omega) hd, h⟩
              · refine BoolCase.no (by simpa using h6) ?_
                conv => whnf
                repeat (first | (refine Conf.mk (by kernel_rfl) ?_; conv => whnf) | (refine SeqOk.go ?_; conv => whnf))
                subst hQ1
                conv => whnf
                rw [hout (q + 1) (insAt_of hr.rises hq (fun j d hj hd => hz j d hj hd) (fun p z h hz2 => by
                  obtain rfl : p = q := by omega
                  rw [hy] at hz2
                  cases hz2
                  have := hne y (List.mem_of_getElem? hy)
                  omega)), hE]
                exact Ret.to rfl
end Go.Proofs.Ytlioojekjnigiab.AM.Sk
/- Servers: the document's CommitOf. -/
namespace Go.Proofs.Ytlioojekjnigiab.AM.Sk
set_option linter.unusedVariables false
set_option linter.unusedSimpArgs false
theorem commD_no {s : Sv} {n t : Int} (h : commErr s n t ≠ 0) : s.commD n t = zeroSv := by unfold Sv.commD; rw [if_neg h]
theorem eraseW {ws : List Wt} {k : Nat} : (ws.eraseIdx k).map Wt.enc = (ws.map Wt.enc).take k ++ (ws.map Wt.enc).drop (k + 1) := by
  rw [List.eraseIdx_eq_take_drop_succ, List.map_append, map_takeW, map_dropW]
theorem Rises.erase {ws : List Wt} (h : Rises ws) (k : Nat) : Rises (ws.eraseIdx k) := List.Pairwise.sublist (List.eraseIdx_sublist ws k) h
theorem partW {ws : List Wt} {a b : Nat} : ∀ e ∈ ((ws.map Wt.enc).drop a).take b, e.length = 3 := fun e he => by
  have h1 := List.mem_of_mem_drop (List.mem_of_mem_take he)
  rw [List.mem_map] at h1
  obtain ⟨x, _, rfl⟩ := h1
  rfl
set_option maxHeartbeats 0 in
theorem commitOf_ok (s : Sv) (n t : Int) (hr : Right s) : PCall Try.prog 24 [s.arg, dInt n, dInt t] (.tup [(s.commD n t).arg, dInt (commErr s n t)]) := by
  obtain ⟨hc, hlw, hld⟩ : (0 ≤ s.clock ∧ s.clock ≤ 999) ∧ s.waits.length ≤ 8 ∧ s.done.length ≤ 30 := ⟨hr.clock, hr.len, hr.len2⟩
  refine pcall_cut tab_all tab_mixed Try.func24 (by kernel_rfl) Try.ntmps24 rfl ?_
  conv => whnf
  conv => whnf
  repeat (first | (refine Conf.mk (by kernel_rfl) ?_; conv => whnf) | (refine SeqOk.go ?_; conv => whnf))
  refine .look _ _ (kbetween_ok n 1 20) rfl rfl ?_
  conv => whnf
  repeat (first | (refine Conf.mk (by kernel_rfl) ?_; conv => whnf) | (refine SeqOk.go ?_; conv => whnf))
  by_cases h1 : isNum n = false
  · have hE : commErr s n t = 3 := by unfold commErr; rw [if_pos (.inl h1)]
    refine BoolCase.yes (by rw [num_between, h1]; rfl) ?_
    conv => whnf
    repeat (first | (refine Conf.mk (by kernel_rfl) ?_; conv => whnf) | (refine SeqOk.go ?_; conv => whnf))
    rw [commD_no (by rw [hE]; decide), hE]
    exact Ret.to rfl
  · refine BoolCase.no (by rw [num_between]; simpa using h1) ?_
    conv => whnf
    repeat (first | (refine Conf.mk (by kernel_rfl) ?_; conv => whnf) | (refine SeqOk.go ?_; conv => whnf))
    refine .look _ _ (kbetween_ok t 1 999) rfl rfl ?_
    conv => whnf
    repeat (first | (refine Conf.mk (by kernel_rfl) ?_; conv => whnf) | (refine SeqOk.go ?_; conv => whnf))
    by_cases h2 : t < 1 ∨ 999 < t
    · have hE : commErr s n t = 3 := by unfold commErr; rw [if_pos (.inr h2)]
      refine BoolCase.yes (by rw [between_time]; simpa using h2) ?_
      conv => whnf
      repeat (first | (refine Conf.mk (by kernel_rfl) ?_; conv => whnf) | (refine SeqOk.go ?_; conv => whnf))
      rw [commD_no (by rw [hE]; decide), hE]
      exact Ret.to rfl
    · have hb : ¬ (isNum n = false ∨ t < 1 ∨ 999 < t) := by rintro (k | k); exact h1 k; exact h2 k
      refine BoolCase.no (by rw [between_time]; simpa using h2) ?_
      conv => whnf
      repeat (first | (refine Conf.mk (by kernel_rfl) ?_; conv => whnf) | (refine SeqOk.go ?_; conv => whnf))
      refine .data _ _ (waitAt_ok s n (by omega)) rfl ?_
      conv => whnf
      repeat (first | (refine Conf.mk (by kernel_rfl) ?_; conv => whnf) | (refine SeqOk.go ?_; conv => whnf))
      cases hf : findAt s.waits n with
      | none =>
        have hE : commErr s n t = 5 := by unfold commErr; rw [if_neg hb, hf]
        refine BoolCase.yes rfl ?_
        conv => whnf
        repeat (first | (refine Conf.mk (by kernel_rfl) ?_; conv => whnf) | (refine SeqOk.go ?_; conv => whnf))
        rw [commD_no (by rw [hE]; decide), hE]
        exact Ret.to rfl
      | some i =>
        obtain ⟨x, hx, hxn⟩ := findAt_is hf
        have hC : commErr s n t = if x.final = true ∨ t < x.time then 4 else if 30 < (commSv s n t i).done.length then 2 else 0 := by
          unfold commErr
          rw [if_neg hb, hf]
          simp only [hx]
        refine BoolCase.no (decide_eq_false (by show ¬ ((i : Int) < 0); omega)) ?_
        conv => whnf
        repeat (first | (refine Conf.mk (by kernel_rfl) ?_; conv => whnf) | (refine SeqOk.go ?_; conv => whnf))
        refine atW rfl hx ?_
        conv => whnf
        repeat (first | (refine Conf.mk (by kernel_rfl) ?_; conv => whnf) | (refine SeqOk.go ?_; conv => whnf))
        by_cases h4 : x.final = true
        · have hE : commErr s n t = 4 := by rw [hC, if_pos (.inl h4)]
          refine BoolCase.yes h4 ?_
          conv => whnf
          repeat (first | (refine Conf.mk (by kernel_rfl) ?_; conv => whnf) | (refine SeqOk.go ?_; conv => whnf))
          rw [commD_no (by rw [hE]; decide), hE]
          exact Ret.to rfl
        · refine BoolCase.no (by simpa using h4) ?_
          conv => whnf
          repeat (first | (refine Conf.mk (by kernel_rfl) ?_; conv => whnf) | (refine SeqOk.go ?_; conv => whnf))
          refine atW rfl hx ?_
          conv => whnf
          repeat (first | (refine Conf.mk (by kernel_rfl) ?_; conv => whnf) | (refine SeqOk.go ?_; conv => whnf))
          by_cases h5 : t < x.time
          · have hE : commErr s n t = 4 := by rw [hC, if_pos (.inr h5)]
            refine BoolCase.yes (by simpa using h5) ?_
            conv => whnf
            repeat (first | (refine Conf.mk (by kernel_rfl) ?_; conv => whnf) | (refine SeqOk.go ?_; conv => whnf))
            rw [commD_no (by rw [hE]; decide), hE]
            exact Ret.to rfl
          · refine BoolCase.no (by simpa using h5) ?_
            rw [if_neg (by rintro (k | k); exact h4 k; exact h5 k)] at hC
            conv => whnf
            refine SeqOk.cut' ⟨[(1, dInt n), (2, dInt t), (8, dInt i), (3, .ptr 0 0), (6, .ptr 1 0), (9, .ptr 2 0)], 3, [(0, .vars 43 3 [dInt s.clock, .dat (.list (s.waits.map Wt.enc)), .dat (.list (s.done.map encI))] true), (1, .vars 43 3 [dInt 0, .nil, .nil] true), (2, .vars 43 3 [dInt (max s.clock t), .dat (.list (s.waits.map Wt.enc)), .dat (.list (s.done.map encI))] true)]⟩ ?_ ?_
            · conv => whnf
              by_cases h6 : s.clock < t
              · have hmx : t = max s.clock t := by omega
                refine BoolCase.yes (by simpa using h6) ?_
                conv => whnf
                exact Into.to [0, 1, 2] [(1, dInt n), (2, dInt t), (8, dInt i), (3, .ptr 0 0), (6, .ptr 1 0), (9, .ptr 2 0)] [(0, .vars 43 3 [dInt s.clock, .dat (.list (s.waits.map Wt.enc)), .dat (.list (s.done.map encI))] true), (1, .vars 43 3 [dInt 0, .nil, .nil] true), (2, .vars 43 3 [dInt (max s.clock t), .dat (.list (s.waits.map Wt.enc)), .dat (.list (s.done.map encI))] true)] (by repeat (first | exact trivial | refine ⟨.same (congrArg dInt (wrap_up (by omega))), ?_⟩ | refine ⟨.same rfl, ?_⟩ | refine ⟨.any _, ?_⟩)) ⟨⟨rfl, rfl, rfl, .same rfl, rfl, .same rfl, rfl, .same rfl, rfl, trivial⟩, ⟨rfl, rfl, rfl, .same rfl, rfl, .same rfl, rfl, .same rfl, rfl, trivial⟩, ⟨rfl, rfl, rfl, .same (by first | exact congrArg dInt hmx | exact congrArg dInt hmx.symm), rfl, .same rfl, rfl, .same rfl, rfl, trivial⟩, trivial⟩ rfl rfl
              · have hmx : s.clock = max s.clock t := by omega
                refine BoolCase.no (by simpa using h6) ?_
                conv => whnf
                exact Into.to [0, 1, 2] [(1, dInt n), (2, dInt t), (8, dInt i), (3, .ptr 0 0), (6, .ptr 1 0), (9, .ptr 2 0)] [(0, .vars 43 3 [dInt s.clock, .dat (.list (s.waits.map Wt.enc)), .dat (.list (s.done.map encI))] true), (1, .vars 43 3 [dInt 0, .nil, .nil] true), (2, .vars 43 3 [dInt (max s.clock t), .dat (.list (s.waits.map Wt.enc)), .dat (.list (s.done.map encI))] true)] (by repeat (first | exact trivial | refine ⟨.same (congrArg dInt (wrap_up (by omega))), ?_⟩ | refine ⟨.same rfl, ?_⟩ | refine ⟨.any _, ?_⟩)) ⟨⟨rfl, rfl, rfl, .same rfl, rfl, .same rfl, rfl, .same rfl, rfl, trivial⟩, ⟨rfl, rfl, rfl, .same rfl, rfl, .same rfl, rfl, .same rfl, rfl, trivial⟩, ⟨rfl, rfl, rfl, .same (by first | exact congrArg dInt hmx | exact congrArg dInt hmx.symm), rfl, .same rfl, rfl, .same rfl, rfl, trivial⟩, trivial⟩ rfl rfl
            · clear hb h1 h2 h4 h5
              conv => whnf
              repeat (first | (refine Conf.mk (by kernel_rfl) ?_; conv => whnf) | (refine SeqOk.go ?_; conv => whnf))
              refine ⟨by simp [Wt.enc], by simp; omega, ?_⟩
              conv => whnf
              repeat (first | (refine Conf.mk (by kernel_rfl) ?_; conv => whnf) | (refine SeqOk.go ?_; conv => whnf))
              refine ⟨by simp [encI], by simp; omega, ?_⟩
              conv => whnf
              repeat (first | (refine Conf.mk (by kernel_rfl) ?_; conv => whnf) | (refine SeqOk.go ?_; conv => whnf))
              refine atW rfl hx ?_
              conv => whnf
              repeat (first | (refine Conf.mk (by kernel_rfl) ?_; conv => whnf) | (refine SeqOk.go ?_; conv => whnf))
              refine elW hx ?_
              conv => whnf
              repeat (first | (refine Conf.mk (by kernel_rfl) ?_; conv => whnf) | (refine SeqOk.go ?_; conv => whnf))
              have hset : (s.waits.map Wt.enc).set i (⟨n, t, true⟩ : Wt).enc = ((s.waits.set i ⟨n, t, true⟩)).map Wt.enc := List.map_set.symm
              have hfw := firstWait_ok ⟨max s.clock t, (s.waits.set i ⟨n, t, true⟩), s.done⟩ (by simp; omega)
              have hfw : PCall Try.prog 60 [.agg [dInt (max s.clock t), .dat (.list ((s.waits.map Wt.enc).set i (⟨n, t, true⟩ : Wt).enc)), .dat (.list (s.done.map encI))]] (dInt (optInt (firstPlace (s.waits.set i ⟨n, t, true⟩)))) := by rw [hset]; exact hfw
              refine .look _ _ hfw rfl rfl ?_
              conv => whnf
              repeat (first | (refine Conf.mk (by kernel_rfl) ?_; conv => whnf) | (refine SeqOk.go ?_; conv => whnf))
              simp only
              have hris := set_rises hr.rises hx (a := ⟨n, t, true⟩) hxn.symm
              refine LoopOk.hide fun Q1 hQ1 => ?_
              refine LoopOk.mk (fun m st => ∃ ws ds, ws.length = m ∧ settle m ws ds = settle s.waits.length (s.waits.set i ⟨n, t, true⟩) s.done ∧ Rises ws ∧ ws.length ≤ 8 ∧ ws.length + ds.length ≤ 38 ∧ st = ⟨[(10, dInt (optInt (firstPlace ws))), (9, .ptr 1 0), (6, .ptr 0 0)], 4, [(0, .vars 43 3 [dInt 0, .nil, .nil] true), (1, .vars 43 3 [dInt (max s.clock t), .row 2, .row 3] true), (2, .rows 64 3 (ws.map Wt.enc) true), (3, .rows 3 1 (ds.map encI) true)]⟩) s.waits.length (Into.mono (Into.to [1, 2, 3, 4] [(10, dInt (optInt (firstPlace (s.waits.set i ⟨n, t, true⟩)))), (9, .ptr 1 0), (6, .ptr 0 0)] [(0, .vars 43 3 [dInt 0, .nil, .nil] true), (1, .vars 43 3 [dInt (max s.clock t), .row 2, .row 3] true), (2, .rows 64 3 (((s.waits.set i ⟨n, t, true⟩)).map Wt.enc) true), (3, .rows 3 1 (s.done.map encI) true)] (by repeat (first | exact trivial | refine ⟨.same (congrArg dInt (wrap_up (by omega))), ?_⟩ | refine ⟨.same rfl, ?_⟩ | refine ⟨.any _, ?_⟩)) ⟨⟨rfl, rfl, rfl, .same rfl, rfl, .same rfl, rfl, .same rfl, rfl, trivial⟩, ⟨rfl, rfl, rfl, .same rfl, rfl, .same rfl, rfl, .same rfl, rfl, trivial⟩, ⟨rfl, rfl, rfl, hset.symm⟩, ⟨rfl, rfl, rfl, rfl⟩, trivial⟩ rfl rfl) fun s' h => ⟨(s.waits.set i ⟨n, t, true⟩), s.done, by simp, rfl, hris, by simp; omega, by simp; omega, h⟩) ?_
              rintro m st ⟨ws, ds, hm, hse, hrs, hw8, hwd, rfl⟩
              have hend : ∀ ws' ds', settle s.waits.length (s.waits.set i ⟨n, t, true⟩) s.done = (ws', ds') → commSv s n t i = ⟨max s.clock t, ws', ds'⟩ := fun ws' ds' h => by unfold commSv; rw [h]
              by_cases hn : ws = []
              · subst hn
                have hst : settle m [] ds = ([], ds) := settle_stop rfl ds m
                rw [show firstPlace [] = none from rfl]
                generalize hws : ([] : List Wt) = ws at *
                conv => whnf
                repeat (first | (refine Conf.mk (by kernel_rfl) ?_; conv => whnf) | (refine SeqOk.go ?_; conv => whnf))
                refine BoolCase.no rfl ?_
                conv => whnf
                repeat (first | (refine Conf.mk (by kernel_rfl) ?_; conv => whnf) | (refine SeqOk.go ?_; conv => whnf))
                subst hQ1
                conv => whnf
                have hS := hend ws ds (by rw [← hse, hst])
                rw [hS] at hC
                conv => whnf
                repeat (first | (refine Conf.mk (by kernel_rfl) ?_; conv => whnf) | (refine SeqOk.go ?_; conv => whnf))
                by_cases h7 : 30 < ds.length
                · have hE : commErr s n t = 2 := by rw [hC, if_pos h7]
                  refine BoolCase.yes (by simp; omega) ?_
                  conv => whnf
                  repeat (first | (refine Conf.mk (by kernel_rfl) ?_; conv => whnf) | (refine SeqOk.go ?_; conv => whnf))
                  rw [commD_no (by rw [hE]; decide), hE]
                  exact Ret.to rfl
                · have hE : commErr s n t = 0 := by rw [hC, if_neg h7]
                  have hR : s.commD n t = ⟨max s.clock t, ws, ds⟩ := by unfold Sv.commD; rw [if_pos hE, hf]; exact hS
                  refine BoolCase.no (by simp; omega) ?_
                  conv => whnf
                  repeat (first | (refine Conf.mk (by kernel_rfl) ?_; conv => whnf) | (refine SeqOk.go ?_; conv => whnf))
                  rw [hR, hE]
                  exact Ret.to rfl
              · have hfp := firstPlace_is hrs hn
                have hlt : firstAt ws < ws.length := firstUpto_lt _ _ (Nat.le_refl _) (List.length_pos_iff.2 hn)
                have hx : ws[firstAt ws]? = some ws[firstAt ws] := List.getElem?_eq_getElem hlt
                generalize ws[firstAt ws] = y at hx
                rw [hfp]
                conv => whnf
                repeat (first | (refine Conf.mk (by kernel_rfl) ?_; conv => whnf) | (refine SeqOk.go ?_; conv => whnf))
                refine BoolCase.yes ((optInt_nonneg _).trans rfl) ?_
                conv => whnf
                repeat (first | (refine Conf.mk (by kernel_rfl) ?_; conv => whnf) | (refine SeqOk.go ?_; conv => whnf))
                refine atW rfl hx ?_
                conv => whnf
                repeat (first | (refine Conf.mk (by kernel_rfl) ?_; conv => whnf) | (refine SeqOk.go ?_; conv => whnf))
                refine elW hx ?_
                conv => whnf
                repeat (first | (refine Conf.mk (by kernel_rfl) ?_; conv => whnf) | (refine SeqOk.go ?_; conv => whnf))
                by_cases hyf : y.final = true
                · refine BoolCase.yes hyf ?_
                  conv => whnf
                  repeat (first | (refine Conf.mk (by kernel_rfl) ?_; conv => whnf) | (refine SeqOk.go ?_; conv => whnf))
                  refine atW rfl hx ?_
                  conv => whnf
                  repeat (first | (refine Conf.mk (by kernel_rfl) ?_; conv => whnf) | (refine SeqOk.go ?_; conv => whnf))
                  refine elW hx ?_
                  conv => whnf
                  repeat (first | (refine Conf.mk (by kernel_rfl) ?_; conv => whnf) | (refine SeqOk.go ?_; conv => whnf))
                  refine ⟨by simp, by simp; omega, ?_⟩
                  conv => whnf
                  repeat (first | (refine Conf.mk (by kernel_rfl) ?_; conv => whnf) | (refine SeqOk.go ?_; conv => whnf))
                  refine .mk 0 (firstAt ws) rfl rfl (Nat.zero_le _) (by simp; omega) ?_
                  conv => whnf
                  repeat (first | (refine Conf.mk (by kernel_rfl) ?_; conv => whnf) | (refine SeqOk.go ?_; conv => whnf))
                  refine ⟨partW, by simp; omega, ?_⟩
                  conv => whnf
                  repeat (first | (refine Conf.mk (by kernel_rfl) ?_; conv => whnf) | (refine SeqOk.go ?_; conv => whnf))
                  refine .mk (firstAt ws + 1) (ws.map Wt.enc).length (by rw [show optInt (some (firstAt ws)) = ((firstAt ws : Nat) : Int) from rfl, wrap_id (by omega) (by omega)]; omega) rfl (by simp; omega) (Nat.le_refl _) ?_
                  conv => whnf
                  repeat (first | (refine Conf.mk (by kernel_rfl) ?_; conv => whnf) | (refine SeqOk.go ?_; conv => whnf))
                  refine ⟨partW, by simp; omega, ?_⟩
                  conv => whnf
                  repeat (first | (refine Conf.mk (by kernel_rfl) ?_; conv => whnf) | (refine SeqOk.go ?_; conv => whnf))
                  have her : List.take (firstAt ws) (List.drop 0 (List.map Wt.enc ws)) ++ List.take ((List.map Wt.enc ws).length - (firstAt ws + 1)) (List.drop (firstAt ws + 1) (List.map Wt.enc ws)) = (ws.eraseIdx (firstAt ws)).map Wt.enc := by
                    rw [eraseW, List.drop_zero, List.take_of_length_le (l := (ws.map Wt.enc).drop (firstAt ws + 1)) (by simp)]
                  have hel : (ws.eraseIdx (firstAt ws)).length + 1 = ws.length := by rw [List.length_eraseIdx, if_pos hlt]; omega
                  have hfw2 := firstWait_ok ⟨max s.clock t, ws.eraseIdx (firstAt ws), ds ++ [y.number]⟩ (by show (ws.eraseIdx (firstAt ws)).length ≤ _; omega)
                  have hda : ds.map encI ++ [[D.int .i64 y.number]] = (ds ++ [y.number]).map encI := by simp [encI]
                  have hfw2 : PCall Try.prog 60 [.agg [dInt (max s.clock t), .dat (.list (List.take (firstAt ws) (List.drop 0 (List.map Wt.enc ws)) ++ List.take ((List.map Wt.enc ws).length - (firstAt ws + 1)) (List.drop (firstAt ws + 1) (List.map Wt.enc ws)))), .dat (.list (ds.map encI ++ [[D.int .i64 y.number]]))]] (dInt (optInt (firstPlace (ws.eraseIdx (firstAt ws))))) := by rw [her, hda]; exact hfw2
                  refine .look _ _ hfw2 rfl rfl ?_
                  conv => whnf
                  repeat (first | (refine Conf.mk (by kernel_rfl) ?_; conv => whnf) | (refine SeqOk.go ?_; conv => whnf))
                  have hmm : settle (m - 1) (ws.eraseIdx (firstAt ws)) (ds ++ [y.number]) = settle s.waits.length (s.waits.set i ⟨n, t, true⟩) s.done := by
                    obtain ⟨m', rfl⟩ : ∃ m', m = m' + 1 := ⟨m - 1, by omega⟩
                    rw [← hse, settle_step hx hyf]
                    rfl
                  exact Into.mono (Into.to [0, 1, 7, 5] [(10, dInt (optInt (firstPlace (ws.eraseIdx (firstAt ws))))), (9, .ptr 1 0), (6, .ptr 0 0)] [(0, .vars 43 3 [dInt 0, .nil, .nil] true), (1, .vars 43 3 [dInt (max s.clock t), .row 2, .row 3] true), (2, .rows 64 3 ((ws.eraseIdx (firstAt ws)).map Wt.enc) true), (3, .rows 3 1 ((ds ++ [y.number]).map encI) true)] (by repeat (first | exact trivial | refine ⟨.same (congrArg dInt (wrap_up (by omega))), ?_⟩ | refine ⟨.same rfl, ?_⟩ | refine ⟨.any _, ?_⟩)) ⟨⟨rfl, rfl, rfl, .same rfl, rfl, .same rfl, rfl, .same rfl, rfl, trivial⟩, ⟨rfl, rfl, rfl, .same rfl, rfl, .same rfl, rfl, .same rfl, rfl, trivial⟩, ⟨rfl, rfl, rfl, her.symm⟩, ⟨rfl, rfl, rfl, hda.symm⟩, trivial⟩ rfl rfl) fun s' h => ⟨m - 1, by omega, ws.eraseIdx (firstAt ws), ds ++ [y.number], by omega, hmm, hrs.erase _, by omega, by simp; omega, h⟩
                · have hst : settle m ws ds = (ws, ds) := settle_stop (by unfold finalFirst; rw [hx]; exact bool_no hyf) ds m
                  refine BoolCase.no (bool_no hyf) ?_
                  conv => whnf
                  repeat (first | (refine Conf.mk (by kernel_rfl) ?_; conv => whnf) | (refine SeqOk.go ?_; conv => whnf))
                  subst hQ1
                  conv => whnf
                  have hS := hend ws ds (by rw [← hse, hst])
                  rw [hS] at hC
                  conv => whnf
                  repeat (first | (refine Conf.mk (by kernel_rfl) ?_; conv => whnf) | (refine SeqOk.go ?_; conv => whnf))
                  by_cases h7 : 30 < ds.length
                  · have hE : commErr s n t = 2 := by rw [hC, if_pos h7]
                    refine BoolCase.yes (by simp; omega) ?_
                    conv => whnf
                    repeat (first | (refine Conf.mk (by kernel_rfl) ?_; conv => whnf) | (refine SeqOk.go ?_; conv => whnf))
                    rw [commD_no (by rw [hE]; decide), hE]
                    exact Ret.to rfl
                  · have hE : commErr s n t = 0 := by rw [hC, if_neg h7]
                    have hR : s.commD n t = ⟨max s.clock t, ws, ds⟩ := by unfold Sv.commD; rw [if_pos hE, hf]; exact hS
                    refine BoolCase.no (by simp; omega) ?_
                    conv => whnf
                    repeat (first | (refine Conf.mk (by kernel_rfl) ?_; conv => whnf) | (refine SeqOk.go ?_; conv => whnf))
                    rw [hR, hE]
                    exact Ret.to rfl
end Go.Proofs.Ytlioojekjnigiab.AM.Sk
/- Servers: copies of three. -/
namespace Go.Proofs.Ytlioojekjnigiab.AM.Sk
set_option linter.unusedVariables false
set_option linter.unusedSimpArgs false
set_option maxHeartbeats 0 in
theorem copyOfAll_ok (a b c : Sv) (ha : a.waits.length ≤ 1000 ∧ a.done.length ≤ 1000) (hb : b.waits.length ≤ 1000 ∧ b.done.length ≤ 1000) (hc : c.waits.length ≤ 1000 ∧ c.done.length ≤ 1000) : ECall Try.prog 53 [.dat (.list ([a, b, c].map Sv.enc))] [] 0 (.row 0) [(0, .vars 43 3 (cellsOf a ++ cellsOf b ++ cellsOf c) true)] 1 := by
  have c1 := scopyOf_ok a ha.1 ha.2
  have c2 := scopyOf_ok b hb.1 hb.2
  have c3 := scopyOf_ok c hc.1 hc.2
  refine acall_cut tab_all tab_mixed Try.func53 (by kernel_rfl) Try.ntmps53 rfl ?_
  conv => whnf
  conv => whnf
  repeat (first | (refine Conf.mk (by kernel_rfl) ?_; conv => whnf) | (refine SeqOk.go ?_; conv => whnf))
  refine .mk 3 rfl ?_
  conv => whnf
  repeat (first | (refine Conf.mk (by kernel_rfl) ?_; conv => whnf) | (refine SeqOk.go ?_; conv => whnf))
  refine ⟨by simp, ?_⟩
  conv => whnf
  repeat (first | (refine Conf.mk (by kernel_rfl) ?_; conv => whnf) | (refine SeqOk.go ?_; conv => whnf))
  refine LoopOk.hide fun Q1 hQ1 => ?_
  refine LoopOk.mk (fun m s => (m = 3 ∧ s = ⟨[(11, dInt 0), (10, dInt 3), (9, .dat (.list ([a, b, c].map Sv.enc))), (3, .row 0)], 1, [(0, .vars 43 3 [] true)]⟩) ∨ (m = 2 ∧ s = ⟨[(11, dInt 1), (10, dInt 3), (9, .dat (.list ([a, b, c].map Sv.enc))), (3, .row 0)], 3, [(0, .vars 43 3 [dInt a.clock, .row 1, .row 2] true), (1, .rows 64 3 (a.waits.map Wt.enc) true), (2, .rows 3 1 (a.done.map encI) true)]⟩) ∨ (m = 1 ∧ s = ⟨[(11, dInt 2), (10, dInt 3), (9, .dat (.list ([a, b, c].map Sv.enc))), (3, .row 0)], 5, [(0, .vars 43 3 [dInt a.clock, .row 1, .row 2, dInt b.clock, .row 3, .row 4] true), (1, .rows 64 3 (a.waits.map Wt.enc) true), (2, .rows 3 1 (a.done.map encI) true), (3, .rows 64 3 (b.waits.map Wt.enc) true), (4, .rows 3 1 (b.done.map encI) true)]⟩) ∨ (m = 0 ∧ s = ⟨[(11, dInt 3), (10, dInt 3), (9, .dat (.list ([a, b, c].map Sv.enc))), (3, .row 0)], 7, [(0, .vars 43 3 [dInt a.clock, .row 1, .row 2, dInt b.clock, .row 3, .row 4, dInt c.clock, .row 5, .row 6] true), (1, .rows 64 3 (a.waits.map Wt.enc) true), (2, .rows 3 1 (a.done.map encI) true), (3, .rows 64 3 (b.waits.map Wt.enc) true), (4, .rows 3 1 (b.done.map encI) true), (5, .rows 64 3 (c.waits.map Wt.enc) true), (6, .rows 3 1 (c.done.map encI) true)]⟩)) 3 (Into.mono (Into.to [0] [(11, dInt 0), (10, dInt 3), (9, .dat (.list ([a, b, c].map Sv.enc))), (3, .row 0)] [(0, .vars 43 3 [] true)] (by repeat (first | exact trivial | refine ⟨.same (congrArg dInt (wrap_up (by omega))), ?_⟩ | refine ⟨.same rfl, ?_⟩ | refine ⟨.any _, ?_⟩)) ⟨⟨rfl, rfl, rfl, trivial⟩, trivial⟩ rfl rfl) fun s' h => .inl ⟨rfl, h⟩) ?_
  rintro m s (⟨rfl, rfl⟩ | ⟨rfl, rfl⟩ | ⟨rfl, rfl⟩ | ⟨rfl, rfl⟩)
  · conv => whnf
    repeat (first | (refine Conf.mk (by kernel_rfl) ?_; conv => whnf) | (refine SeqOk.go ?_; conv => whnf))
    refine BoolCase.yes rfl ?_
    conv => whnf
    repeat (first | (refine Conf.mk (by kernel_rfl) ?_; conv => whnf) | (refine SeqOk.go ?_; conv => whnf))
    refine AtIdx.ofMap (l := [a, b, c]) (i := 0) (by simp) rfl ?_
    conv => whnf
    repeat (first | (refine Conf.mk (by kernel_rfl) ?_; conv => whnf) | (refine SeqOk.go ?_; conv => whnf))
    refine .eff [] _ _ _ _ 2 c1 rfl rfl rfl rfl rfl ?_
    conv => whnf
    repeat (first | (refine Conf.mk (by kernel_rfl) ?_; conv => whnf) | (refine SeqOk.go ?_; conv => whnf))
    refine cond_yes (by kernel_rfl) ?_
    conv => whnf
    repeat (first | (refine Conf.mk (by kernel_rfl) ?_; conv => whnf) | (refine SeqOk.go ?_; conv => whnf))
    refine ⟨by simp, ?_⟩
    conv => whnf
    repeat (first | (refine Conf.mk (by kernel_rfl) ?_; conv => whnf) | (refine SeqOk.go ?_; conv => whnf))
    exact Into.mono (Into.to [5, 2, 3] [(11, dInt 1), (10, dInt 3), (9, .dat (.list ([a, b, c].map Sv.enc))), (3, .row 0)] [(0, .vars 43 3 [dInt a.clock, .row 1, .row 2] true), (1, .rows 64 3 (a.waits.map Wt.enc) true), (2, .rows 3 1 (a.done.map encI) true)] (by repeat (first | exact trivial | refine ⟨.same (congrArg dInt (wrap_up (by omega))), ?_⟩ | refine ⟨.same rfl, ?_⟩ | refine ⟨.any _, ?_⟩)) ⟨⟨rfl, rfl, rfl, .same rfl, rfl, .same rfl, rfl, .same rfl, rfl, trivial⟩, ⟨rfl, rfl, rfl, rfl⟩, ⟨rfl, rfl, rfl, rfl⟩, trivial⟩ rfl rfl) fun s' h => ⟨2, by omega, .inr (.inl ⟨rfl, h⟩)⟩
  · conv => whnf
    repeat (first | (refine Conf.mk (by kernel_rfl) ?_; conv => whnf) | (refine SeqOk.go ?_; conv => whnf))
    refine BoolCase.yes rfl ?_
    conv => whnf
    repeat (first | (refine Conf.mk (by kernel_rfl) ?_; conv => whnf) | (refine SeqOk.go ?_; conv => whnf))
    refine AtIdx.ofMap (l := [a, b, c]) (i := 1) (by simp) rfl ?_
    conv => whnf
    repeat (first | (refine Conf.mk (by kernel_rfl) ?_; conv => whnf) | (refine SeqOk.go ?_; conv => whnf))
    refine .eff [] _ _ _ _ 2 c2 rfl rfl rfl rfl rfl ?_
    conv => whnf
    repeat (first | (refine Conf.mk (by kernel_rfl) ?_; conv => whnf) | (refine SeqOk.go ?_; conv => whnf))
    refine cond_yes (by kernel_rfl) ?_
    conv => whnf
    repeat (first | (refine Conf.mk (by kernel_rfl) ?_; conv => whnf) | (refine SeqOk.go ?_; conv => whnf))
    refine ⟨by simp, ?_⟩
    conv => whnf
    repeat (first | (refine Conf.mk (by kernel_rfl) ?_; conv => whnf) | (refine SeqOk.go ?_; conv => whnf))
    exact Into.mono (Into.to [7, 1, 2, 4, 5] [(11, dInt 2), (10, dInt 3), (9, .dat (.list ([a, b, c].map Sv.enc))), (3, .row 0)] [(0, .vars 43 3 [dInt a.clock, .row 1, .row 2, dInt b.clock, .row 3, .row 4] true), (1, .rows 64 3 (a.waits.map Wt.enc) true), (2, .rows 3 1 (a.done.map encI) true), (3, .rows 64 3 (b.waits.map Wt.enc) true), (4, .rows 3 1 (b.done.map encI) true)] (by repeat (first | exact trivial | refine ⟨.same (congrArg dInt (wrap_up (by omega))), ?_⟩ | refine ⟨.same rfl, ?_⟩ | refine ⟨.any _, ?_⟩)) ⟨⟨rfl, rfl, rfl, .same rfl, rfl, .same rfl, rfl, .same rfl, rfl, .same rfl, rfl, .same rfl, rfl, .same rfl, rfl, trivial⟩, ⟨rfl, rfl, rfl, rfl⟩, ⟨rfl, rfl, rfl, rfl⟩, ⟨rfl, rfl, rfl, rfl⟩, ⟨rfl, rfl, rfl, rfl⟩, trivial⟩ rfl rfl) fun s' h => ⟨1, by omega, .inr (.inr (.inl ⟨rfl, h⟩))⟩
  · conv => whnf
    repeat (first | (refine Conf.mk (by kernel_rfl) ?_; conv => whnf) | (refine SeqOk.go ?_; conv => whnf))
    refine BoolCase.yes rfl ?_
    conv => whnf
    repeat (first | (refine Conf.mk (by kernel_rfl) ?_; conv => whnf) | (refine SeqOk.go ?_; conv => whnf))
    refine AtIdx.ofMap (l := [a, b, c]) (i := 2) (by simp) rfl ?_
    conv => whnf
    repeat (first | (refine Conf.mk (by kernel_rfl) ?_; conv => whnf) | (refine SeqOk.go ?_; conv => whnf))
    refine .eff [] _ _ _ _ 2 c3 rfl rfl rfl rfl rfl ?_
    conv => whnf
    repeat (first | (refine Conf.mk (by kernel_rfl) ?_; conv => whnf) | (refine SeqOk.go ?_; conv => whnf))
    refine cond_yes (by kernel_rfl) ?_
    conv => whnf
    repeat (first | (refine Conf.mk (by kernel_rfl) ?_; conv => whnf) | (refine SeqOk.go ?_; conv => whnf))
    refine ⟨by simp, ?_⟩
    conv => whnf
    repeat (first | (refine Conf.mk (by kernel_rfl) ?_; conv => whnf) | (refine SeqOk.go ?_; conv => whnf))
    exact Into.mono (Into.to [9, 1, 2, 3, 4, 6, 7] [(11, dInt 3), (10, dInt 3), (9, .dat (.list ([a, b, c].map Sv.enc))), (3, .row 0)] [(0, .vars 43 3 [dInt a.clock, .row 1, .row 2, dInt b.clock, .row 3, .row 4, dInt c.clock, .row 5, .row 6] true), (1, .rows 64 3 (a.waits.map Wt.enc) true), (2, .rows 3 1 (a.done.map encI) true), (3, .rows 64 3 (b.waits.map Wt.enc) true), (4, .rows 3 1 (b.done.map encI) true), (5, .rows 64 3 (c.waits.map Wt.enc) true), (6, .rows 3 1 (c.done.map encI) true)] (by repeat (first | exact trivial | refine ⟨.same (congrArg dInt (wrap_up (by omega))), ?_⟩ | refine ⟨.same rfl, ?_⟩ | refine ⟨.any _, ?_⟩)) ⟨⟨rfl, rfl, rfl, .same rfl, rfl, .same rfl, rfl, .same rfl, rfl, .same rfl, rfl, .same rfl, rfl, .same rfl, rfl, .same rfl, rfl, .same rfl, rfl, .same rfl, rfl, trivial⟩, ⟨rfl, rfl, rfl, rfl⟩, ⟨rfl, rfl, rfl, rfl⟩, ⟨rfl, rfl, rfl, rfl⟩, ⟨rfl, rfl, rfl, rfl⟩, ⟨rfl, rfl, rfl, rfl⟩, ⟨rfl, rfl, rfl, rfl⟩, trivial⟩ rfl rfl) fun s' h => ⟨0, by omega, .inr (.inr (.inr ⟨rfl, h⟩))⟩
  · conv => whnf
    repeat (first | (refine Conf.mk (by kernel_rfl) ?_; conv => whnf) | (refine SeqOk.go ?_; conv => whnf))
    refine BoolCase.no rfl ?_
    conv => whnf
    repeat (first | (refine Conf.mk (by kernel_rfl) ?_; conv => whnf) | (refine SeqOk.go ?_; conv => whnf))
    subst hQ1
    conv => whnf
    exact .mk [1, 2, 3, 4, 5, 6] [0] (.row 0) [(0, .vars 43 3 (cellsOf a ++ cellsOf b ++ cellsOf c) true)] rfl (.same rfl) ⟨⟨rfl, rfl, rfl, .same rfl, rfl, .data rfl, rfl, .data rfl, rfl, .same rfl, rfl, .data rfl, rfl, .data rfl, rfl, .same rfl, rfl, .data rfl, rfl, .data rfl, rfl, trivial⟩, trivial⟩ rfl rfl ⟨rfl, rfl, rfl⟩
end Go.Proofs.Ytlioojekjnigiab.AM.Sk
/- Servers: each, and All. -/
namespace Go.Proofs.Ytlioojekjnigiab.AM.Sk
set_option linter.unusedVariables false
set_option linter.unusedSimpArgs false
theorem shr_is (c : Int) (hc : 1 ≤ c ∧ c ≤ 7) (k : Nat) (hk : k < 3) : IntKind.i64.wrap (c / 2 ^ k) = c / 2 ^ k := by
  have h2 : k = 0 ∨ k = 1 ∨ k = 2 := by omega
  rcases h2 with rfl | rfl | rfl <;> exact wrap_id (by omega) (by omega)
theorem bit_am (c : Int) (hc : 1 ≤ c ∧ c ≤ 7) (k : Nat) (hk : k < 3) : (IntKind.i64.wrap ↑(BitVec.ofInt IntKind.i64.bits (c.fdiv (2 ^ min k IntKind.i64.bits)) &&& BitVec.ofInt IntKind.i64.bits 1).toNat == 0) = (!bitOf c k) := by
  have h1 : c = 1 ∨ c = 2 ∨ c = 3 ∨ c = 4 ∨ c = 5 ∨ c = 6 ∨ c = 7 := by omega
  have h2 : k = 0 ∨ k = 1 ∨ k = 2 := by omega
  rcases h1 with rfl | rfl | rfl | rfl | rfl | rfl | rfl <;> rcases h2 with rfl | rfl | rfl <;> first | rfl | decide
theorem all2e_ok (s : Sv) (n t : Int) (h : SvOk s) : ECall Try.prog 56 [s.arg, .ptr 0 0, .ptr 1 0] [(0, .vars 3 1 [dInt n] true), (1, .vars 3 1 [dInt t] true)] 2 (.tup [(s.commR n t).arg, dInt (s.commE n t)]) [(0, .vars 3 1 [dInt n] true), (1, .vars 3 1 [dInt t] true)] 0 := by
  refine acall_cut tab_all tab_mixed Try.func56 (by kernel_rfl) Try.ntmps56 rfl ?_
  conv => whnf
  conv => whnf
  repeat (first | (refine Conf.mk (by kernel_rfl) ?_; conv => whnf) | (refine SeqOk.go ?_; conv => whnf))
  refine .data _ _ (scomm_ok s n t h.1 h.2) rfl ?_
  conv => whnf
  repeat (first | (refine Conf.mk (by kernel_rfl) ?_; conv => whnf) | (refine SeqOk.go ?_; conv => whnf))
  exact .mk [] [0, 1] (.tup [(s.commR n t).arg, dInt (s.commE n t)]) [(0, .vars 3 1 [dInt n] true), (1, .vars 3 1 [dInt t] true)] rfl (.same rfl) ⟨⟨rfl, rfl, rfl, .same rfl, rfl, trivial⟩, ⟨rfl, rfl, rfl, .same rfl, rfl, trivial⟩, trivial⟩ rfl rfl ⟨rfl, rfl, rfl⟩
theorem propR_ok {s : Sv} (h : SvOk s) (n : Int) : SvOk (s.propR n) := by
  unfold Sv.propR
  split
  · rename_i h0
    obtain ⟨h1, h2⟩ := propE_parts h0
    obtain ⟨_, hw, hd, _⟩ := s.fine h1
    have := insertW_length s.waits ⟨n, s.clock + 1, false⟩
    exact ⟨by show s.done.length ≤ _; omega, by show (insertW s.waits ⟨n, s.clock + 1, false⟩).length ≤ _; omega⟩
  · exact ⟨Nat.zero_le _, Nat.zero_le _⟩
theorem commR_ok {s : Sv} (h : SvOk s) (n t : Int) : SvOk (s.commR n t) := by
  unfold Sv.commR
  split
  · rename_i h0
    obtain ⟨h1, h2⟩ := commE_parts h0
    obtain ⟨_, hw, hd, _⟩ := s.fine h1
    have := (settle_more s.waits.length (s.waits.set ((findAt s.waits n).getD 0) ⟨n, t, true⟩) s.done).2
    rw [List.length_set] at this
    exact ⟨by show (settle s.waits.length (s.waits.set ((findAt s.waits n).getD 0) ⟨n, t, true⟩) s.done).2.length ≤ _; omega, by show (settle s.waits.length (s.waits.set ((findAt s.waits n).getD 0) ⟨n, t, true⟩) s.done).1.length ≤ _; omega⟩
  · exact ⟨Nat.zero_le _, Nat.zero_le _⟩
theorem eachGo_done (f : Sv → Int → Sv × Int × Int) (c : Int) (ss : List Sv) (g : Int) : eachGo f c 0 3 ss g = (ss, g, 0) := rfl
theorem eachGo_skip' {f : Sv → Int → Sv × Int × Int} {c : Int} {m k : Nat} {ss : List Sv} {g : Int} {s : Sv} (hs : ss[k]? = some s) (hb : bitOf c k = false) : eachGo f c (m + 1) k ss g = eachGo f c m (k + 1) ss g := by
  rw [eachGo, hs]
  simp only [hb, Bool.false_eq_true, if_false]
theorem eachGo_go' {f : Sv → Int → Sv × Int × Int} {c : Int} {m k : Nat} {ss : List Sv} {g : Int} {s : Sv} (hs : ss[k]? = some s) (hb : bitOf c k = true) (h0 : (f s g).2.2 = 0) : eachGo f c (m + 1) k ss g = eachGo f c m (k + 1) (ss.set k (f s g).1) (f s g).2.1 := by
  rw [eachGo, hs]
  simp only [hb, if_true]
  rw [if_pos h0]
theorem eachGo_err' {f : Sv → Int → Sv × Int × Int} {c : Int} {m k : Nat} {ss : List Sv} {g : Int} {s : Sv} (hs : ss[k]? = some s) (hb : bitOf c k = true) (h0 : (f s g).2.2 ≠ 0) : eachGo f c (m + 1) k ss g = (ss, (f s g).2.1, (f s g).2.2) := by
  rw [eachGo, hs]
  simp only [hb, if_true]
  rw [if_neg h0]
set_option maxHeartbeats 0 in
theorem each1_ok (x0 y0 z0 : Sv) (n g0 c : Int) (hc : 1 ≤ c ∧ c ≤ 7) (ox : SvOk x0) (oy : SvOk y0) (oz : SvOk z0) (x' y' z' : Sv) (g' e : Int) (hr : eachGo (fP n) c 3 0 [x0, y0, z0] g0 = ([x', y', z'], g', e)) :
    ECall Try.prog 54 [.row 0, dInt c, .fn (.func 55) [] [.ptr 1 0, .ptr 2 0]] [(0, .vars 43 3 [dInt x0.clock, .dat (.list (x0.waits.map Wt.enc)), .dat (.list (x0.done.map encI)), dInt y0.clock, .dat (.list (y0.waits.map Wt.enc)), .dat (.list (y0.done.map encI)), dInt z0.clock, .dat (.list (z0.waits.map Wt.enc)), .dat (.list (z0.done.map encI))] true), (1, .vars 3 1 [dInt n] true), (2, .vars 3 1 [dInt g0] true)] 3 (dInt e) [(0, .vars 43 3 [dInt x'.clock, .dat (.list (x'.waits.map Wt.enc)), .dat (.list (x'.done.map encI)), dInt y'.clock, .dat (.list (y'.waits.map Wt.enc)), .dat (.list (y'.done.map encI)), dInt z'.clock, .dat (.list (z'.waits.map Wt.enc)), .dat (.list (z'.done.map encI))] true), (1, .vars 3 1 [dInt n] true), (2, .vars 3 1 [dInt g'] true)] 0 := by
  refine acall_cut tab_all tab_mixed Try.func54 (by kernel_rfl) Try.ntmps54 rfl ?_
  conv => whnf
  conv => whnf
  repeat (first | (refine Conf.mk (by kernel_rfl) ?_; conv => whnf) | (refine SeqOk.go ?_; conv => whnf))
  refine LoopOk.hide fun Q1 hQ1 => ?_
  refine LoopOk.mk (fun m s => ∃ (i : Nat) (x y z : Sv) (g : Int), i + m = 3 ∧ SvOk x ∧ SvOk y ∧ SvOk z ∧ eachGo (fP n) c m i [x, y, z] g = ([x', y', z'], g', e) ∧ s = ⟨(13, dInt i) :: [(12, dInt 3), (11, .row 0), (0, .row 0), (1, dInt c), (2, .fn (.func 55) [] [.ptr 1 0, .ptr 2 0])], 3, [(0, .vars 43 3 [dInt x.clock, .dat (.list (x.waits.map Wt.enc)), .dat (.list (x.done.map encI)), dInt y.clock, .dat (.list (y.waits.map Wt.enc)), .dat (.list (y.done.map encI)), dInt z.clock, .dat (.list (z.waits.map Wt.enc)), .dat (.list (z.done.map encI))] true), (1, .vars 3 1 [dInt n] true), (2, .vars 3 1 [dInt g] true)]⟩) 3 (Into.mono (Into.to [0, 1, 2] [(13, dInt (0 : Nat)), (12, dInt 3), (11, .row 0), (0, .row 0), (1, dInt c), (2, .fn (.func 55) [] [.ptr 1 0, .ptr 2 0])] [(0, .vars 43 3 [dInt x0.clock, .dat (.list (x0.waits.map Wt.enc)), .dat (.list (x0.done.map encI)), dInt y0.clock, .dat (.list (y0.waits.map Wt.enc)), .dat (.list (y0.done.map encI)), dInt z0.clock, .dat (.list (z0.waits.map Wt.enc)), .dat (.list (z0.done.map encI))] true), (1, .vars 3 1 [dInt n] true), (2, .vars 3 1 [dInt g0] true)] ⟨.same rfl, .same (by kernel_rfl), .same rfl, .same rfl, .same rfl, .same rfl, trivial⟩ ⟨⟨rfl, rfl, rfl, .same rfl, rfl, .same rfl, rfl, .same rfl, rfl, .same rfl, rfl, .same rfl, rfl, .same rfl, rfl, .same rfl, rfl, .same rfl, rfl, .same rfl, rfl, trivial⟩, ⟨rfl, rfl, rfl, .same rfl, rfl, trivial⟩, ⟨rfl, rfl, rfl, .same rfl, rfl, trivial⟩, trivial⟩ rfl rfl) fun s' h => ⟨0, x0, y0, z0, g0, rfl, ox, oy, oz, hr, h⟩) ?_
  rintro m s ⟨i, x, y, z, g, him, kx, ky, kz, hg, rfl⟩
  have hi : i = 0 ∨ i = 1 ∨ i = 2 ∨ i = 3 := by omega
  rcases hi with rfl | rfl | rfl | rfl
  · obtain rfl : m = 3 := by omega
    conv => whnf
    repeat (first | (refine Conf.mk (by kernel_rfl) ?_; conv => whnf) | (refine SeqOk.go ?_; conv => whnf))
    refine BoolCase.yes rfl ?_
    conv => whnf
    repeat (first | (refine Conf.mk (by kernel_rfl) ?_; conv => whnf) | (refine SeqOk.go ?_; conv => whnf))
    refine .mk 0 rfl (by simp) ?_
    conv => whnf
    repeat (first | (refine Conf.mk (by kernel_rfl) ?_; conv => whnf) | (refine SeqOk.go ?_; conv => whnf))
    refine .mk 0 rfl ?_
    conv => whnf
    repeat (first | (refine Conf.mk (by kernel_rfl) ?_; conv => whnf) | (refine SeqOk.go ?_; conv => whnf))
    have hbit := bit_am c hc 0 (by omega)
    cases hb : bitOf c 0
    · rw [hb] at hbit
      refine BoolCase.yes hbit ?_
      conv => whnf
      repeat (first | (refine Conf.mk (by kernel_rfl) ?_; conv => whnf) | (refine SeqOk.go ?_; conv => whnf))
      exact Into.mono (Into.to [0, 1, 2] [(13, dInt (0 + 1 : Nat)), (12, dInt 3), (11, .row 0), (0, .row 0), (1, dInt c), (2, .fn (.func 55) [] [.ptr 1 0, .ptr 2 0])] [(0, .vars 43 3 [dInt x.clock, .dat (.list (x.waits.map Wt.enc)), .dat (.list (x.done.map encI)), dInt y.clock, .dat (.list (y.waits.map Wt.enc)), .dat (.list (y.done.map encI)), dInt z.clock, .dat (.list (z.waits.map Wt.enc)), .dat (.list (z.done.map encI))] true), (1, .vars 3 1 [dInt n] true), (2, .vars 3 1 [dInt g] true)] (by repeat (first | exact trivial | refine ⟨.same (congrArg dInt (wrap_up (by omega))), ?_⟩ | refine ⟨.same rfl, ?_⟩ | refine ⟨.any _, ?_⟩)) ⟨⟨rfl, rfl, rfl, .same rfl, rfl, .same rfl, rfl, .same rfl, rfl, .same rfl, rfl, .same rfl, rfl, .same rfl, rfl, .same rfl, rfl, .same rfl, rfl, .same rfl, rfl, trivial⟩, ⟨rfl, rfl, rfl, .same rfl, rfl, trivial⟩, ⟨rfl, rfl, rfl, .same rfl, rfl, trivial⟩, trivial⟩ rfl rfl) fun s' h => ⟨2, by omega, 1, x, y, z, g, rfl, kx, ky, kz, by rw [← hg]; exact (eachGo_skip' (s := x) (ss := [x, y, z]) (k := 0) (m := 2) rfl hb).symm, h⟩
    · rw [hb] at hbit
      refine BoolCase.no hbit ?_
      conv => whnf
      repeat (first | (refine Conf.mk (by kernel_rfl) ?_; conv => whnf) | (refine SeqOk.go ?_; conv => whnf))
      refine .eff [1, 2] _ _ _ _ 0 (all1_ok x n g kx) rfl rfl rfl rfl rfl ?_
      conv => whnf
      repeat (first | (refine Conf.mk (by kernel_rfl) ?_; conv => whnf) | (refine SeqOk.go ?_; conv => whnf))
      try simp only
      by_cases h0 : x.propE n = 0
      · refine BoolCase.no (by simp [h0]) ?_
        conv => whnf
        repeat (first | (refine Conf.mk (by kernel_rfl) ?_; conv => whnf) | (refine SeqOk.go ?_; conv => whnf))
        refine .mk 0 rfl (by simp) ?_
        conv => whnf
        repeat (first | (refine Conf.mk (by kernel_rfl) ?_; conv => whnf) | (refine SeqOk.go ?_; conv => whnf))
        simp only
        exact Into.mono (Into.to [0, 1, 2] [(13, dInt (0 + 1 : Nat)), (12, dInt 3), (11, .row 0), (0, .row 0), (1, dInt c), (2, .fn (.func 55) [] [.ptr 1 0, .ptr 2 0])] [(0, .vars 43 3 [dInt (x.propR n).clock, .dat (.list ((x.propR n).waits.map Wt.enc)), .dat (.list ((x.propR n).done.map encI)), dInt y.clock, .dat (.list (y.waits.map Wt.enc)), .dat (.list (y.done.map encI)), dInt z.clock, .dat (.list (z.waits.map Wt.enc)), .dat (.list (z.done.map encI))] true), (1, .vars 3 1 [dInt n] true), (2, .vars 3 1 [dInt (max g (x.propR n).clock)] true)] (by repeat (first | exact trivial | refine ⟨.same (congrArg dInt (wrap_up (by omega))), ?_⟩ | refine ⟨.same rfl, ?_⟩ | refine ⟨.any _, ?_⟩)) ⟨⟨rfl, rfl, rfl, .same rfl, rfl, .same rfl, rfl, .same rfl, rfl, .same rfl, rfl, .same rfl, rfl, .same rfl, rfl, .same rfl, rfl, .same rfl, rfl, .same rfl, rfl, trivial⟩, ⟨rfl, rfl, rfl, .same rfl, rfl, trivial⟩, ⟨rfl, rfl, rfl, .same rfl, rfl, trivial⟩, trivial⟩ rfl rfl) fun s' h => ⟨2, by omega, 1, (x.propR n), y, z, (max g (x.propR n).clock), rfl, propR_ok kx n, ky, kz, by rw [← hg]; exact (eachGo_go' (f := fP n) (g := g) (s := x) (ss := [x, y, z]) (k := 0) (m := 2) rfl hb h0).symm, h⟩
      · rw [eachGo_err' (f := fP n) (g := g) (s := x) (ss := [x, y, z]) (k := 0) (m := 2) rfl hb h0] at hg
        obtain ⟨h1, rfl, rfl⟩ : [x, y, z] = [x', y', z'] ∧ max g (x.propR n).clock = g' ∧ x.propE n = e := by
          have k1 := congrArg Prod.fst hg
          have k2 := congrArg (fun t => t.2.1) hg
          have k3 := congrArg (fun t => t.2.2) hg
          exact ⟨k1, k2, k3⟩
        simp only [List.cons.injEq, and_true] at h1
        obtain ⟨rfl, rfl, rfl⟩ := h1
        refine BoolCase.yes (by simpa using h0) ?_
        conv => whnf
        repeat (first | (refine Conf.mk (by kernel_rfl) ?_; conv => whnf) | (refine SeqOk.go ?_; conv => whnf))
        subst hQ1
        conv => whnf
        exact .mk [] [0, 1, 2] _ [(0, .vars 43 3 [dInt x.clock, .dat (.list (x.waits.map Wt.enc)), .dat (.list (x.done.map encI)), dInt y.clock, .dat (.list (y.waits.map Wt.enc)), .dat (.list (y.done.map encI)), dInt z.clock, .dat (.list (z.waits.map Wt.enc)), .dat (.list (z.done.map encI))] true), (1, .vars 3 1 [dInt n] true), (2, .vars 3 1 [dInt (max g (x.propR n).clock)] true)] rfl (.same rfl) ⟨⟨rfl, rfl, rfl, .same rfl, rfl, .same rfl, rfl, .same rfl, rfl, .same rfl, rfl, .same rfl, rfl, .same rfl, rfl, .same rfl, rfl, .same rfl, rfl, .same rfl, rfl, trivial⟩, ⟨rfl, rfl, rfl, .same rfl, rfl, trivial⟩, ⟨rfl, rfl, rfl, .same rfl, rfl, trivial⟩, trivial⟩ rfl rfl ⟨rfl, rfl, rfl⟩
  · obtain rfl : m = 2 := by omega
    conv => whnf
    repeat (first | (refine Conf.mk (by kernel_rfl) ?_; conv => whnf) | (refine SeqOk.go ?_; conv => whnf))
    refine BoolCase.yes rfl ?_
    conv => whnf
    repeat (first | (refine Conf.mk (by kernel_rfl) ?_; conv => whnf) | (refine SeqOk.go ?_; conv => whnf))
    refine .mk 1 rfl (by simp) ?_
    conv => whnf
    repeat (first | (refine Conf.mk (by kernel_rfl) ?_; conv => whnf) | (refine SeqOk.go ?_; conv => whnf))
    refine .mk 1 rfl ?_
    conv => whnf
    repeat (first | (refine Conf.mk (by kernel_rfl) ?_; conv => whnf) | (refine SeqOk.go ?_; conv => whnf))
    have hbit := bit_am c hc 1 (by omega)
    cases hb : bitOf c 1
    · rw [hb] at hbit
      refine BoolCase.yes hbit ?_
      conv => whnf
      repeat (first | (refine Conf.mk (by kernel_rfl) ?_; conv => whnf) | (refine SeqOk.go ?_; conv => whnf))
      exact Into.mono (Into.to [0, 1, 2] [(13, dInt (1 + 1 : Nat)), (12, dInt 3), (11, .row 0), (0, .row 0), (1, dInt c), (2, .fn (.func 55) [] [.ptr 1 0, .ptr 2 0])] [(0, .vars 43 3 [dInt x.clock, .dat (.list (x.waits.map Wt.enc)), .dat (.list (x.done.map encI)), dInt y.clock, .dat (.list (y.waits.map Wt.enc)), .dat (.list (y.done.map encI)), dInt z.clock, .dat (.list (z.waits.map Wt.enc)), .dat (.list (z.done.map encI))] true), (1, .vars 3 1 [dInt n] true), (2, .vars 3 1 [dInt g] true)] (by repeat (first | exact trivial | refine ⟨.same (congrArg dInt (wrap_up (by omega))), ?_⟩ | refine ⟨.same rfl, ?_⟩ | refine ⟨.any _, ?_⟩)) ⟨⟨rfl, rfl, rfl, .same rfl, rfl, .same rfl, rfl, .same rfl, rfl, .same rfl, rfl, .same rfl, rfl, .same rfl, rfl, .same rfl, rfl, .same rfl, rfl, .same rfl, rfl, trivial⟩, ⟨rfl, rfl, rfl, .same rfl, rfl, trivial⟩, ⟨rfl, rfl, rfl, .same rfl, rfl, trivial⟩, trivial⟩ rfl rfl) fun s' h => ⟨1, by omega, 2, x, y, z, g, rfl, kx, ky, kz, by rw [← hg]; exact (eachGo_skip' (s := y) (ss := [x, y, z]) (k := 1) (m := 1) rfl hb).symm, h⟩
    · rw [hb] at hbit
      refine BoolCase.no hbit ?_
      conv => whnf
      repeat (first | (refine Conf.mk (by kernel_rfl) ?_; conv => whnf) | (refine SeqOk.go ?_; conv => whnf))
      refine .eff [1, 2] _ _ _ _ 0 (all1_ok y n g ky) rfl rfl rfl rfl rfl ?_
      conv => whnf
      repeat (first | (refine Conf.mk (by kernel_rfl) ?_; conv => whnf) | (refine SeqOk.go ?_; conv => whnf))
      try simp only
      by_cases h0 : y.propE n = 0
      · refine BoolCase.no (by simp [h0]) ?_
        conv => whnf
        repeat (first | (refine Conf.mk (by kernel_rfl) ?_; conv => whnf) | (refine SeqOk.go ?_; conv => whnf))
        refine .mk 1 rfl (by simp) ?_
        conv => whnf
        repeat (first | (refine Conf.mk (by kernel_rfl) ?_; conv => whnf) | (refine SeqOk.go ?_; conv => whnf))
        simp only
        exact Into.mono (Into.to [0, 1, 2] [(13, dInt (1 + 1 : Nat)), (12, dInt 3), (11, .row 0), (0, .row 0), (1, dInt c), (2, .fn (.func 55) [] [.ptr 1 0, .ptr 2 0])] [(0, .vars 43 3 [dInt x.clock, .dat (.list (x.waits.map Wt.enc)), .dat (.list (x.done.map encI)), dInt (y.propR n).clock, .dat (.list ((y.propR n).waits.map Wt.enc)), .dat (.list ((y.propR n).done.map encI)), dInt z.clock, .dat (.list (z.waits.map Wt.enc)), .dat (.list (z.done.map encI))] true), (1, .vars 3 1 [dInt n] true), (2, .vars 3 1 [dInt (max g (y.propR n).clock)] true)] (by repeat (first | exact trivial | refine ⟨.same (congrArg dInt (wrap_up (by omega))), ?_⟩ | refine ⟨.same rfl, ?_⟩ | refine ⟨.any _, ?_⟩)) ⟨⟨rfl, rfl, rfl, .same rfl, rfl, .same rfl, rfl, .same rfl, rfl, .same rfl, rfl, .same rfl, rfl, .same rfl, rfl, .same rfl, rfl, .same rfl, rfl, .same rfl, rfl, trivial⟩, ⟨rfl, rfl, rfl, .same rfl, rfl, trivial⟩, ⟨rfl, rfl, rfl, .same rfl, rfl, trivial⟩, trivial⟩ rfl rfl) fun s' h => ⟨1, by omega, 2, x, (y.propR n), z, (max g (y.propR n).clock), rfl, kx, propR_ok ky n, kz, by rw [← hg]; exact (eachGo_go' (f := fP n) (g := g) (s := y) (ss := [x, y, z]) (k := 1) (m := 1) rfl hb h0).symm, h⟩
      · rw [eachGo_err' (f := fP n) (g := g) (s := y) (ss := [x, y, z]) (k := 1) (m := 1) rfl hb h0] at hg
        obtain ⟨h1, rfl, rfl⟩ : [x, y, z] = [x', y', z'] ∧ max g (y.propR n).clock = g' ∧ y.propE n = e := by
          have k1 := congrArg Prod.fst hg
          have k2 := congrArg (fun t => t.2.1) hg
          have k3 := congrArg (fun t => t.2.2) hg
          exact ⟨k1, k2, k3⟩
        simp only [List.cons.injEq, and_true] at h1
        obtain ⟨rfl, rfl, rfl⟩ := h1
        refine BoolCase.yes (by simpa using h0) ?_
        conv => whnf
        repeat (first | (refine Conf.mk (by kernel_rfl) ?_; conv => whnf) | (refine SeqOk.go ?_; conv => whnf))
        subst hQ1
        conv => whnf
        exact .mk [] [0, 1, 2] _ [(0, .vars 43 3 [dInt x.clock, .dat (.list (x.waits.map Wt.enc)), .dat (.list (x.done.map encI)), dInt y.clock, .dat (.list (y.waits.map Wt.enc)), .dat (.list (y.done.map encI)), dInt z.clock, .dat (.list (z.waits.map Wt.enc)), .dat (.list (z.done.map encI))] true), (1, .vars 3 1 [dInt n] true), (2, .vars 3 1 [dInt (max g (y.propR n).clock)] true)] rfl (.same rfl) ⟨⟨rfl, rfl, rfl, .same rfl, rfl, .same rfl, rfl, .same rfl, rfl, .same rfl, rfl, .same rfl, rfl, .same rfl, rfl, .same rfl, rfl, .same rfl, rfl, .same rfl, rfl, trivial⟩, ⟨rfl, rfl, rfl, .same rfl, rfl, trivial⟩, ⟨rfl, rfl, rfl, .same rfl, rfl, trivial⟩, trivial⟩ rfl rfl ⟨rfl, rfl, rfl⟩
  · obtain rfl : m = 1 := by omega
    conv => whnf
    repeat (first | (refine Conf.mk (by kernel_rfl) ?_; conv => whnf) | (refine SeqOk.go ?_; conv => whnf))
    refine BoolCase.yes rfl ?_
    conv => whnf
    repeat (first | (refine Conf.mk (by kernel_rfl) ?_; conv => whnf) | (refine SeqOk.go ?_; conv => whnf))
    refine .mk 2 rfl (by simp) ?_
    conv => whnf
    repeat (first | (refine Conf.mk (by kernel_rfl) ?_; conv => whnf) | (refine SeqOk.go ?_; conv => whnf))
    refine .mk 2 rfl ?_
    conv => whnf
    repeat (first | (refine Conf.mk (by kernel_rfl) ?_; conv => whnf) | (refine SeqOk.go ?_; conv => whnf))
    have hbit := bit_am c hc 2 (by omega)
    cases hb : bitOf c 2
    · rw [hb] at hbit
      refine BoolCase.yes hbit ?_
      conv => whnf
      repeat (first | (refine Conf.mk (by kernel_rfl) ?_; conv => whnf) | (refine SeqOk.go ?_; conv => whnf))
      exact Into.mono (Into.to [0, 1, 2] [(13, dInt (2 + 1 : Nat)), (12, dInt 3), (11, .row 0), (0, .row 0), (1, dInt c), (2, .fn (.func 55) [] [.ptr 1 0, .ptr 2 0])] [(0, .vars 43 3 [dInt x.clock, .dat (.list (x.waits.map Wt.enc)), .dat (.list (x.done.map encI)), dInt y.clock, .dat (.list (y.waits.map Wt.enc)), .dat (.list (y.done.map encI)), dInt z.clock, .dat (.list (z.waits.map Wt.enc)), .dat (.list (z.done.map encI))] true), (1, .vars 3 1 [dInt n] true), (2, .vars 3 1 [dInt g] true)] (by repeat (first | exact trivial | refine ⟨.same (congrArg dInt (wrap_up (by omega))), ?_⟩ | refine ⟨.same rfl, ?_⟩ | refine ⟨.any _, ?_⟩)) ⟨⟨rfl, rfl, rfl, .same rfl, rfl, .same rfl, rfl, .same rfl, rfl, .same rfl, rfl, .same rfl, rfl, .same rfl, rfl, .same rfl, rfl, .same rfl, rfl, .same rfl, rfl, trivial⟩, ⟨rfl, rfl, rfl, .same rfl, rfl, trivial⟩, ⟨rfl, rfl, rfl, .same rfl, rfl, trivial⟩, trivial⟩ rfl rfl) fun s' h => ⟨0, by omega, 3, x, y, z, g, rfl, kx, ky, kz, by rw [← hg]; exact (eachGo_skip' (s := z) (ss := [x, y, z]) (k := 2) (m := 0) rfl hb).symm, h⟩
    · rw [hb] at hbit
      refine BoolCase.no hbit ?_
      conv => whnf
      repeat (first | (refine Conf.mk (by kernel_rfl) ?_; conv => whnf) | (refine SeqOk.go ?_; conv => whnf))
      refine .eff [1, 2] _ _ _ _ 0 (all1_ok z n g kz) rfl rfl rfl rfl rfl ?_
      conv => whnf
      repeat (first | (refine Conf.mk (by kernel_rfl) ?_; conv => whnf) | (refine SeqOk.go ?_; conv => whnf))
      try simp only
      by_cases h0 : z.propE n = 0
      · refine BoolCase.no (by simp [h0]) ?_
        conv => whnf
        repeat (first | (refine Conf.mk (by kernel_rfl) ?_; conv => whnf) | (refine SeqOk.go ?_; conv => whnf))
        refine .mk 2 rfl (by simp) ?_
        conv => whnf
        repeat (first | (refine Conf.mk (by kernel_rfl) ?_; conv => whnf) | (refine SeqOk.go ?_; conv => whnf))
        simp only
        exact Into.mono (Into.to [0, 1, 2] [(13, dInt (2 + 1 : Nat)), (12, dInt 3), (11, .row 0), (0, .row 0), (1, dInt c), (2, .fn (.func 55) [] [.ptr 1 0, .ptr 2 0])] [(0, .vars 43 3 [dInt x.clock, .dat (.list (x.waits.map Wt.enc)), .dat (.list (x.done.map encI)), dInt y.clock, .dat (.list (y.waits.map Wt.enc)), .dat (.list (y.done.map encI)), dInt (z.propR n).clock, .dat (.list ((z.propR n).waits.map Wt.enc)), .dat (.list ((z.propR n).done.map encI))] true), (1, .vars 3 1 [dInt n] true), (2, .vars 3 1 [dInt (max g (z.propR n).clock)] true)] (by repeat (first | exact trivial | refine ⟨.same (congrArg dInt (wrap_up (by omega))), ?_⟩ | refine ⟨.same rfl, ?_⟩ | refine ⟨.any _, ?_⟩)) ⟨⟨rfl, rfl, rfl, .same rfl, rfl, .same rfl, rfl, .same rfl, rfl, .same rfl, rfl, .same rfl, rfl, .same rfl, rfl, .same rfl, rfl, .same rfl, rfl, .same rfl, rfl, trivial⟩, ⟨rfl, rfl, rfl, .same rfl, rfl, trivial⟩, ⟨rfl, rfl, rfl, .same rfl, rfl, trivial⟩, trivial⟩ rfl rfl) fun s' h => ⟨0, by omega, 3, x, y, (z.propR n), (max g (z.propR n).clock), rfl, kx, ky, propR_ok kz n, by rw [← hg]; exact (eachGo_go' (f := fP n) (g := g) (s := z) (ss := [x, y, z]) (k := 2) (m := 0) rfl hb h0).symm, h⟩
      · rw [eachGo_err' (f := fP n) (g := g) (s := z) (ss := [x, y, z]) (k := 2) (m := 0) rfl hb h0] at hg
        obtain ⟨h1, rfl, rfl⟩ : [x, y, z] = [x', y', z'] ∧ max g (z.propR n).clock = g' ∧ z.propE n = e := by
          have k1 := congrArg Prod.fst hg
          have k2 := congrArg (fun t => t.2.1) hg
          have k3 := congrArg (fun t => t.2.2) hg
          exact ⟨k1, k2, k3⟩
        simp only [List.cons.injEq, and_true] at h1
        obtain ⟨rfl, rfl, rfl⟩ := h1
        refine BoolCase.yes (by simpa using h0) ?_
        conv => whnf
        repeat (first | (refine Conf.mk (by kernel_rfl) ?_; conv => whnf) | (refine SeqOk.go ?_; conv => whnf))
        subst hQ1
        conv => whnf
        exact .mk [] [0, 1, 2] _ [(0, .vars 43 3 [dInt x.clock, .dat (.list (x.waits.map Wt.enc)), .dat (.list (x.done.map encI)), dInt y.clock, .dat (.list (y.waits.map Wt.enc)), .dat (.list (y.done.map encI)), dInt z.clock, .dat (.list (z.waits.map Wt.enc)), .dat (.list (z.done.map encI))] true), (1, .vars 3 1 [dInt n] true), (2, .vars 3 1 [dInt (max g (z.propR n).clock)] true)] rfl (.same rfl) ⟨⟨rfl, rfl, rfl, .same rfl, rfl, .same rfl, rfl, .same rfl, rfl, .same rfl, rfl, .same rfl, rfl, .same rfl, rfl, .same rfl, rfl, .same rfl, rfl, .same rfl, rfl, trivial⟩, ⟨rfl, rfl, rfl, .same rfl, rfl, trivial⟩, ⟨rfl, rfl, rfl, .same rfl, rfl, trivial⟩, trivial⟩ rfl rfl ⟨rfl, rfl, rfl⟩
  · obtain rfl : m = 0 := by omega
    rw [eachGo_done] at hg
    obtain ⟨h1, rfl, rfl⟩ : [x, y, z] = [x', y', z'] ∧ g = g' ∧ 0 = e := by
      have k1 := congrArg Prod.fst hg
      have k2 := congrArg (fun t => t.2.1) hg
      have k3 := congrArg (fun t => t.2.2) hg
      exact ⟨k1, k2, k3⟩
    simp only [List.cons.injEq, and_true] at h1
    obtain ⟨rfl, rfl, rfl⟩ := h1
    conv => whnf
    repeat (first | (refine Conf.mk (by kernel_rfl) ?_; conv => whnf) | (refine SeqOk.go ?_; conv => whnf))
    refine BoolCase.no rfl ?_
    conv => whnf
    repeat (first | (refine Conf.mk (by kernel_rfl) ?_; conv => whnf) | (refine SeqOk.go ?_; conv => whnf))
    subst hQ1
    conv => whnf
    exact .mk [] [0, 1, 2] _ [(0, .vars 43 3 [dInt x.clock, .dat (.list (x.waits.map Wt.enc)), .dat (.list (x.done.map encI)), dInt y.clock, .dat (.list (y.waits.map Wt.enc)), .dat (.list (y.done.map encI)), dInt z.clock, .dat (.list (z.waits.map Wt.enc)), .dat (.list (z.done.map encI))] true), (1, .vars 3 1 [dInt n] true), (2, .vars 3 1 [dInt g] true)] rfl (.same rfl) ⟨⟨rfl, rfl, rfl, .same rfl, rfl, .same rfl, rfl, .same rfl, rfl, .same rfl, rfl, .same rfl, rfl, .same rfl, rfl, .same rfl, rfl, .same rfl, rfl, .same rfl, rfl, trivial⟩, ⟨rfl, rfl, rfl, .same rfl, rfl, trivial⟩, ⟨rfl, rfl, rfl, .same rfl, rfl, trivial⟩, trivial⟩ rfl rfl ⟨rfl, rfl, rfl⟩
set_option maxHeartbeats 0 in
theorem each2_ok (x0 y0 z0 : Sv) (n g0 c : Int) (hc : 1 ≤ c ∧ c ≤ 7) (ox : SvOk x0) (oy : SvOk y0) (oz : SvOk z0) (x' y' z' : Sv) (g' e : Int) (hr : eachGo (fC n) c 3 0 [x0, y0, z0] g0 = ([x', y', z'], g', e)) :
    ECall Try.prog 54 [.row 0, dInt c, .fn (.func 56) [] [.ptr 1 0, .ptr 2 0]] [(0, .vars 43 3 [dInt x0.clock, .dat (.list (x0.waits.map Wt.enc)), .dat (.list (x0.done.map encI)), dInt y0.clock, .dat (.list (y0.waits.map Wt.enc)), .dat (.list (y0.done.map encI)), dInt z0.clock, .dat (.list (z0.waits.map Wt.enc)), .dat (.list (z0.done.map encI))] true), (1, .vars 3 1 [dInt n] true), (2, .vars 3 1 [dInt g0] true)] 3 (dInt e) [(0, .vars 43 3 [dInt x'.clock, .dat (.list (x'.waits.map Wt.enc)), .dat (.list (x'.done.map encI)), dInt y'.clock, .dat (.list (y'.waits.map Wt.enc)), .dat (.list (y'.done.map encI)), dInt z'.clock, .dat (.list (z'.waits.map Wt.enc)), .dat (.list (z'.done.map encI))] true), (1, .vars 3 1 [dInt n] true), (2, .vars 3 1 [dInt g'] true)] 0 := by
  refine acall_cut tab_all tab_mixed Try.func54 (by kernel_rfl) Try.ntmps54 rfl ?_
  conv => whnf
  conv => whnf
  repeat (first | (refine Conf.mk (by kernel_rfl) ?_; conv => whnf) | (refine SeqOk.go ?_; conv => whnf))
  refine LoopOk.hide fun Q1 hQ1 => ?_
  refine LoopOk.mk (fun m s => ∃ (i : Nat) (x y z : Sv) (g : Int), i + m = 3 ∧ SvOk x ∧ SvOk y ∧ SvOk z ∧ eachGo (fC n) c m i [x, y, z] g = ([x', y', z'], g', e) ∧ s = ⟨(13, dInt i) :: [(12, dInt 3), (11, .row 0), (0, .row 0), (1, dInt c), (2, .fn (.func 56) [] [.ptr 1 0, .ptr 2 0])], 3, [(0, .vars 43 3 [dInt x.clock, .dat (.list (x.waits.map Wt.enc)), .dat (.list (x.done.map encI)), dInt y.clock, .dat (.list (y.waits.map Wt.enc)), .dat (.list (y.done.map encI)), dInt z.clock, .dat (.list (z.waits.map Wt.enc)), .dat (.list (z.done.map encI))] true), (1, .vars 3 1 [dInt n] true), (2, .vars 3 1 [dInt g] true)]⟩) 3 (Into.mono (Into.to [0, 1, 2] [(13, dInt (0 : Nat)), (12, dInt 3), (11, .row 0), (0, .row 0), (1, dInt c), (2, .fn (.func 56) [] [.ptr 1 0, .ptr 2 0])] [(0, .vars 43 3 [dInt x0.clock, .dat (.list (x0.waits.map Wt.enc)), .dat (.list (x0.done.map encI)), dInt y0.clock, .dat (.list (y0.waits.map Wt.enc)), .dat (.list (y0.done.map encI)), dInt z0.clock, .dat (.list (z0.waits.map Wt.enc)), .dat (.list (z0.done.map encI))] true), (1, .vars 3 1 [dInt n] true), (2, .vars 3 1 [dInt g0] true)] ⟨.same rfl, .same (by kernel_rfl), .same rfl, .same rfl, .same rfl, .same rfl, trivial⟩ ⟨⟨rfl, rfl, rfl, .same rfl, rfl, .same rfl, rfl, .same rfl, rfl, .same rfl, rfl, .same rfl, rfl, .same rfl, rfl, .same rfl, rfl, .same rfl, rfl, .same rfl, rfl, trivial⟩, ⟨rfl, rfl, rfl, .same rfl, rfl, trivial⟩, ⟨rfl, rfl, rfl, .same rfl, rfl, trivial⟩, trivial⟩ rfl rfl) fun s' h => ⟨0, x0, y0, z0, g0, rfl, ox, oy, oz, hr, h⟩) ?_
  rintro m s ⟨i, x, y, z, g, him, kx, ky, kz, hg, rfl⟩
  have hi : i = 0 ∨ i = 1 ∨ i = 2 ∨ i = 3 := by omega
  rcases hi with rfl | rfl | rfl | rfl
  · obtain rfl : m = 3 := by omega
    conv => whnf
    repeat (first | (refine Conf.mk (by kernel_rfl) ?_; conv => whnf) | (refine SeqOk.go ?_; conv => whnf))
    refine BoolCase.yes rfl ?_
    conv => whnf
    repeat (first | (refine Conf.mk (by kernel_rfl) ?_; conv => whnf) | (refine SeqOk.go ?_; conv => whnf))
    refine .mk 0 rfl (by simp) ?_
    conv => whnf
    repeat (first | (refine Conf.mk (by kernel_rfl) ?_; conv => whnf) | (refine SeqOk.go ?_; conv => whnf))
    refine .mk 0 rfl ?_
    conv => whnf
    repeat (first | (refine Conf.mk (by kernel_rfl) ?_; conv => whnf) | (refine SeqOk.go ?_; conv => whnf))
    have hbit := bit_am c hc 0 (by omega)
    cases hb : bitOf c 0
    · rw [hb] at hbit
      refine BoolCase.yes hbit ?_
      conv => whnf
      repeat (first | (refine Conf.mk (by kernel_rfl) ?_; conv => whnf) | (refine SeqOk.go ?_; conv => whnf))
      exact Into.mono (Into.to [0, 1, 2] [(13, dInt (0 + 1 : Nat)), (12, dInt 3), (11, .row 0), (0, .row 0), (1, dInt c), (2, .fn (.func 56) [] [.ptr 1 0, .ptr 2 0])] [(0, .vars 43 3 [dInt x.clock, .dat (.list (x.waits.map Wt.enc)), .dat (.list (x.done.map encI)), dInt y.clock, .dat (.list (y.waits.map Wt.enc)), .dat (.list (y.done.map encI)), dInt z.clock, .dat (.list (z.waits.map Wt.enc)), .dat (.list (z.done.map encI))] true), (1, .vars 3 1 [dInt n] true), (2, .vars 3 1 [dInt g] true)] (by repeat (first | exact trivial | refine ⟨.same (congrArg dInt (wrap_up (by omega))), ?_⟩ | refine ⟨.same rfl, ?_⟩ | refine ⟨.any _, ?_⟩)) ⟨⟨rfl, rfl, rfl, .same rfl, rfl, .same rfl, rfl, .same rfl, rfl, .same rfl, rfl, .same rfl, rfl, .same rfl, rfl, .same rfl, rfl, .same rfl, rfl, .same rfl, rfl, trivial⟩, ⟨rfl, rfl, rfl, .same rfl, rfl, trivial⟩, ⟨rfl, rfl, rfl, .same rfl, rfl, trivial⟩, trivial⟩ rfl rfl) fun s' h => ⟨2, by omega, 1, x, y, z, g, rfl, kx, ky, kz, by rw [← hg]; exact (eachGo_skip' (s := x) (ss := [x, y, z]) (k := 0) (m := 2) rfl hb).symm, h⟩
    · rw [hb] at hbit
      refine BoolCase.no hbit ?_
      conv => whnf
      repeat (first | (refine Conf.mk (by kernel_rfl) ?_; conv => whnf) | (refine SeqOk.go ?_; conv => whnf))
      refine .eff [1, 2] _ _ _ _ 0 (all2e_ok x n g kx) rfl rfl rfl rfl rfl ?_
      conv => whnf
      repeat (first | (refine Conf.mk (by kernel_rfl) ?_; conv => whnf) | (refine SeqOk.go ?_; conv => whnf))
      try simp only
      by_cases h0 : x.commE n g = 0
      · refine BoolCase.no (by simp [h0]) ?_
        conv => whnf
        repeat (first | (refine Conf.mk (by kernel_rfl) ?_; conv => whnf) | (refine SeqOk.go ?_; conv => whnf))
        refine .mk 0 rfl (by simp) ?_
        conv => whnf
        repeat (first | (refine Conf.mk (by kernel_rfl) ?_; conv => whnf) | (refine SeqOk.go ?_; conv => whnf))
        simp only
        exact Into.mono (Into.to [0, 1, 2] [(13, dInt (0 + 1 : Nat)), (12, dInt 3), (11, .row 0), (0, .row 0), (1, dInt c), (2, .fn (.func 56) [] [.ptr 1 0, .ptr 2 0])] [(0, .vars 43 3 [dInt (x.commR n g).clock, .dat (.list ((x.commR n g).waits.map Wt.enc)), .dat (.list ((x.commR n g).done.map encI)), dInt y.clock, .dat (.list (y.waits.map Wt.enc)), .dat (.list (y.done.map encI)), dInt z.clock, .dat (.list (z.waits.map Wt.enc)), .dat (.list (z.done.map encI))] true), (1, .vars 3 1 [dInt n] true), (2, .vars 3 1 [dInt g] true)] (by repeat (first | exact trivial | refine ⟨.same (congrArg dInt (wrap_up (by omega))), ?_⟩ | refine ⟨.same rfl, ?_⟩ | refine ⟨.any _, ?_⟩)) ⟨⟨rfl, rfl, rfl, .same rfl, rfl, .same rfl, rfl, .same rfl, rfl, .same rfl, rfl, .same rfl, rfl, .same rfl, rfl, .same rfl, rfl, .same rfl, rfl, .same rfl, rfl, trivial⟩, ⟨rfl, rfl, rfl, .same rfl, rfl, trivial⟩, ⟨rfl, rfl, rfl, .same rfl, rfl, trivial⟩, trivial⟩ rfl rfl) fun s' h => ⟨2, by omega, 1, (x.commR n g), y, z, g, rfl, commR_ok kx n g, ky, kz, by rw [← hg]; exact (eachGo_go' (f := fC n) (g := g) (s := x) (ss := [x, y, z]) (k := 0) (m := 2) rfl hb h0).symm, h⟩
      · rw [eachGo_err' (f := fC n) (g := g) (s := x) (ss := [x, y, z]) (k := 0) (m := 2) rfl hb h0] at hg
        obtain ⟨h1, rfl, rfl⟩ : [x, y, z] = [x', y', z'] ∧ g = g' ∧ x.commE n g = e := by
          have k1 := congrArg Prod.fst hg
          have k2 := congrArg (fun t => t.2.1) hg
          have k3 := congrArg (fun t => t.2.2) hg
          exact ⟨k1, k2, k3⟩
        simp only [List.cons.injEq, and_true] at h1
        obtain ⟨rfl, rfl, rfl⟩ := h1
        refine BoolCase.yes (by simpa using h0) ?_
        conv => whnf
        repeat (first | (refine Conf.mk (by kernel_rfl) ?_; conv => whnf) | (refine SeqOk.go ?_; conv => whnf))
        subst hQ1
        conv => whnf
        exact .mk [] [0, 1, 2] _ [(0, .vars 43 3 [dInt x.clock, .dat (.list (x.waits.map Wt.enc)), .dat (.list (x.done.map encI)), dInt y.clock, .dat (.list (y.waits.map Wt.enc)), .dat (.list (y.done.map encI)), dInt z.clock, .dat (.list (z.waits.map Wt.enc)), .dat (.list (z.done.map encI))] true), (1, .vars 3 1 [dInt n] true), (2, .vars 3 1 [dInt g] true)] rfl (.same rfl) ⟨⟨rfl, rfl, rfl, .same rfl, rfl, .same rfl, rfl, .same rfl, rfl, .same rfl, rfl, .same rfl, rfl, .same rfl, rfl, .same rfl, rfl, .same rfl, rfl, .same rfl, rfl, trivial⟩, ⟨rfl, rfl, rfl, .same rfl, rfl, trivial⟩, ⟨rfl, rfl, rfl, .same rfl, rfl, trivial⟩, trivial⟩ rfl rfl ⟨rfl, rfl, rfl⟩
  · obtain rfl : m = 2 := by omega
    conv => whnf
    repeat (first | (refine Conf.mk (by kernel_rfl) ?_; conv => whnf) | (refine SeqOk.go ?_; conv => whnf))
    refine BoolCase.yes rfl ?_
    conv => whnf
    repeat (first | (refine Conf.mk (by kernel_rfl) ?_; conv => whnf) | (refine SeqOk.go ?_; conv => whnf))
    refine .mk 1 rfl (by simp) ?_
    conv => whnf
    repeat (first | (refine Conf.mk (by kernel_rfl) ?_; conv => whnf) | (refine SeqOk.go ?_; conv => whnf))
    refine .mk 1 rfl ?_
    conv => whnf
    repeat (first | (refine Conf.mk (by kernel_rfl) ?_; conv => whnf) | (refine SeqOk.go ?_; conv => whnf))
    have hbit := bit_am c hc 1 (by omega)
    cases hb : bitOf c 1
    · rw [hb] at hbit
      refine BoolCase.yes hbit ?_
      conv => whnf
      repeat (first | (refine Conf.mk (by kernel_rfl) ?_; conv => whnf) | (refine SeqOk.go ?_; conv => whnf))
      exact Into.mono (Into.to [0, 1, 2] [(13, dInt (1 + 1 : Nat)), (12, dInt 3), (11, .row 0), (0, .row 0), (1, dInt c), (2, .fn (.func 56) [] [.ptr 1 0, .ptr 2 0])] [(0, .vars 43 3 [dInt x.clock, .dat (.list (x.waits.map Wt.enc)), .dat (.list (x.done.map encI)), dInt y.clock, .dat (.list (y.waits.map Wt.enc)), .dat (.list (y.done.map encI)), dInt z.clock, .dat (.list (z.waits.map Wt.enc)), .dat (.list (z.done.map encI))] true), (1, .vars 3 1 [dInt n] true), (2, .vars 3 1 [dInt g] true)] (by repeat (first | exact trivial | refine ⟨.same (congrArg dInt (wrap_up (by omega))), ?_⟩ | refine ⟨.same rfl, ?_⟩ | refine ⟨.any _, ?_⟩)) ⟨⟨rfl, rfl, rfl, .same rfl, rfl, .same rfl, rfl, .same rfl, rfl, .same rfl, rfl, .same rfl, rfl, .same rfl, rfl, .same rfl, rfl, .same rfl, rfl, .same rfl, rfl, trivial⟩, ⟨rfl, rfl, rfl, .same rfl, rfl, trivial⟩, ⟨rfl, rfl, rfl, .same rfl, rfl, trivial⟩, trivial⟩ rfl rfl) fun s' h => ⟨1, by omega, 2, x, y, z, g, rfl, kx, ky, kz, by rw [← hg]; exact (eachGo_skip' (s := y) (ss := [x, y, z]) (k := 1) (m := 1) rfl hb).symm, h⟩
    · rw [hb] at hbit
      refine BoolCase.no hbit ?_
      conv => whnf
      repeat (first | (refine Conf.mk (by kernel_rfl) ?_; conv => whnf) | (refine SeqOk.go ?_; conv => whnf))
      refine .eff [1, 2] _ _ _ _ 0 (all2e_ok y n g ky) rfl rfl rfl rfl rfl ?_
      conv => whnf
      repeat (first | (refine Conf.mk (by kernel_rfl) ?_; conv => whnf) | (refine SeqOk.go ?_; conv => whnf))
      try simp only
      by_cases h0 : y.commE n g = 0
      · refine BoolCase.no (by simp [h0]) ?_
        conv => whnf
        repeat (first | (refine Conf.mk (by kernel_rfl) ?_; conv => whnf) | (refine SeqOk.go ?_; conv => whnf))
        refine .mk 1 rfl (by simp) ?_
        conv => whnf
        repeat (first | (refine Conf.mk (by kernel_rfl) ?_; conv => whnf) | (refine SeqOk.go ?_; conv => whnf))
        simp only
        exact Into.mono (Into.to [0, 1, 2] [(13, dInt (1 + 1 : Nat)), (12, dInt 3), (11, .row 0), (0, .row 0), (1, dInt c), (2, .fn (.func 56) [] [.ptr 1 0, .ptr 2 0])] [(0, .vars 43 3 [dInt x.clock, .dat (.list (x.waits.map Wt.enc)), .dat (.list (x.done.map encI)), dInt (y.commR n g).clock, .dat (.list ((y.commR n g).waits.map Wt.enc)), .dat (.list ((y.commR n g).done.map encI)), dInt z.clock, .dat (.list (z.waits.map Wt.enc)), .dat (.list (z.done.map encI))] true), (1, .vars 3 1 [dInt n] true), (2, .vars 3 1 [dInt g] true)] (by repeat (first | exact trivial | refine ⟨.same (congrArg dInt (wrap_up (by omega))), ?_⟩ | refine ⟨.same rfl, ?_⟩ | refine ⟨.any _, ?_⟩)) ⟨⟨rfl, rfl, rfl, .same rfl, rfl, .same rfl, rfl, .same rfl, rfl, .same rfl, rfl, .same rfl, rfl, .same rfl, rfl, .same rfl, rfl, .same rfl, rfl, .same rfl, rfl, trivial⟩, ⟨rfl, rfl, rfl, .same rfl, rfl, trivial⟩, ⟨rfl, rfl, rfl, .same rfl, rfl, trivial⟩, trivial⟩ rfl rfl) fun s' h => ⟨1, by omega, 2, x, (y.commR n g), z, g, rfl, kx, commR_ok ky n g, kz, by rw [← hg]; exact (eachGo_go' (f := fC n) (g := g) (s := y) (ss := [x, y, z]) (k := 1) (m := 1) rfl hb h0).symm, h⟩
      · rw [eachGo_err' (f := fC n) (g := g) (s := y) (ss := [x, y, z]) (k := 1) (m := 1) rfl hb h0] at hg
        obtain ⟨h1, rfl, rfl⟩ : [x, y, z] = [x', y', z'] ∧ g = g' ∧ y.commE n g = e := by
          have k1 := congrArg Prod.fst hg
          have k2 := congrArg (fun t => t.2.1) hg
          have k3 := congrArg (fun t => t.2.2) hg
          exact ⟨k1, k2, k3⟩
        simp only [List.cons.injEq, and_true] at h1
        obtain ⟨rfl, rfl, rfl⟩ := h1
        refine BoolCase.yes (by simpa using h0) ?_
        conv => whnf
        repeat (first | (refine Conf.mk (by kernel_rfl) ?_; conv => whnf) | (refine SeqOk.go ?_; conv => whnf))
        subst hQ1
        conv => whnf
        exact .mk [] [0, 1, 2] _ [(0, .vars 43 3 [dInt x.clock, .dat (.list (x.waits.map Wt.enc)), .dat (.list (x.done.map encI)), dInt y.clock, .dat (.list (y.waits.map Wt.enc)), .dat (.list (y.done.map encI)), dInt z.clock, .dat (.list (z.waits.map Wt.enc)), .dat (.list (z.done.map encI))] true), (1, .vars 3 1 [dInt n] true), (2, .vars 3 1 [dInt g] true)] rfl (.same rfl) ⟨⟨rfl, rfl, rfl, .same rfl, rfl, .same rfl, rfl, .same rfl, rfl, .same rfl, rfl, .same rfl, rfl, .same rfl, rfl, .same rfl, rfl, .same rfl, rfl, .same rfl, rfl, trivial⟩, ⟨rfl, rfl, rfl, .same rfl, rfl, trivial⟩, ⟨rfl, rfl, rfl, .same rfl, rfl, trivial⟩, trivial⟩ rfl rfl ⟨rfl, rfl, rfl⟩
  · obtain rfl : m = 1 := by omega
    conv => whnf
    repeat (first | (refine Conf.mk (by kernel_rfl) ?_; conv => whnf) | (refine SeqOk.go ?_; conv => whnf))
    refine BoolCase.yes rfl ?_
    conv => whnf
    repeat (first | (refine Conf.mk (by kernel_rfl) ?_; conv => whnf) | (refine SeqOk.go ?_; conv => whnf))
    refine .mk 2 rfl (by simp) ?_
    conv => whnf
    repeat (first | (refine Conf.mk (by kernel_rfl) ?_; conv => whnf) | (refine SeqOk.go ?_; conv => whnf))
    refine .mk 2 rfl ?_
    conv => whnf
    repeat (first | (refine Conf.mk (by kernel_rfl) ?_; conv => whnf) | (refine SeqOk.go ?_; conv => whnf))
    have hbit := bit_am c hc 2 (by omega)
    cases hb : bitOf c 2
    · rw [hb] at hbit
      refine BoolCase.yes hbit ?_
      conv => whnf
      repeat (first | (refine Conf.mk (by kernel_rfl) ?_; conv => whnf) | (refine SeqOk.go ?_; conv => whnf))
      exact Into.mono (Into.to [0, 1, 2] [(13, dInt (2 + 1 : Nat)), (12, dInt 3), (11, .row 0), (0, .row 0), (1, dInt c), (2, .fn (.func 56) [] [.ptr 1 0, .ptr 2 0])] [(0, .vars 43 3 [dInt x.clock, .dat (.list (x.waits.map Wt.enc)), .dat (.list (x.done.map encI)), dInt y.clock, .dat (.list (y.waits.map Wt.enc)), .dat (.list (y.done.map encI)), dInt z.clock, .dat (.list (z.waits.map Wt.enc)), .dat (.list (z.done.map encI))] true), (1, .vars 3 1 [dInt n] true), (2, .vars 3 1 [dInt g] true)] (by repeat (first | exact trivial | refine ⟨.same (congrArg dInt (wrap_up (by omega))), ?_⟩ | refine ⟨.same rfl, ?_⟩ | refine ⟨.any _, ?_⟩)) ⟨⟨rfl, rfl, rfl, .same rfl, rfl, .same rfl, rfl, .same rfl, rfl, .same rfl, rfl, .same rfl, rfl, .same rfl, rfl, .same rfl, rfl, .same rfl, rfl, .same rfl, rfl, trivial⟩, ⟨rfl, rfl, rfl, .same rfl, rfl, trivial⟩, ⟨rfl, rfl, rfl, .same rfl, rfl, trivial⟩, trivial⟩ rfl rfl) fun s' h => ⟨0, by omega, 3, x, y, z, g, rfl, kx, ky, kz, by rw [← hg]; exact (eachGo_skip' (s := z) (ss := [x, y, z]) (k := 2) (m := 0) rfl hb).symm, h⟩
    · rw [hb] at hbit
      refine BoolCase.no hbit ?_
      conv => whnf
      repeat (first | (refine Conf.mk (by kernel_rfl) ?_; conv => whnf) | (refine SeqOk.go ?_; conv => whnf))
      refine .eff [1, 2] _ _ _ _ 0 (all2e_ok z n g kz) rfl rfl rfl rfl rfl ?_
      conv => whnf
      repeat (first | (refine Conf.mk (by kernel_rfl) ?_; conv => whnf) | (refine SeqOk.go ?_; conv => whnf))
      try simp only
      by_cases h0 : z.commE n g = 0
      · refine BoolCase.no (by simp [h0]) ?_
        conv => whnf
        repeat (first | (refine Conf.mk (by kernel_rfl) ?_; conv => whnf) | (refine SeqOk.go ?_; conv => whnf))
        refine .mk 2 rfl (by simp) ?_
        conv => whnf
        repeat (first | (refine Conf.mk (by kernel_rfl) ?_; conv => whnf) | (refine SeqOk.go ?_; conv => whnf))
        simp only
        exact Into.mono (Into.to [0, 1, 2] [(13, dInt (2 + 1 : Nat)), (12, dInt 3), (11, .row 0), (0, .row 0), (1, dInt c), (2, .fn (.func 56) [] [.ptr 1 0, .ptr 2 0])] [(0, .vars 43 3 [dInt x.clock, .dat (.list (x.waits.map Wt.enc)), .dat (.list (x.done.map encI)), dInt y.clock, .dat (.list (y.waits.map Wt.enc)), .dat (.list (y.done.map encI)), dInt (z.commR n g).clock, .dat (.list ((z.commR n g).waits.map Wt.enc)), .dat (.list ((z.commR n g).done.map encI))] true), (1, .vars 3 1 [dInt n] true), (2, .vars 3 1 [dInt g] true)] (by repeat (first | exact trivial | refine ⟨.same (congrArg dInt (wrap_up (by omega))), ?_⟩ | refine ⟨.same rfl, ?_⟩ | refine ⟨.any _, ?_⟩)) ⟨⟨rfl, rfl, rfl, .same rfl, rfl, .same rfl, rfl, .same rfl, rfl, .same rfl, rfl, .same rfl, rfl, .same rfl, rfl, .same rfl, rfl, .same rfl, rfl, .same rfl, rfl, trivial⟩, ⟨rfl, rfl, rfl, .same rfl, rfl, trivial⟩, ⟨rfl, rfl, rfl, .same rfl, rfl, trivial⟩, trivial⟩ rfl rfl) fun s' h => ⟨0, by omega, 3, x, y, (z.commR n g), g, rfl, kx, ky, commR_ok kz n g, by rw [← hg]; exact (eachGo_go' (f := fC n) (g := g) (s := z) (ss := [x, y, z]) (k := 2) (m := 0) rfl hb h0).symm, h⟩
      · rw [eachGo_err' (f := fC n) (g := g) (s := z) (ss := [x, y, z]) (k := 2) (m := 0) rfl hb h0] at hg
        obtain ⟨h1, rfl, rfl⟩ : [x, y, z] = [x', y', z'] ∧ g = g' ∧ z.commE n g = e := by
          have k1 := congrArg Prod.fst hg
          have k2 := congrArg (fun t => t.2.1) hg
          have k3 := congrArg (fun t => t.2.2) hg
          exact ⟨k1, k2, k3⟩
        simp only [List.cons.injEq, and_true] at h1
        obtain ⟨rfl, rfl, rfl⟩ := h1
        refine BoolCase.yes (by simpa using h0) ?_
        conv => whnf
        repeat (first | (refine Conf.mk (by kernel_rfl) ?_; conv => whnf) | (refine SeqOk.go ?_; conv => whnf))
        subst hQ1
        conv => whnf
        exact .mk [] [0, 1, 2] _ [(0, .vars 43 3 [dInt x.clock, .dat (.list (x.waits.map Wt.enc)), .dat (.list (x.done.map encI)), dInt y.clock, .dat (.list (y.waits.map Wt.enc)), .dat (.list (y.done.map encI)), dInt z.clock, .dat (.list (z.waits.map Wt.enc)), .dat (.list (z.done.map encI))] true), (1, .vars 3 1 [dInt n] true), (2, .vars 3 1 [dInt g] true)] rfl (.same rfl) ⟨⟨rfl, rfl, rfl, .same rfl, rfl, .same rfl, rfl, .same rfl, rfl, .same rfl, rfl, .same rfl, rfl, .same rfl, rfl, .same rfl, rfl, .same rfl, rfl, .same rfl, rfl, trivial⟩, ⟨rfl, rfl, rfl, .same rfl, rfl, trivial⟩, ⟨rfl, rfl, rfl, .same rfl, rfl, trivial⟩, trivial⟩ rfl rfl ⟨rfl, rfl, rfl⟩
  · obtain rfl : m = 0 := by omega
    rw [eachGo_done] at hg
    obtain ⟨h1, rfl, rfl⟩ : [x, y, z] = [x', y', z'] ∧ g = g' ∧ 0 = e := by
      have k1 := congrArg Prod.fst hg
      have k2 := congrArg (fun t => t.2.1) hg
      have k3 := congrArg (fun t => t.2.2) hg
      exact ⟨k1, k2, k3⟩
    simp only [List.cons.injEq, and_true] at h1
    obtain ⟨rfl, rfl, rfl⟩ := h1
    conv => whnf
    repeat (first | (refine Conf.mk (by kernel_rfl) ?_; conv => whnf) | (refine SeqOk.go ?_; conv => whnf))
    refine BoolCase.no rfl ?_
    conv => whnf
    repeat (first | (refine Conf.mk (by kernel_rfl) ?_; conv => whnf) | (refine SeqOk.go ?_; conv => whnf))
    subst hQ1
    conv => whnf
    exact .mk [] [0, 1, 2] _ [(0, .vars 43 3 [dInt x.clock, .dat (.list (x.waits.map Wt.enc)), .dat (.list (x.done.map encI)), dInt y.clock, .dat (.list (y.waits.map Wt.enc)), .dat (.list (y.done.map encI)), dInt z.clock, .dat (.list (z.waits.map Wt.enc)), .dat (.list (z.done.map encI))] true), (1, .vars 3 1 [dInt n] true), (2, .vars 3 1 [dInt g] true)] rfl (.same rfl) ⟨⟨rfl, rfl, rfl, .same rfl, rfl, .same rfl, rfl, .same rfl, rfl, .same rfl, rfl, .same rfl, rfl, .same rfl, rfl, .same rfl, rfl, .same rfl, rfl, .same rfl, rfl, trivial⟩, ⟨rfl, rfl, rfl, .same rfl, rfl, trivial⟩, ⟨rfl, rfl, rfl, .same rfl, rfl, trivial⟩, trivial⟩ rfl rfl ⟨rfl, rfl, rfl⟩
end Go.Proofs.Ytlioojekjnigiab.AM.Sk
/- Servers: All. -/
namespace Go.Proofs.Ytlioojekjnigiab.AM.Sk
set_option linter.unusedVariables false
set_option linter.unusedSimpArgs false

theorem eachGo_len (f : Sv → Int → Sv × Int × Int) (c : Int) : ∀ (m k : Nat) (ss : List Sv) (g : Int), (eachGo f c m k ss g).1.length = ss.length
  | 0, k, ss, g => rfl
  | m + 1, k, ss, g => by
    rw [eachGo]
    split
    · rfl
    · split
      · split
        · rw [eachGo_len f c m]; simp
        · rfl
      · exact eachGo_len f c m _ _ _
theorem three {α : Type} {l : List α} (h : l.length = 3) : ∃ x y z, l = [x, y, z] := by
  match l, h with
  | [x, y, z], _ => exact ⟨x, y, z, rfl⟩
theorem eachGo_ok {f : Sv → Int → Sv × Int × Int} (hf : ∀ s g, SvOk s → SvOk (f s g).1) (c : Int) : ∀ (m k : Nat) (ss : List Sv) (g : Int), (∀ s ∈ ss, SvOk s) → ∀ s ∈ (eachGo f c m k ss g).1, SvOk s
  | 0, k, ss, g, h => h
  | m + 1, k, ss, g, h => by
    rw [eachGo]
    split
    · exact h
    · rename_i s hs
      split
      · split
        · exact eachGo_ok hf c m _ _ _ (set_all h (hf s g (h s (List.mem_of_getElem? hs))))
        · exact h
      · exact eachGo_ok hf c m _ _ _ h
theorem allR_len (ss : List Sv) (n c : Int) : (allR ss n c).length ≤ 3 := by
  unfold allR
  split
  · rename_i h
    have h1 : allErr ss c = 0 := by
      unfold allE at h
      split at h
      · rename_i k; exact absurd h k
      · rename_i k; exact Decidable.not_not.1 k
    unfold allC allP
    rw [eachGo_len, eachGo_len, (allErr_zero h1).1]
    exact Nat.le_refl _
  · exact Nat.zero_le _
set_option maxHeartbeats 0 in
theorem sall_ok (ss : List Sv) (n c : Int) (hs : ∀ s ∈ ss, SvOk s) : PCall Try.prog 21 [.dat (.list (ss.map Sv.enc)), dInt n, dInt c] (.tup [.dat (.list ((allR ss n c).map Sv.enc)), dInt (allE ss n c)]) := by
  have hck := checkAll_ok ss c hs
  refine pcall_cut tab_all tab_mixed Try.func21 (by kernel_rfl) Try.ntmps21 rfl ?_
  conv => whnf
  conv => whnf
  repeat (first | (refine Conf.mk (by kernel_rfl) ?_; conv => whnf) | (refine SeqOk.go ?_; conv => whnf))
  refine .data _ _ hck rfl ?_
  conv => whnf
  repeat (first | (refine Conf.mk (by kernel_rfl) ?_; conv => whnf) | (refine SeqOk.go ?_; conv => whnf))
  by_cases h1 : allErr ss c = 0
  · obtain ⟨h3, hr, hc⟩ := allErr_zero h1
    obtain ⟨a, b, d, rfl⟩ := three h3
    obtain ⟨oa, ob, od⟩ : SvOk a ∧ SvOk b ∧ SvOk d := ⟨hs a (by simp), hs b (by simp), hs d (by simp)⟩
    have fa := a.fine (hr a (by simp))
    have fb := b.fine (hr b (by simp))
    have fd := d.fine (hr d (by simp))
    refine BoolCase.no (by simp [h1]) ?_
    conv => whnf
    repeat (first | (refine Conf.mk (by kernel_rfl) ?_; conv => whnf) | (refine SeqOk.go ?_; conv => whnf))
    refine .eff [] _ _ _ _ 1 (copyOfAll_ok a b d ⟨by omega, by omega⟩ ⟨by omega, by omega⟩ ⟨by omega, by omega⟩) rfl rfl rfl rfl rfl ?_
    conv => whnf
    repeat (first | (refine Conf.mk (by kernel_rfl) ?_; conv => whnf) | (refine SeqOk.go ?_; conv => whnf))
    simp only
    have hP : (allP [a, b, d] n c).1.length = 3 := eachGo_len _ _ _ _ _ _
    obtain ⟨x, y, z, hx⟩ := three hP
    have hoP : ∀ s ∈ (allP [a, b, d] n c).1, SvOk s := eachGo_ok (fun s g h => propR_ok h n) c 3 0 [a, b, d] 0 hs
    rw [hx] at hoP
    obtain ⟨ox, oy, oz⟩ : SvOk x ∧ SvOk y ∧ SvOk z := ⟨hoP x (by simp), hoP y (by simp), hoP z (by simp)⟩
    have hPe : eachGo (fP n) c 3 0 [a, b, d] 0 = ([x, y, z], (allP [a, b, d] n c).2.1, (allP [a, b, d] n c).2.2) := by rw [← hx]; rfl
    refine .eff [1, 0, 2] _ _ _ _ 0 (each1_ok a b d n 0 c hc oa ob od x y z _ _ hPe) rfl rfl rfl rfl rfl ?_
    conv => whnf
    repeat (first | (refine Conf.mk (by kernel_rfl) ?_; conv => whnf) | (refine SeqOk.go ?_; conv => whnf))
    simp only
    by_cases h2 : (allP [a, b, d] n c).2.2 = 0
    · refine BoolCase.no (by simp [h2]) ?_
      conv => whnf
      repeat (first | (refine Conf.mk (by kernel_rfl) ?_; conv => whnf) | (refine SeqOk.go ?_; conv => whnf))
      have hC : (allC [a, b, d] n c).1.length = 3 := by unfold allC; rw [eachGo_len, hP]
      obtain ⟨x2, y2, z2, hx2⟩ := three hC
      have hCe : eachGo (fC n) c 3 0 [x, y, z] (allP [a, b, d] n c).2.1 = ([x2, y2, z2], (allC [a, b, d] n c).2.1, (allC [a, b, d] n c).2.2) := by rw [← hx, ← hx2]; rfl
      refine .eff [1, 0, 2] _ _ _ _ 0 (each2_ok x y z n _ c hc ox oy oz x2 y2 z2 _ _ hCe) rfl rfl rfl rfl rfl ?_
      conv => whnf
      repeat (first | (refine Conf.mk (by kernel_rfl) ?_; conv => whnf) | (refine SeqOk.go ?_; conv => whnf))
      simp only
      have hE : allE [a, b, d] n c = (allC [a, b, d] n c).2.2 := by unfold allE; rw [if_neg (by simp [h1]), if_neg (by simp [h2])]
      by_cases h4 : (allC [a, b, d] n c).2.2 = 0
      · have hR : allR [a, b, d] n c = [x2, y2, z2] := by unfold allR; rw [hE, if_pos h4, hx2]
        refine BoolCase.no (by simp [h4]) ?_
        conv => whnf
        repeat (first | (refine Conf.mk (by kernel_rfl) ?_; conv => whnf) | (refine SeqOk.go ?_; conv => whnf))
        rw [hR, hE, h4]
        refine ret_of _ _ ?_
        exact ⟨.tup [.dat (.list ([x2, y2, z2].map Sv.enc)), dInt 0], by kernel_rfl, rfl⟩
      · have hR : allR [a, b, d] n c = [] := by unfold allR; rw [hE, if_neg h4]
        refine BoolCase.yes (by simpa using h4) ?_
        conv => whnf
        repeat (first | (refine Conf.mk (by kernel_rfl) ?_; conv => whnf) | (refine SeqOk.go ?_; conv => whnf))
        rw [hR, hE]
        exact Ret.to rfl
    · have hE : allE [a, b, d] n c = (allP [a, b, d] n c).2.2 := by unfold allE; rw [if_neg (by simp [h1]), if_pos h2]
      have hR : allR [a, b, d] n c = [] := by unfold allR; rw [hE, if_neg h2]
      refine BoolCase.yes (by simpa using h2) ?_
      conv => whnf
      repeat (first | (refine Conf.mk (by kernel_rfl) ?_; conv => whnf) | (refine SeqOk.go ?_; conv => whnf))
      rw [hR, hE]
      exact Ret.to rfl
  · have hE : allE ss n c = allErr ss c := by unfold allE; rw [if_pos h1]
    have hR : allR ss n c = [] := by unfold allR; rw [hE, if_neg h1]
    refine BoolCase.yes (by simpa using h1) ?_
    conv => whnf
    repeat (first | (refine Conf.mk (by kernel_rfl) ?_; conv => whnf) | (refine SeqOk.go ?_; conv => whnf))
    rw [hR, hE]
    exact Ret.to rfl
end Go.Proofs.Ytlioojekjnigiab.AM.Sk
