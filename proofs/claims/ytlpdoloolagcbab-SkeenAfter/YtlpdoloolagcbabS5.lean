/- slices.Insert and slices.Delete, of a row of waits of one's own. -/
import Derived.Test.YtlpdoloolagcbabH
namespace Go.Proofs.Ytlpdoloolagcbab
open Go.RowKit

theorem Try.infoWait : (Try.prog.info? 64).map (fun i => (i.zero, i.size, i.bytes)) = some (some (.agg #[.int .i64 0, .int .i64 0, .bool false]), 3, 24) := by kernel_rfl
theorem news_block {w : World} {b : Nat} {xs : List Value} {t : TypeId} (h : w.heap[b]? = some (.cells xs.toArray t (0, 0))) : ∀ j u, xs[j]? = some u → w.cell? ((⟨b, 0, none⟩ : Addr).add j) = some u := fun j u hu => by
  rw [add_at', Nat.zero_add]
  exact cell_of_block h (by simpa using hu)

set_option maxHeartbeats 2000000 in
set_option maxRecDepth 100000 in
theorem insert_end (base : Nat) (v : Value) (n : Nat) (cs xs : List Value) (vb : Nat) (w : World) (hown : w.ownsRow base 64 3 v n cs) (hx : w.heap[vb]? = some (.cells xs.toArray 64 (0, 0))) (hxl : xs.length = 3) (h1 : ∀ u ∈ xs, u.oneCell' = true) (hn : n ≤ 1000) (hb : base ≤ w.heap.size) :
    Calls Try.prog 80 #[v, .int .i64 n, .slice (some ⟨vb, 0, none⟩) 1 1] w fun e w' => ∃ g cap, e = .returned (.slice (some ⟨g, 0, none⟩) (n + 1) cap) ∧ w'.ownsRow base 64 3 (.slice (some ⟨g, 0, none⟩) (n + 1) cap) (n + 1) (cs ++ xs) ∧ w.grownBy w' v.ownBlock ∧ (v.ownBlock = some g ∨ g = w.heap.size) := by
  obtain ⟨i0, hinf, hz0, hz1, hz2⟩ := info_parts Try.infoWait
  have HX : Hid (∀ j u, xs[j]? = some u → w.cell? ((⟨vb, 0, none⟩ : Addr).add j) = some u) := news_block hx
  have HO : Hid (w.ownsRow base 64 3 v n cs) := hown
  have H3 : Hid (xs.length = 1 * 3) := by show xs.length = _; omega
  clear hx hxl
  rcases hown.2 with ⟨rfl, rfl⟩ | ⟨g, cap, cur, rfl, hbg, hg, hle, hcm, hcs, ht⟩
  · clear hown
    go_enter Try.func80, Try.ntmps80
    go_wp2_with (at_builtin; go_must (refine wpList_append_lies _ (by rfl) _ _ 40 (by rfl) base 64 i0 (.agg #[.int .i64 0, .int .i64 0, .bool false]) 3 24 Try.underlying40 hinf hz0 hz1 hz2 (by rfl) (by decide) (.slice none 0 0) 0 cs (by rfl) HO.out ⟨vb, 0, none⟩ 1 1 xs (by rfl) H3.out HX.out h1 (by decide) (by unfold maxLen; omega) (by omega) hb w.heap.size rfl ?_; intro g cap' w3 hown3 hgrow hat hltg))
    go_ret
    exact ⟨g, cap', rfl, hown3, hgrow, hat⟩
  · clear hown hg hcs ht hbg
    have hcm' : cap ≤ 9223372036854775807 := by unfold maxLen at hcm; omega
    clear hcm
    go_enter Try.func80, Try.ntmps80
    go_wp2_with (at_builtin; go_must (refine wpList_append_lies _ (by rfl) _ _ 40 (by rfl) base 64 i0 (.agg #[.int .i64 0, .int .i64 0, .bool false]) 3 24 Try.underlying40 hinf hz0 hz1 hz2 (by rfl) (by decide) (.slice (some ⟨g, 0, none⟩) n cap) n cs (by rfl) HO.out ⟨vb, 0, none⟩ 1 1 xs (by rfl) H3.out HX.out h1 (by decide) (by unfold maxLen; omega) (by omega) hb w.heap.size rfl ?_; intro g' cap' w3 hown3 hgrow hat hltg))
    all_goals
      go_ret
      exact ⟨g', cap', rfl, hown3, hgrow, hat⟩

set_option maxHeartbeats 4000000 in
set_option maxRecDepth 100000 in
theorem insert_room (base g n cap i : Nat) (cur : Array Value) (cs xs : List Value) (vb : Nat) (w : World) (hg : w.heap[g]? = some (.cells cur 64 (0, 0))) (hbg : base ≤ g) (hcm : cap ≤ maxLen) (hcs : cur.size = cap * 3) (ht : cur.toList.take (n * 3) = cs) (hroom : n + 1 ≤ cap) (hi : i < n)
    (hx : w.heap[vb]? = some (.cells xs.toArray 64 (0, 0))) (hne : vb ≠ g) (hxl : xs.length = 3) (h1 : ∀ u ∈ xs, u.oneCell' = true) (h1c : ∀ u ∈ cs, u.oneCell' = true) (hn : n ≤ 1000) :
    Calls Try.prog 80 #[.slice (some ⟨g, 0, none⟩) n cap, .int .i64 i, .slice (some ⟨vb, 0, none⟩) 1 1] w fun e w' => e = .returned (.slice (some ⟨g, 0, none⟩) (n + 1) cap) ∧ w'.ownsRow base 64 3 (.slice (some ⟨g, 0, none⟩) (n + 1) cap) (n + 1) (cs.take (i * 3) ++ xs ++ cs.drop (i * 3)) ∧ w.grownBy w' (some g) := by
  obtain ⟨i0, hinf, hz0, hz1, hz2⟩ := info_parts Try.infoWait
  have hlt := lt_of_block hg
  have hcm' : cap ≤ 9223372036854775807 := by unfold maxLen at hcm; omega
  have hcsl : cs.length = n * 3 := by rw [← ht, List.length_take]; simp; omega
  have hov : ∀ lb cb, (callFunc 85 #[.slice (some ⟨vb, 0, none⟩) 1 1, .slice (some ⟨g, (i + 1) * 3, none⟩) lb cb]).run Try.prog w = .ok (.value (.bool false)) w := fun lb cb => by
    rw [run_callFunc_extern Try.func85 (by kernel_rfl) (by kernel_rfl) (by kernel_rfl) (e := Extern.SlicesOverlaps.overlaps #[40, 40] #[4]) (by kernel_rfl),
      Lib.run_overlaps_apart w 40 4 64 Try.underlying40 3 Try.sizeOf64 ⟨vb, 0, none⟩ ⟨g, (i + 1) * 3, none⟩ 1 1 lb cb hne 64 64 3 (cap * 3) (by simp [World.shape?, hx, hxl]) (by simp [World.shape?, hg, hcs]) (by omega) (by simp [World.frozen?, hx]) (by simp [World.frozen?, hx])]
    rfl
  have hnq : ¬ ((i : Int) = (n : Int)) := by omega
  have hnq' : decide ((i : Int) = (n : Int)) = false := by simpa using hnq
  have hroom' : decide ((cap : Int) < (n : Int) + 1) = false := by simp; omega
  obtain ⟨R1, hR1⟩ : ∃ R1 : List Value, R1 = cur.toList.take (i * 3 + 3) ++ cs.drop (i * 3) ++ cur.toList.drop (i * 3 + 3 + (n * 3 - i * 3)) := ⟨_, rfl⟩
  obtain ⟨R2, hR2⟩ : ∃ R2 : List Value, R2 = R1.take (i * 3) ++ xs ++ R1.drop (i * 3 + 3) := ⟨_, rfl⟩
  have hcl : cur.toList.length = cap * 3 := by simpa using hcs
  have t2 : R2.take ((n + 1) * 3) = cs.take (i * 3) ++ xs ++ cs.drop (i * 3) := by
    rw [hR2, hR1, show (n + 1) * 3 = n * 3 + 3 from by omega]
    exact row_shift (by omega) hxl (by omega) ht
  have s2 : R2.toArray.size = cap * 3 := by
    have := row_shift_size (cur := cur.toList) (cs := cs) (xs := xs) (I := i * 3) (N := n * 3) (k := 3) (by omega) hxl (by omega) hcsl
    rw [hR2, hR1]
    simpa [hcl] using this
  have l1 : R1.length = cap * 3 := by rw [hR1]; simp [hcsl, hcs]; omega
  have hdl : (cs.drop (i * 3)).length = (n - i) * 3 := by rw [List.length_drop]; omega
  have hcp1 : ∀ ty dc sc, (Builtin.copy_ #[40, 40] ty #[.slice (some ⟨g, (i + 1) * 3, none⟩) (n - i) dc, .slice (some ⟨g, i * 3, none⟩) (n + 1 - i) sc]).run Try.prog w.drew = .ok (goInt ((n - i : Nat) : Int)) (w.drew.setRow g R1.toArray) := fun ty dc sc => by
    have hm : Nat.min (n + 1 - i) (n - i) = n - i := by simp only [Nat.min_def]; split <;> omega
    have := run_copy_row (P := Try.prog) w.drew 40 40 ty 64 3 g ((i + 1) * 3) (n - i) dc ⟨g, i * 3, none⟩ (n + 1 - i) sc (cs.drop (i * 3)) cur 64 Try.underlying40 i0 hinf hz1 (by rw [hm, hdl])
      (fun j v hj => by
        rw [add_at']
        rw [List.getElem?_drop, ← ht, List.getElem?_take] at hj
        split at hj
        · exact cell_of_block (w := w.drew) hg (by simpa using hj)
        · cases hj) hg (by rw [hdl]; omega) (fun v hv => h1c v (List.mem_of_mem_drop hv))
    rw [hm, hdl, show (i + 1) * 3 = i * 3 + 3 from by omega, show i * 3 + 3 + (n - i) * 3 = i * 3 + 3 + (n * 3 - i * 3) from by omega, ← hR1] at this
    rw [show (i + 1) * 3 = i * 3 + 3 from by omega]
    exact this
  have g1 : (w.drew.setRow g R1.toArray).heap[g]? = some (.cells R1.toArray 64 (0, 0)) := setRow_heap w.drew g _ R1.toArray 64 (0, 0) hg
  have x1 : (w.drew.setRow g R1.toArray).heap[vb]? = some (.cells xs.toArray 64 (0, 0)) := (setRow_other w.drew g _ _ hne).trans hx
  have gr1 : w.grownBy (w.drew.setRow g R1.toArray) (some g) := grownBy_trans (grownBy_drew w _) (grownBy_setRow (w := w.drew) hg)
  generalize w.drew.setRow g R1.toArray = W1 at *
  have hcp2 : ∀ ty dc, (Builtin.copy_ #[40, 40] ty #[.slice (some ⟨g, i * 3, none⟩) (n + 1 - i) dc, .slice (some ⟨vb, 0, none⟩) 1 1]).run Try.prog W1 = .ok (goInt 1) (W1.setRow g R2.toArray) := fun ty dc => by
    have hm : Nat.min 1 (n + 1 - i) = 1 := by simp only [Nat.min_def]; split <;> omega
    have := run_copy_row (P := Try.prog) W1 40 40 ty 64 3 g (i * 3) (n + 1 - i) dc ⟨vb, 0, none⟩ 1 1 xs R1.toArray 64 Try.underlying40 i0 hinf hz1 (by rw [hm, hxl]) (news_block x1) g1 (by rw [hxl]; simp; omega) h1
    rw [hm, hxl] at this
    simp only at this
    rw [← hR2] at this
    exact this
  have HG2 : Hid ((W1.setRow g R2.toArray).ownsRow base 64 3 (.slice (some ⟨g, 0, none⟩) (n + 1) cap) (n + 1) (cs.take (i * 3) ++ xs ++ cs.drop (i * 3))) :=
    ⟨by simp [hxl, hcsl]; omega, .inr ⟨g, cap, R2.toArray, rfl, hbg, setRow_heap W1 g _ R2.toArray 64 (0, 0) g1, hroom, hcm, s2, t2⟩⟩
  have HGR : Hid (w.grownBy (W1.setRow g R2.toArray) (some g)) := grownBy_trans gr1 (grownBy_setRow g1)
  clear hR1 hR2 t2 s2 l1 g1 x1 gr1 hcl hdl hcsl ht h1c h1 hx hxl hg hcs
  have hcn : ¬ (cap = i + 1) := by omega
  have hcn' : ¬ (cap = i) := by omega
  go_enter Try.func80, Try.ntmps80
  go_wp2_with (simp only [hov])
  refine wp_region_path [(0, 0), (1, 0), (2, 0), (3, 2), (4, 2), (5, 0), (6, 0), (7, 2), (8, 3)] (by kernel_rfl) (by kernel_rfl) (by kernel_rfl) (by kernel_rfl) ?_
  simp only [parts, headed, headed2, List.getElem?_toArray, List.getElem?_cons_zero, List.getElem?_cons_succ]
  refine parts_step fun K HK => ?_
  go_wp2_with fail
  refine HK.out _ _ (Grow.refl _) ?_
  clear HK K
  refine parts_step2 (fun hw => by first | (cases hw; done) | (apply looks_run; intro w'; go_simp; try first | rfl | rw [if_neg (by omega)] | rw [if_pos (by omega)])) fun K HK => ?_
  go_wp2_with fail
  refine HK.out _ _ (Grow.refl _) ?_
  clear HK K
  refine parts_step2 (fun hw => by first | (cases hw; done) | (apply looks_run; intro w'; go_simp; try first | rfl | rw [if_neg (by omega)] | rw [if_pos (by omega)])) fun K HK => ?_
  go_wp2_with fail
  refine HK.out _ _ (Grow.refl _) ?_
  clear HK K
  refine parts_cut2 (fun hw => by first | (cases hw; done) | (apply looks_run; intro w'; go_simp; try first | rfl | rw [if_neg (by omega)] | rw [if_pos (by omega)])) fun K HK => ?_
  go_wp2_with (at_builtin; go_must (refine wpList_copy_run _ (by rfl) _ _ 40 40 (by rfl) _ _ (by rfl) (by rfl) (hcp1 _ _ _) ?_))
  refine HK.out _ _ ?_
  clear HK K
  refine parts_step fun K HK => ?_
  go_wp2_with fail
  refine HK.out _ _ (Grow.refl _) ?_
  clear HK K
  refine parts_done ?_
  go_wp2_with (at_builtin; refine wpList_copy_run _ (by rfl) _ _ 40 40 (by rfl) _ _ (by rfl) (by rfl) (hcp2 _ _) ?_)
  go_ret
  exact ⟨rfl, HG2.out, HGR.out⟩

set_option maxHeartbeats 4000000 in
set_option maxRecDepth 100000 in
theorem insert_grow (base g n cap i : Nat) (cur : Array Value) (cs xs : List Value) (vb : Nat) (w : World) (hg : w.heap[g]? = some (.cells cur 64 (0, 0))) (hb : base ≤ w.heap.size) (hcm : cap ≤ maxLen) (hcs : cur.size = cap * 3) (ht : cur.toList.take (n * 3) = cs) (hnc : n ≤ cap) (hroom : cap < n + 1) (hi : i < n)
    (hx : w.heap[vb]? = some (.cells xs.toArray 64 (0, 0))) (hxl : xs.length = 3) (h1 : ∀ u ∈ xs, u.oneCell' = true) (h1c : ∀ u ∈ cs, u.oneCell' = true) (hn : n ≤ 1000) :
    Calls Try.prog 80 #[.slice (some ⟨g, 0, none⟩) n cap, .int .i64 i, .slice (some ⟨vb, 0, none⟩) 1 1] w fun e w' => ∃ cap', e = .returned (.slice (some ⟨w.heap.size, 0, none⟩) (n + 1) cap') ∧ w'.ownsRow base 64 3 (.slice (some ⟨w.heap.size, 0, none⟩) (n + 1) cap') (n + 1) (cs.take (i * 3) ++ xs ++ cs.drop (i * 3)) ∧ Grow w w' := by
  obtain ⟨i0, hinf, hz0, hz1, hz2⟩ := info_parts Try.infoWait
  have hlt := lt_of_block hg
  have hltv := lt_of_block hx
  have hcm' : cap ≤ 9223372036854775807 := by unfold maxLen at hcm; omega
  have hcsl : cs.length = n * 3 := by rw [← ht, List.length_take]; simp; omega
  have hnq : ¬ ((i : Int) = (n : Int)) := by omega
  have hnq' : decide ((i : Int) = (n : Int)) = false := by simpa using hnq
  have hroom' : decide ((cap : Int) < (n : Int) + 1) = true := by simp; omega
  have hsrc : ∀ j v, cs[j]? = some v → w.cell? ⟨g, j, none⟩ = some v := fun j v hj => by
    rw [← ht, List.getElem?_take] at hj
    split at hj
    · exact cell_of_block hg (by simpa using hj)
    · cases hj
  obtain ⟨G, hG⟩ : ∃ G, G = grownCap w (n + 1) cap 64 := ⟨_, rfl⟩
  have hGn : n + 1 ≤ G := by rw [hG]; exact grownCap_ge w _ _ _
  have hGm : G ≤ maxLen := by rw [hG]; exact grownCap_le_maxLen w (n + 1) cap _ (by unfold maxLen; omega)
  have hG63 : G ≤ 9223372036854775807 := by unfold maxLen at hGm; omega
  obtain ⟨R0, hR0⟩ : ∃ R0 : Array Value, R0 = (cs.take (i * 3)).toArray ++ Builtin.zeroCells (Value.agg #[.int .i64 0, .int .i64 0, .bool false]).cells (n + 1 - i) ++ Builtin.zeroCells (Value.agg #[.int .i64 0, .int .i64 0, .bool false]).cells (G - (n + 1)) := ⟨_, rfl⟩
  have hrz : ∀ ty, (Builtin.append_ #[40, 3] ty #[.slice (some ⟨g, 0, none⟩) i cap, .int .i64 ((n : Int) + 1 - (i : Int))]).run Try.prog w = .ok (.slice (some ⟨w.heap.size, 0, none⟩) (n + 1) G) (w.drew.alloc (.cells R0 64)) := fun ty => by
    have hold : (Builtin.firstCells i0.size i (.slice (some ⟨g, 0, none⟩) i cap)).run Try.prog w.drew = .ok (cs.take (i * 3)).toArray w.drew := by
      rw [hz1]
      exact run_firstCells_some w.drew 3 i ⟨g, 0, none⟩ i cap (cs.take (i * 3)) (by rw [List.length_take]; omega) (fun j v hj => by
        rw [add_at', Nat.zero_add]
        rw [List.getElem?_take] at hj
        split at hj
        · exact hsrc j v hj
        · cases hj)
    have h := Lib.run_append_grow_zeros w 40 3 ty 64 i0 _ .i64 .i64 Try.underlying40 Try.underlying3 hinf hz0 (some ⟨g, 0, none⟩) i cap (cs.take (i * 3)) hold (n + 1 - i) (by omega) (by omega) (by omega) (by omega) (by rw [hz2]; omega) (growslice_fits_wide (by omega) (by rw [hz2]; omega))
    rw [show i + (n + 1 - i) = n + 1 from by omega, ← hG, ← hR0] at h
    rw [show (n : Int) + 1 - (i : Int) = ((n + 1 - i : Nat) : Int) from by omega]
    exact h
  have hzc : (Value.agg #[.int .i64 0, .int .i64 0, .bool false]).cells.size = 3 := rfl
  have s0 : R0.toList.length = G * 3 := by
    rw [hR0]
    simp [size_zeroCells, hzc, hcsl]
    omega
  have t0 : R0.toList.take (i * 3) = cs.take (i * 3) := by
    rw [hR0]
    simp only [Array.toList_append, List.append_assoc]
    exact List.take_left' (by simp [hcsl]; omega)
  have g0 : (w.drew.alloc (.cells R0 64)).heap[w.heap.size]? = some (.cells R0 64 (0, 0)) := heap_alloc_new w.drew _
  have gr0 : Grow w (w.drew.alloc (.cells R0 64)) := (Grow.refl w).drew.alloc _
  generalize w.drew.alloc (.cells R0 64) = W0 at *
  have x0 := grow_block gr0 hx
  obtain ⟨R1, hR1⟩ : ∃ R1 : List Value, R1 = R0.toList.take (i * 3) ++ xs ++ R0.toList.drop (i * 3 + 3) := ⟨_, rfl⟩
  obtain ⟨R2, hR2⟩ : ∃ R2 : List Value, R2 = R1.take (i * 3 + 3) ++ cs.drop (i * 3) ++ R1.drop (i * 3 + 3 + (n * 3 - i * 3)) := ⟨_, rfl⟩
  have t2 : R2.take ((n + 1) * 3) = cs.take (i * 3) ++ xs ++ cs.drop (i * 3) := by
    rw [hR2, hR1, show (n + 1) * 3 = n * 3 + 3 from by omega]
    exact row_new (by omega) hxl t0 hcsl
  have l1 : R1.length = G * 3 := by rw [hR1]; simp [hxl]; simp at s0; omega
  have l2 : R2.length = G * 3 := by rw [hR2]; simp [hcsl, l1]; omega
  have hdl : (cs.drop (i * 3)).length = (n - i) * 3 := by rw [List.length_drop]; omega
  have hcp1 : ∀ ty dc, (Builtin.copy_ #[40, 40] ty #[.slice (some ⟨w.heap.size, i * 3, none⟩) (n + 1 - i) dc, .slice (some ⟨vb, 0, none⟩) 1 1]).run Try.prog W0 = .ok (goInt 1) (W0.setRow w.heap.size R1.toArray) := fun ty dc => by
    have hm : Nat.min 1 (n + 1 - i) = 1 := by simp only [Nat.min_def]; split <;> omega
    have := run_copy_row (P := Try.prog) W0 40 40 ty 64 3 w.heap.size (i * 3) (n + 1 - i) dc ⟨vb, 0, none⟩ 1 1 xs R0 64 Try.underlying40 i0 hinf hz1 (by rw [hm, hxl]) (news_block x0) g0 (by rw [hxl]; simp at s0; omega) h1
    rw [hm, hxl, ← hR1] at this
    exact this
  have g1 : (W0.setRow w.heap.size R1.toArray).heap[w.heap.size]? = some (.cells R1.toArray 64 (0, 0)) := setRow_heap W0 w.heap.size _ R1.toArray 64 (0, 0) g0
  have gr1 : Grow w (W0.setRow w.heap.size R1.toArray) := Below.trans gr0 ⟨rfl, rfl, rfl, by simp [World.setRow], fun k hk => setRow_other _ _ _ _ (by omega)⟩
  generalize W0.setRow w.heap.size R1.toArray = W1 at *
  have hcp2 : ∀ ty dc sc, (Builtin.copy_ #[40, 40] ty #[.slice (some ⟨w.heap.size, (i + 1) * 3, none⟩) (n - i) dc, .slice (some ⟨g, i * 3, none⟩) (n - i) sc]).run Try.prog W1.drew = .ok (goInt ((n - i : Nat) : Int)) (W1.drew.setRow w.heap.size R2.toArray) := fun ty dc sc => by
    have hm : Nat.min (n - i) (n - i) = n - i := Nat.min_self _
    have := run_copy_row (P := Try.prog) W1.drew 40 40 ty 64 3 w.heap.size ((i + 1) * 3) (n - i) dc ⟨g, i * 3, none⟩ (n - i) sc (cs.drop (i * 3)) R1.toArray 64 Try.underlying40 i0 hinf hz1 (by rw [hm, hdl])
      (fun j v hj => by
        rw [add_at']
        rw [List.getElem?_drop] at hj
        exact cell_grow gr1.drew (hsrc _ v hj)) g1 (by rw [hdl]; simp; omega) (fun v hv => h1c v (List.mem_of_mem_drop hv))
    rw [hm, hdl, show (i + 1) * 3 = i * 3 + 3 from by omega, show i * 3 + 3 + (n - i) * 3 = i * 3 + 3 + (n * 3 - i * 3) from by omega] at this
    simp only at this
    rw [← hR2] at this
    rw [show (i + 1) * 3 = i * 3 + 3 from by omega]
    exact this
  have HG2 : Hid ((W1.drew.setRow w.heap.size R2.toArray).ownsRow base 64 3 (.slice (some ⟨w.heap.size, 0, none⟩) (n + 1) G) (n + 1) (cs.take (i * 3) ++ xs ++ cs.drop (i * 3))) :=
    ⟨by simp [hxl, hcsl]; omega, .inr ⟨w.heap.size, G, R2.toArray, rfl, hb, setRow_heap W1.drew w.heap.size _ R2.toArray 64 (0, 0) g1, hGn, hGm, by simpa using l2, t2⟩⟩
  have HGR : Hid (Grow w (W1.drew.setRow w.heap.size R2.toArray)) := Below.trans gr1.drew ⟨rfl, rfl, rfl, by simp [World.setRow], fun k hk => setRow_other _ _ _ _ (by omega)⟩
  generalize W1.drew.setRow w.heap.size R2.toArray = W2 at *
  clear hR0 hR1 hR2 t0 t2 s0 l1 l2 g0 x0 gr0 g1 gr1 hdl hcsl ht h1c h1 hx hxl hg hcs hsrc hG hb hGm
  have hcn : ¬ (G = i + 1) := by omega
  have hcn' : ¬ (G = i) := by omega
  have hcn2 : ¬ (cap = i) := by omega
  go_enter Try.func80, Try.ntmps80
  go_wp2_with (first
    | (at_builtin; go_must (refine wpList_append_ran _ (by rfl) _ _ 40 3 (by rfl) _ _ (by rfl) (by rfl) (hrz _) ?_))
    | (at_builtin; go_must (refine wpList_copy_run _ (by rfl) _ _ 40 40 (by rfl) _ _ (by rfl) (by rfl) (hcp1 _ _) ?_)))
  refine wp_region_path [(0, 0), (1, 0), (2, 0), (3, 2), (4, 2), (5, 0), (6, 0), (7, 2), (8, 3)] (by kernel_rfl) (by kernel_rfl) (by kernel_rfl) (by kernel_rfl) ?_
  simp only [parts, headed, headed2, List.getElem?_toArray, List.getElem?_cons_zero, List.getElem?_cons_succ]
  refine parts_step fun K HK => ?_
  go_wp2_with fail
  refine HK.out _ _ (Grow.refl _) ?_
  clear HK K
  refine parts_step2 (fun hw => by first | (cases hw; done) | (apply looks_run; intro w'; go_simp; try first | rfl | rw [if_neg (by omega)] | rw [if_pos (by omega)])) fun K HK => ?_
  go_wp2_with fail
  refine HK.out _ _ (Grow.refl _) ?_
  clear HK K
  refine parts_step2 (fun hw => by first | (cases hw; done) | (apply looks_run; intro w'; go_simp; try first | rfl | rw [if_neg (by omega)] | rw [if_pos (by omega)])) fun K HK => ?_
  go_wp2_with fail
  refine HK.out _ _ (Grow.refl _) ?_
  clear HK K
  refine parts_cut2 (fun hw => by first | (cases hw; done) | (apply looks_run; intro w'; go_simp; try first | rfl | rw [if_neg (by omega)] | rw [if_pos (by omega)])) fun K HK => ?_
  go_wp2_with (at_builtin; go_must (refine wpList_copy_run _ (by rfl) _ _ 40 40 (by rfl) _ _ (by rfl) (by rfl) (hcp2 _ _ _) ?_))
  refine HK.out _ _ ?_
  clear HK K
  refine parts_step fun K HK => ?_
  go_wp2_with fail
  refine HK.out _ _ (Grow.refl _) ?_
  clear HK K
  refine parts_done ?_
  go_wp2
  go_ret
  exact ⟨G, rfl, HG2.out, HGR.out⟩

/-- slices.Insert of one wait into a row of one's own. -/
theorem insert_any (base : Nat) (v : Value) (n i : Nat) (cs xs : List Value) (vb : Nat) (w : World) (hown : w.ownsRow base 64 3 v n cs) (hx : w.heap[vb]? = some (.cells xs.toArray 64 (0, 0))) (hne : v.ownBlock ≠ some vb) (hxl : xs.length = 3) (h1 : ∀ u ∈ xs, u.oneCell' = true) (h1c : ∀ u ∈ cs, u.oneCell' = true) (hn : n ≤ 1000) (hi : i ≤ n) (hb : base ≤ w.heap.size) :
    Calls Try.prog 80 #[v, .int .i64 i, .slice (some ⟨vb, 0, none⟩) 1 1] w fun e w' => ∃ g cap, e = .returned (.slice (some ⟨g, 0, none⟩) (n + 1) cap) ∧ w'.ownsRow base 64 3 (.slice (some ⟨g, 0, none⟩) (n + 1) cap) (n + 1) (cs.take (i * 3) ++ xs ++ cs.drop (i * 3)) ∧ w.grownBy w' v.ownBlock ∧ (v.ownBlock = some g ∨ w.heap.size ≤ g) := by
  by_cases e : i = n
  · subst e
    refine (insert_end base v i cs xs vb w hown hx hxl h1 hn hb).mono ?_
    rintro e w' ⟨g, cap, he, ho, hgr, hat⟩
    refine ⟨g, cap, he, ?_, hgr, hat.imp id fun h => by omega⟩
    have hl := hown.1
    rw [List.take_of_length_le (by omega), List.drop_of_length_le (by omega), List.append_nil]
    exact ho
  · rcases hown.2 with ⟨rfl, rfl⟩ | ⟨g, cap, cur, rfl, hbg, hg, hle, hcm, hcs, ht⟩
    · omega
    · by_cases hroom : n + 1 ≤ cap
      · refine (insert_room base g n cap i cur cs xs vb w hg hbg hcm hcs ht hroom (by omega) hx (fun e => hne (by rw [e]; rfl)) hxl h1 h1c hn).mono ?_
        rintro e w' ⟨he, ho, hgr⟩
        exact ⟨g, cap, he, ho, hgr, .inl rfl⟩
      · refine (insert_grow base g n cap i cur cs xs vb w hg hb hcm hcs ht hle (by omega) (by omega) hx hxl h1 h1c hn).mono ?_
        rintro e w' ⟨cap', he, ho, hgr⟩
        exact ⟨w.heap.size, cap', he, ho, grownBy_of_grow hgr _, .inr (Nat.le_refl _)⟩
end Go.Proofs.Ytlpdoloolagcbab
