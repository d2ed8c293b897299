/- What is leaned on: part 5. -/
import Derived.Test.YtlioojekjnigiacQ4
import Derived.OpenShut
import Derived.ProofKit
import Derived.ChangeOld
import Derived.Lib.SmallJoins
/- slices.Insert and slices.Delete, of a row of waits of one's own. -/
namespace Go.Proofs.Ytlioojekjnigiac.IT
open Go.RowKit
set_option linter.unusedVariables false

theorem infoT : (Try.prog.info? 97).map (fun i => (i.zero, i.size, i.bytes)) = some (some (.agg #[.int .i64 0, .int .i64 0, .slice none 0 0]), 3, 40) := by kernel_rfl
theorem news_block {w : World} {b : Nat} {xv : Array Value} {xs : List Value} {t : TypeId} {k : Nat} (h : w.heap[b]? = some (.cells xv t (0, 0))) (ht : xv.toList.take k = xs) : ∀ j u, xs[j]? = some u → w.cell? ((⟨b, 0, none⟩ : Addr).add j) = some u := fun j u hu => by
  rw [add_at', Nat.zero_add]
  rw [← ht, List.getElem?_take] at hu
  split at hu
  · exact cell_of_block h (by simpa using hu)
  · cases hu

set_option maxHeartbeats 2000000 in
set_option maxRecDepth 100000 in
theorem insert_end (base : Nat) (v : Value) (n : Nat) (cs xs : List Value) (vb vc : Nat) (xv : Array Value) (w : World) (hown : w.ownsRow base 97 3 v n cs) (hx : w.heap[vb]? = some (.cells xv 97 (0, 0))) (hxl : xs.length = 3) (hxt : xv.toList.take 3 = xs) (hxs : xv.size = vc * 3) (hvc : 1 ≤ vc) (h1 : ∀ u ∈ xs, u.oneCell' = true) (hn : n ≤ 1000) (hb : base ≤ w.heap.size) :
    Calls Try.prog 83 #[v, .int .i64 n, .slice (some ⟨vb, 0, none⟩) 1 vc] w fun e w' => ∃ g cap, e = .returned (.slice (some ⟨g, 0, none⟩) (n + 1) cap) ∧ w'.ownsRow base 97 3 (.slice (some ⟨g, 0, none⟩) (n + 1) cap) (n + 1) (cs ++ xs) ∧ w.grownBy w' v.ownBlock ∧ (v.ownBlock = some g ∨ g = w.heap.size) := by
  obtain ⟨i0, hinf, hz0, hz1, hz2⟩ := info_parts infoT
  have HX : Hid (∀ j u, xs[j]? = some u → w.cell? ((⟨vb, 0, none⟩ : Addr).add j) = some u) := news_block hx hxt
  have HO : Hid (w.ownsRow base 97 3 v n cs) := hown
  have H3 : Hid (xs.length = 1 * 3) := by show xs.length = _; omega
  clear hx hxt hxs hxl
  rcases hown.2 with ⟨rfl, rfl⟩ | ⟨g, cap, cur, rfl, hbg, hg, hle, hcm, hcs, ht⟩
  · clear hown
    go_enter Try.func83, Try.ntmps83
    go_wp2_with (at_builtin; go_must (refine wpList_append_lies _ (by rfl) _ _ 78 (by rfl) base 97 i0 (.agg #[.int .i64 0, .int .i64 0, .slice none 0 0]) 3 40 Try.underlying78 hinf hz0 hz1 hz2 (by rfl) (by decide) (.slice none 0 0) 0 cs (by rfl) HO.out ⟨vb, 0, none⟩ 1 vc xs (by rfl) H3.out HX.out h1 (by decide) (by unfold maxLen; omega) (by omega) hb w.heap.size rfl ?_; intro g cap' w3 hown3 hgrow hat hltg))
    go_ret
    exact ⟨g, cap', rfl, hown3, hgrow, hat⟩
  · clear hown hg hcs ht hbg
    have hcm' : cap ≤ 9223372036854775807 := by unfold maxLen at hcm; omega
    clear hcm
    go_enter Try.func83, Try.ntmps83
    go_wp2_with (at_builtin; go_must (refine wpList_append_lies _ (by rfl) _ _ 78 (by rfl) base 97 i0 (.agg #[.int .i64 0, .int .i64 0, .slice none 0 0]) 3 40 Try.underlying78 hinf hz0 hz1 hz2 (by rfl) (by decide) (.slice (some ⟨g, 0, none⟩) n cap) n cs (by rfl) HO.out ⟨vb, 0, none⟩ 1 vc xs (by rfl) H3.out HX.out h1 (by decide) (by unfold maxLen; omega) (by omega) hb w.heap.size rfl ?_; intro g' cap' w3 hown3 hgrow hat hltg))
    all_goals
      go_ret
      exact ⟨g', cap', rfl, hown3, hgrow, hat⟩

set_option maxHeartbeats 4000000 in
set_option maxRecDepth 100000 in
theorem insert_room (base g n cap i : Nat) (cur : Array Value) (cs xs : List Value) (vb vc : Nat) (xv : Array Value) (w : World) (hg : w.heap[g]? = some (.cells cur 97 (0, 0))) (hbg : base ≤ g) (hcm : cap ≤ maxLen) (hcs : cur.size = cap * 3) (ht : cur.toList.take (n * 3) = cs) (hroom : n + 1 ≤ cap) (hi : i < n)
    (hx : w.heap[vb]? = some (.cells xv 97 (0, 0))) (hne : vb ≠ g) (hxl : xs.length = 3) (hxt : xv.toList.take 3 = xs) (hxs : xv.size = vc * 3) (hvc : 1 ≤ vc) (h1 : ∀ u ∈ xs, u.oneCell' = true) (h1c : ∀ u ∈ cs, u.oneCell' = true) (hn : n ≤ 1000) :
    Calls Try.prog 83 #[.slice (some ⟨g, 0, none⟩) n cap, .int .i64 i, .slice (some ⟨vb, 0, none⟩) 1 vc] w fun e w' => e = .returned (.slice (some ⟨g, 0, none⟩) (n + 1) cap) ∧ w'.ownsRow base 97 3 (.slice (some ⟨g, 0, none⟩) (n + 1) cap) (n + 1) (cs.take (i * 3) ++ xs ++ cs.drop (i * 3)) ∧ w.grownBy w' (some g) := by
  obtain ⟨i0, hinf, hz0, hz1, hz2⟩ := info_parts infoT
  have hlt := lt_of_block hg
  have hcm' : cap ≤ 9223372036854775807 := by unfold maxLen at hcm; omega
  have hcsl : cs.length = n * 3 := by rw [← ht, List.length_take]; simp; omega
  have hov : ∀ lb cb, (callFunc 95 #[.slice (some ⟨vb, 0, none⟩) 1 vc, .slice (some ⟨g, (i + 1) * 3, none⟩) lb cb]).run Try.prog w = .ok (.value (.bool false)) w := fun lb cb => by
    rw [run_callFunc_extern Try.func95 (by kernel_rfl) (by kernel_rfl) (by kernel_rfl) (e := Extern.SlicesOverlaps.overlaps #[78, 78] #[4]) (by kernel_rfl),
      Lib.run_overlaps_apart w 78 4 97 Try.underlying78 3 Try.sizeOf97 ⟨vb, 0, none⟩ ⟨g, (i + 1) * 3, none⟩ 1 vc lb cb hne 97 97 (vc * 3) (cap * 3) (by simp [World.shape?, hx, hxs]) (by simp [World.shape?, hg, hcs]) (by omega) (by simp [World.frozen?, hx]) (by simp [World.frozen?, hx])]
    rfl
  have hnq : ¬ ((i : Int) = (n : Int)) := by omega
  have hnq' : decide ((i : Int) = (n : Int)) = false := by simpa using hnq
  have hroom' : decide ((cap : Int) < (n : Int) + 1) = false := by simp; omega
  obtain ⟨R1, hR1⟩ : ∃ R1 : List Value, R1 = cur.toList.take (i * 3 + 3) ++ cs.drop (i * 3) ++ cur.toList.drop (i * 3 + 3 + (n * 3 - i * 3)) := ⟨_, rfl⟩
  obtain ⟨R2, hR2⟩ : ∃ R2 : List Value, R2 = R1.take (i * 3) ++ xs ++ R1.drop (i * 3 + 3) := ⟨_, rfl⟩
  have hcl : cur.toList.length = cap * 3 := by simpa using hcs
  have t2 : R2.take ((n + 1) * 3) = cs.take (i * 3) ++ xs ++ cs.drop (i * 3) := by
    rw [hR2, hR1, show (n + 1) * 3 = n * 3 + 3 from by omega]
    exact row_shift (by omega) hxl (by omega) ht
  have s2 : R2.toArray.size = cap * 3 := by
    have := row_shift_size (cur := cur.toList) (cs := cs) (xs := xs) (I := i * 3) (N := n * 3) (k := 3) (by omega) hxl (by omega) hcsl
    rw [hR2, hR1]
    simpa [hcl] using this
  have l1 : R1.length = cap * 3 := by rw [hR1]; simp [hcsl, hcs]; omega
  have hdl : (cs.drop (i * 3)).length = (n - i) * 3 := by rw [List.length_drop]; omega
  have hcp1 : ∀ ty dc sc, (Builtin.copy_ #[78, 78] ty #[.slice (some ⟨g, (i + 1) * 3, none⟩) (n - i) dc, .slice (some ⟨g, i * 3, none⟩) (n + 1 - i) sc]).run Try.prog w.drew = .ok (goInt ((n - i : Nat) : Int)) (w.drew.setRow g R1.toArray) := fun ty dc sc => by
    have hm : Nat.min (n + 1 - i) (n - i) = n - i := by simp only [Nat.min_def]; split <;> omega
    have := run_copy_row (P := Try.prog) w.drew 78 78 ty 97 3 g ((i + 1) * 3) (n - i) dc ⟨g, i * 3, none⟩ (n + 1 - i) sc (cs.drop (i * 3)) cur 97 Try.underlying78 i0 hinf hz1 (by rw [hm, hdl])
      (fun j v hj => by
        rw [add_at']
        rw [List.getElem?_drop, ← ht, List.getElem?_take] at hj
        split at hj
        · exact cell_of_block (w := w.drew) hg (by simpa using hj)
        · cases hj) hg (by rw [hdl]; omega) (fun v hv => h1c v (List.mem_of_mem_drop hv))
    rw [hm, hdl, show (i + 1) * 3 = i * 3 + 3 from by omega, show i * 3 + 3 + (n - i) * 3 = i * 3 + 3 + (n * 3 - i * 3) from by omega, ← hR1] at this
    rw [show (i + 1) * 3 = i * 3 + 3 from by omega]
    exact this
  have g1 : (w.drew.setRow g R1.toArray).heap[g]? = some (.cells R1.toArray 97 (0, 0)) := setRow_heap w.drew g _ R1.toArray 97 (0, 0) hg
  have x1 : (w.drew.setRow g R1.toArray).heap[vb]? = some (.cells xv 97 (0, 0)) := (setRow_other w.drew g _ _ hne).trans hx
  have gr1 : w.grownBy (w.drew.setRow g R1.toArray) (some g) := grownBy_trans (grownBy_drew w _) (grownBy_setRow (w := w.drew) hg)
  generalize w.drew.setRow g R1.toArray = W1 at *
  have hcp2 : ∀ ty dc, (Builtin.copy_ #[78, 78] ty #[.slice (some ⟨g, i * 3, none⟩) (n + 1 - i) dc, .slice (some ⟨vb, 0, none⟩) 1 vc]).run Try.prog W1 = .ok (goInt 1) (W1.setRow g R2.toArray) := fun ty dc => by
    have hm : Nat.min 1 (n + 1 - i) = 1 := by simp only [Nat.min_def]; split <;> omega
    have := run_copy_row (P := Try.prog) W1 78 78 ty 97 3 g (i * 3) (n + 1 - i) dc ⟨vb, 0, none⟩ 1 vc xs R1.toArray 97 Try.underlying78 i0 hinf hz1 (by rw [hm, hxl]) (news_block x1 hxt) g1 (by rw [hxl]; simp; omega) h1
    rw [hm, hxl] at this
    simp only at this
    rw [← hR2] at this
    exact this
  have HG2 : Hid ((W1.setRow g R2.toArray).ownsRow base 97 3 (.slice (some ⟨g, 0, none⟩) (n + 1) cap) (n + 1) (cs.take (i * 3) ++ xs ++ cs.drop (i * 3))) :=
    ⟨by simp [hxl, hcsl]; omega, .inr ⟨g, cap, R2.toArray, rfl, hbg, setRow_heap W1 g _ R2.toArray 97 (0, 0) g1, hroom, hcm, s2, t2⟩⟩
  have HGR : Hid (w.grownBy (W1.setRow g R2.toArray) (some g)) := grownBy_trans gr1 (grownBy_setRow g1)
  clear hR1 hR2 t2 s2 l1 g1 x1 gr1 hcl hdl hcsl ht h1c h1 hx hxt hxs hxl hg hcs
  have hcn : ¬ (cap = i + 1) := by omega
  have hcn' : ¬ (cap = i) := by omega
  go_enter Try.func83, Try.ntmps83
  go_wp2_with (simp only [hov])
  refine wp_region_path [(0, 0), (1, 0), (2, 0), (3, 2), (4, 2), (5, 0), (6, 0), (7, 2), (8, 3)] (by kernel_rfl) (by kernel_rfl) (by kernel_rfl) (by kernel_rfl) ?_
  simp only [parts, headed, headed2, List.getElem?_toArray, List.getElem?_cons_zero, List.getElem?_cons_succ]
  refine parts_step fun K HK => ?_
  go_wp2_with fail
  refine HK.out _ _ (Grow.refl _) ?_
  clear HK K
  refine parts_step2 (fun hw => by first | (cases hw; done) | (apply looks_run; intro w'; go_simp; try first | rfl | rw [if_neg (by omega)] | rw [if_pos (by omega)])) fun K HK => ?_
  go_wp2_with fail
  refine HK.out _ _ (Grow.refl _) ?_
  clear HK K
  refine parts_step2 (fun hw => by first | (cases hw; done) | (apply looks_run; intro w'; go_simp; try first | rfl | rw [if_neg (by omega)] | rw [if_pos (by omega)])) fun K HK => ?_
  go_wp2_with fail
  refine HK.out _ _ (Grow.refl _) ?_
  clear HK K
  refine parts_cut2 (fun hw => by first | (cases hw; done) | (apply looks_run; intro w'; go_simp; try first | rfl | rw [if_neg (by omega)] | rw [if_pos (by omega)])) fun K HK => ?_
  go_wp2_with (at_builtin; go_must (refine wpList_copy_run _ (by rfl) _ _ 78 78 (by rfl) _ _ (by rfl) (by rfl) (hcp1 _ _ _) ?_))
  refine HK.out _ _ ?_
  clear HK K
  refine parts_step fun K HK => ?_
  go_wp2_with fail
  refine HK.out _ _ (Grow.refl _) ?_
  clear HK K
  refine parts_done ?_
  go_wp2_with (at_builtin; refine wpList_copy_run _ (by rfl) _ _ 78 78 (by rfl) _ _ (by rfl) (by rfl) (hcp2 _ _) ?_)
  go_ret
  exact ⟨rfl, HG2.out, HGR.out⟩

set_option maxHeartbeats 4000000 in
set_option maxRecDepth 100000 in
theorem insert_grow (base g n cap i : Nat) (cur : Array Value) (cs xs : List Value) (vb vc : Nat) (xv : Array Value) (w : World) (hg : w.heap[g]? = some (.cells cur 97 (0, 0))) (hb : base ≤ w.heap.size) (hcm : cap ≤ maxLen) (hcs : cur.size = cap * 3) (ht : cur.toList.take (n * 3) = cs) (hnc : n ≤ cap) (hroom : cap < n + 1) (hi : i < n)
    (hx : w.heap[vb]? = some (.cells xv 97 (0, 0))) (hxl : xs.length = 3) (hxt : xv.toList.take 3 = xs) (hxs : xv.size = vc * 3) (hvc : 1 ≤ vc) (h1 : ∀ u ∈ xs, u.oneCell' = true) (h1c : ∀ u ∈ cs, u.oneCell' = true) (hn : n ≤ 1000) :
    Calls Try.prog 83 #[.slice (some ⟨g, 0, none⟩) n cap, .int .i64 i, .slice (some ⟨vb, 0, none⟩) 1 vc] w fun e w' => ∃ cap', e = .returned (.slice (some ⟨w.heap.size, 0, none⟩) (n + 1) cap') ∧ w'.ownsRow base 97 3 (.slice (some ⟨w.heap.size, 0, none⟩) (n + 1) cap') (n + 1) (cs.take (i * 3) ++ xs ++ cs.drop (i * 3)) ∧ Grow w w' := by
  obtain ⟨i0, hinf, hz0, hz1, hz2⟩ := info_parts infoT
  have hlt := lt_of_block hg
  have hltv := lt_of_block hx
  have hcm' : cap ≤ 9223372036854775807 := by unfold maxLen at hcm; omega
  have hcsl : cs.length = n * 3 := by rw [← ht, List.length_take]; simp; omega
  have hnq : ¬ ((i : Int) = (n : Int)) := by omega
  have hnq' : decide ((i : Int) = (n : Int)) = false := by simpa using hnq
  have hroom' : decide ((cap : Int) < (n : Int) + 1) = true := by simp; omega
  have hsrc : ∀ j v, cs[j]? = some v → w.cell? ⟨g, j, none⟩ = some v := fun j v hj => by
    rw [← ht, List.getElem?_take] at hj
    split at hj
    · exact cell_of_block hg (by simpa using hj)
    · cases hj
  obtain ⟨G, hG⟩ : ∃ G, G = grownCap w (n + 1) cap 97 := ⟨_, rfl⟩
  have hGn : n + 1 ≤ G := by rw [hG]; exact grownCap_ge w _ _ _
  have hGm : G ≤ maxLen := by rw [hG]; exact grownCap_le_maxLen w (n + 1) cap _ (by unfold maxLen; omega)
  have hG63 : G ≤ 9223372036854775807 := by unfold maxLen at hGm; omega
  obtain ⟨R0, hR0⟩ : ∃ R0 : Array Value, R0 = (cs.take (i * 3)).toArray ++ Builtin.zeroCells (Value.agg #[.int .i64 0, .int .i64 0, .slice none 0 0]).cells (n + 1 - i) ++ Builtin.zeroCells (Value.agg #[.int .i64 0, .int .i64 0, .slice none 0 0]).cells (G - (n + 1)) := ⟨_, rfl⟩
  have hrz : ∀ ty, (Builtin.append_ #[78, 3] ty #[.slice (some ⟨g, 0, none⟩) i cap, .int .i64 ((n : Int) + 1 - (i : Int))]).run Try.prog w = .ok (.slice (some ⟨w.heap.size, 0, none⟩) (n + 1) G) (w.drew.alloc (.cells R0 97)) := fun ty => by
    have hold : (Builtin.firstCells i0.size i (.slice (some ⟨g, 0, none⟩) i cap)).run Try.prog w.drew = .ok (cs.take (i * 3)).toArray w.drew := by
      rw [hz1]
      exact run_firstCells_some w.drew 3 i ⟨g, 0, none⟩ i cap (cs.take (i * 3)) (by rw [List.length_take]; omega) (fun j v hj => by
        rw [add_at', Nat.zero_add]
        rw [List.getElem?_take] at hj
        split at hj
        · exact hsrc j v hj
        · cases hj)
    have h := Lib.run_append_grow_zeros w 78 3 ty 97 i0 _ .i64 .i64 Try.underlying78 Try.underlying3 hinf hz0 (some ⟨g, 0, none⟩) i cap (cs.take (i * 3)) hold (n + 1 - i) (by omega) (by omega) (by omega) (by omega) (by rw [hz2]; omega) (growslice_fits_wide (by omega) (by rw [hz2]; omega))
    rw [show i + (n + 1 - i) = n + 1 from by omega, ← hG, ← hR0] at h
    rw [show (n : Int) + 1 - (i : Int) = ((n + 1 - i : Nat) : Int) from by omega]
    exact h
  have hzc : (Value.agg #[.int .i64 0, .int .i64 0, .slice none 0 0]).cells.size = 3 := rfl
  have s0 : R0.toList.length = G * 3 := by
    rw [hR0]
    simp [size_zeroCells, hzc, hcsl]
    omega
  have t0 : R0.toList.take (i * 3) = cs.take (i * 3) := by
    rw [hR0]
    simp only [Array.toList_append, List.append_assoc]
    exact List.take_left' (by simp [hcsl]; omega)
  have g0 : (w.drew.alloc (.cells R0 97)).heap[w.heap.size]? = some (.cells R0 97 (0, 0)) := heap_alloc_new w.drew _
  have gr0 : Grow w (w.drew.alloc (.cells R0 97)) := (Grow.refl w).drew.alloc _
  generalize w.drew.alloc (.cells R0 97) = W0 at *
  have x0 := grow_block gr0 hx
  obtain ⟨R1, hR1⟩ : ∃ R1 : List Value, R1 = R0.toList.take (i * 3) ++ xs ++ R0.toList.drop (i * 3 + 3) := ⟨_, rfl⟩
  obtain ⟨R2, hR2⟩ : ∃ R2 : List Value, R2 = R1.take (i * 3 + 3) ++ cs.drop (i * 3) ++ R1.drop (i * 3 + 3 + (n * 3 - i * 3)) := ⟨_, rfl⟩
  have t2 : R2.take ((n + 1) * 3) = cs.take (i * 3) ++ xs ++ cs.drop (i * 3) := by
    rw [hR2, hR1, show (n + 1) * 3 = n * 3 + 3 from by omega]
    exact row_new (by omega) hxl t0 hcsl
  have l1 : R1.length = G * 3 := by rw [hR1]; simp [hxl]; simp at s0; omega
  have l2 : R2.length = G * 3 := by rw [hR2]; simp [hcsl, l1]; omega
  have hdl : (cs.drop (i * 3)).length = (n - i) * 3 := by rw [List.length_drop]; omega
  have hcp1 : ∀ ty dc, (Builtin.copy_ #[78, 78] ty #[.slice (some ⟨w.heap.size, i * 3, none⟩) (n + 1 - i) dc, .slice (some ⟨vb, 0, none⟩) 1 vc]).run Try.prog W0 = .ok (goInt 1) (W0.setRow w.heap.size R1.toArray) := fun ty dc => by
    have hm : Nat.min 1 (n + 1 - i) = 1 := by simp only [Nat.min_def]; split <;> omega
    have := run_copy_row (P := Try.prog) W0 78 78 ty 97 3 w.heap.size (i * 3) (n + 1 - i) dc ⟨vb, 0, none⟩ 1 vc xs R0 97 Try.underlying78 i0 hinf hz1 (by rw [hm, hxl]) (news_block x0 hxt) g0 (by rw [hxl]; simp at s0; omega) h1
    rw [hm, hxl, ← hR1] at this
    exact this
  have g1 : (W0.setRow w.heap.size R1.toArray).heap[w.heap.size]? = some (.cells R1.toArray 97 (0, 0)) := setRow_heap W0 w.heap.size _ R1.toArray 97 (0, 0) g0
  have gr1 : Grow w (W0.setRow w.heap.size R1.toArray) := Below.trans gr0 ⟨rfl, rfl, rfl, by simp [World.setRow], fun k hk => setRow_other _ _ _ _ (by omega)⟩
  generalize W0.setRow w.heap.size R1.toArray = W1 at *
  have hcp2 : ∀ ty dc sc, (Builtin.copy_ #[78, 78] ty #[.slice (some ⟨w.heap.size, (i + 1) * 3, none⟩) (n - i) dc, .slice (some ⟨g, i * 3, none⟩) (n - i) sc]).run Try.prog W1.drew = .ok (goInt ((n - i : Nat) : Int)) (W1.drew.setRow w.heap.size R2.toArray) := fun ty dc sc => by
    have hm : Nat.min (n - i) (n - i) = n - i := Nat.min_self _
    have := run_copy_row (P := Try.prog) W1.drew 78 78 ty 97 3 w.heap.size ((i + 1) * 3) (n - i) dc ⟨g, i * 3, none⟩ (n - i) sc (cs.drop (i * 3)) R1.toArray 97 Try.underlying78 i0 hinf hz1 (by rw [hm, hdl])
      (fun j v hj => by
        rw [add_at']
        rw [List.getElem?_drop] at hj
        exact cell_grow gr1.drew (hsrc _ v hj)) g1 (by rw [hdl]; simp; omega) (fun v hv => h1c v (List.mem_of_mem_drop hv))
    rw [hm, hdl, show (i + 1) * 3 = i * 3 + 3 from by omega, show i * 3 + 3 + (n - i) * 3 = i * 3 + 3 + (n * 3 - i * 3) from by omega] at this
    simp only at this
    rw [← hR2] at this
    rw [show (i + 1) * 3 = i * 3 + 3 from by omega]
    exact this
  have HG2 : Hid ((W1.drew.setRow w.heap.size R2.toArray).ownsRow base 97 3 (.slice (some ⟨w.heap.size, 0, none⟩) (n + 1) G) (n + 1) (cs.take (i * 3) ++ xs ++ cs.drop (i * 3))) :=
    ⟨by simp [hxl, hcsl]; omega, .inr ⟨w.heap.size, G, R2.toArray, rfl, hb, setRow_heap W1.drew w.heap.size _ R2.toArray 97 (0, 0) g1, hGn, hGm, by simpa using l2, t2⟩⟩
  have HGR : Hid (Grow w (W1.drew.setRow w.heap.size R2.toArray)) := Below.trans gr1.drew ⟨rfl, rfl, rfl, by simp [World.setRow], fun k hk => setRow_other _ _ _ _ (by omega)⟩
  generalize W1.drew.setRow w.heap.size R2.toArray = W2 at *
  clear hR0 hR1 hR2 t0 t2 s0 l1 l2 g0 x0 gr0 g1 gr1 hdl hcsl ht h1c h1 hx hxt hxs hxl hg hcs hsrc hG hb hGm
  have hcn : ¬ (G = i + 1) := by omega
  have hcn' : ¬ (G = i) := by omega
  have hcn2 : ¬ (cap = i) := by omega
  go_enter Try.func83, Try.ntmps83
  go_wp2_with (first
    | (at_builtin; go_must (refine wpList_append_ran _ (by rfl) _ _ 78 3 (by rfl) _ _ (by rfl) (by rfl) (hrz _) ?_))
    | (at_builtin; go_must (refine wpList_copy_run _ (by rfl) _ _ 78 78 (by rfl) _ _ (by rfl) (by rfl) (hcp1 _ _) ?_)))
  refine wp_region_path [(0, 0), (1, 0), (2, 0), (3, 2), (4, 2), (5, 0), (6, 0), (7, 2), (8, 3)] (by kernel_rfl) (by kernel_rfl) (by kernel_rfl) (by kernel_rfl) ?_
  simp only [parts, headed, headed2, List.getElem?_toArray, List.getElem?_cons_zero, List.getElem?_cons_succ]
  refine parts_step fun K HK => ?_
  go_wp2_with fail
  refine HK.out _ _ (Grow.refl _) ?_
  clear HK K
  refine parts_step2 (fun hw => by first | (cases hw; done) | (apply looks_run; intro w'; go_simp; try first | rfl | rw [if_neg (by omega)] | rw [if_pos (by omega)])) fun K HK => ?_
  go_wp2_with fail
  refine HK.out _ _ (Grow.refl _) ?_
  clear HK K
  refine parts_step2 (fun hw => by first | (cases hw; done) | (apply looks_run; intro w'; go_simp; try first | rfl | rw [if_neg (by omega)] | rw [if_pos (by omega)])) fun K HK => ?_
  go_wp2_with fail
  refine HK.out _ _ (Grow.refl _) ?_
  clear HK K
  refine parts_cut2 (fun hw => by first | (cases hw; done) | (apply looks_run; intro w'; go_simp; try first | rfl | rw [if_neg (by omega)] | rw [if_pos (by omega)])) fun K HK => ?_
  go_wp2_with (at_builtin; go_must (refine wpList_copy_run _ (by rfl) _ _ 78 78 (by rfl) _ _ (by rfl) (by rfl) (hcp2 _ _ _) ?_))
  refine HK.out _ _ ?_
  clear HK K
  refine parts_step fun K HK => ?_
  go_wp2_with fail
  refine HK.out _ _ (Grow.refl _) ?_
  clear HK K
  refine parts_done ?_
  go_wp2
  go_ret
  exact ⟨G, rfl, HG2.out, HGR.out⟩

/-- slices.Insert of one wait into a row of one's own. -/
theorem insert_any (base : Nat) (v : Value) (n i : Nat) (cs xs : List Value) (vb vc : Nat) (xv : Array Value) (w : World) (hown : w.ownsRow base 97 3 v n cs) (hx : w.heap[vb]? = some (.cells xv 97 (0, 0))) (hne : v.ownBlock ≠ some vb) (hxl : xs.length = 3) (hxt : xv.toList.take 3 = xs) (hxs : xv.size = vc * 3) (hvc : 1 ≤ vc) (h1 : ∀ u ∈ xs, u.oneCell' = true) (h1c : ∀ u ∈ cs, u.oneCell' = true) (hn : n ≤ 1000) (hi : i ≤ n) (hb : base ≤ w.heap.size) :
    Calls Try.prog 83 #[v, .int .i64 i, .slice (some ⟨vb, 0, none⟩) 1 vc] w fun e w' => ∃ g cap, e = .returned (.slice (some ⟨g, 0, none⟩) (n + 1) cap) ∧ w'.ownsRow base 97 3 (.slice (some ⟨g, 0, none⟩) (n + 1) cap) (n + 1) (cs.take (i * 3) ++ xs ++ cs.drop (i * 3)) ∧ w.grownBy w' v.ownBlock ∧ (v.ownBlock = some g ∨ w.heap.size ≤ g) := by
  by_cases e : i = n
  · subst e
    refine (insert_end base v i cs xs vb vc xv w hown hx hxl hxt hxs hvc h1 hn hb).mono ?_
    rintro e w' ⟨g, cap, he, ho, hgr, hat⟩
    refine ⟨g, cap, he, ?_, hgr, hat.imp id fun h => by omega⟩
    have hl := hown.1
    rw [List.take_of_length_le (by omega), List.drop_of_length_le (by omega), List.append_nil]
    exact ho
  · rcases hown.2 with ⟨rfl, rfl⟩ | ⟨g, cap, cur, rfl, hbg, hg, hle, hcm, hcs, ht⟩
    · omega
    · by_cases hroom : n + 1 ≤ cap
      · refine (insert_room base g n cap i cur cs xs vb vc xv w hg hbg hcm hcs ht hroom (by omega) hx (fun e => hne (by rw [e]; rfl)) hxl hxt hxs hvc h1 h1c hn).mono ?_
        rintro e w' ⟨he, ho, hgr⟩
        exact ⟨g, cap, he, ho, hgr, .inl rfl⟩
      · refine (insert_grow base g n cap i cur cs xs vb vc xv w hg hb hcm hcs ht hle (by omega) (by omega) hx hxl hxt hxs hvc h1 h1c hn).mono ?_
        rintro e w' ⟨cap', he, ho, hgr⟩
        exact ⟨w.heap.size, cap', he, ho, grownBy_of_grow hgr _, .inr (Nat.le_refl _)⟩
end Go.Proofs.Ytlioojekjnigiac.IT
/- A player's turns. -/
namespace Go.Proofs.Ytlioojekjnigiac.AM
set_option linter.unusedVariables false
set_option linter.unusedSimpArgs false

structure Turn where
  id : Id
  needs : List Id
def Turn.enc (t : Turn) : List D := [.int .i64 t.id.r, .int .i64 t.id.n, .list (t.needs.map Id.enc)]
def Turn.arg (t : Turn) : AVal := .agg [.dat (.int .i64 t.id.r), .dat (.int .i64 t.id.n), .dat (.list (t.needs.map Id.enc))]
def putAt {α : Type} (l : List α) (i : Nat) (x : α) : List α := l.take i ++ x :: l.drop i
set_option maxHeartbeats 0 in
theorem insertTurn_end (es : List (List D)) (x : List D) (hs : es.length ≤ 1000) (hx : x.length = 3) : ECall Try.prog 83 [.row 0, dInt es.length, .row 1] [(0, .rows 97 3 es true), (1, .rows 97 3 [x] true)] 2 (.row 2) [(0, .dead), (1, .dead), (2, .rows 97 3 (es ++ [x]) true)] 1 := by
  refine acall_intro tab_all tab_mixed Try.func83 (by kernel_rfl) Try.ntmps83 rfl ?_
  conv => whnf
  refine .mk es.length es.length rfl rfl (Nat.le_refl _) (Nat.le_refl _) ?_
  conv => whnf
  repeat (first | (refine Conf.mk (by kernel_rfl) ?_; conv => whnf) | (refine SeqOk.go ?_; conv => whnf))
  refine BoolCase.no rfl ?_
  conv => whnf
  repeat (first | (refine Conf.mk (by kernel_rfl) ?_; conv => whnf) | (refine SeqOk.go ?_; conv => whnf))
  refine BoolCase.yes (beq_self_eq_true _) ?_
  conv => whnf
  repeat (first | (refine Conf.mk (by kernel_rfl) ?_; conv => whnf) | (refine SeqOk.go ?_; conv => whnf))
  refine ⟨by simpa using hx, by simp; omega, ?_⟩
  conv => whnf
  repeat (first | (refine Conf.mk (by kernel_rfl) ?_; conv => whnf) | (refine SeqOk.go ?_; conv => whnf))
  exact .mk [] [0, 1, 2] (.row 2) [(0, .dead), (1, .dead), (2, .rows 97 3 (es ++ [x]) true)] rfl (.same rfl) ⟨trivial, trivial, ⟨rfl, rfl, rfl, rfl⟩, trivial⟩ rfl rfl ⟨rfl, rfl, rfl⟩
theorem insertTurn_ok (l : List Turn) (t : Turn) (i : Nat) (hi : i ≤ l.length) (hs : l.length ≤ 1000) : ECall Try.prog 83 [.row 0, dInt i, .row 1] [(0, .rows 97 3 (l.map Turn.enc) true), (1, .rows 97 3 [t.enc] true)] 2 (.row 2) [(0, .dead), (1, .dead), (2, .rows 97 3 ((putAt l i t).map Turn.enc) true)] 1 := by
  have e : (putAt l i t).map Turn.enc = (l.map Turn.enc).take i ++ t.enc :: (l.map Turn.enc).drop i := by
    unfold putAt
    rw [List.map_append, List.map_cons, map_take', map_drop']
  rw [e]
  by_cases h : i = l.length
  · have := insertTurn_end (l.map Turn.enc) t.enc (by simpa using hs) rfl
    rw [h, List.take_of_length_le (by simp), List.drop_of_length_le (by simp)]
    rw [List.length_map] at this
    exact this
  · exact acall_insert (T := 97) (k := 3) (by decide) (by kernel_rfl) (l.map Turn.enc) t.enc i (by simp; omega) (by simpa using hs) fun n i v cs xs vb vc xv w h1 h2 h3 h4 h5 h6 h7 h8 h9 h10 h11 => IT.insert_any 0 v n i cs xs vb vc xv w h1 h2 h3 h4 h5 h6 h7 h8 h9 h10 h11 (Nat.zero_le _)
/-- Where a turn goes. -/
def placeOf' (ts : List Turn) (x : Id) : Nat := match ts with
  | [] => 0
  | t :: u => if t.id.less x = true then placeOf' u x + 1 else 0
theorem placeOf_cons (t : Turn) (u : List Turn) (x : Id) : placeOf' (t :: u) x = if t.id.less x = true then placeOf' u x + 1 else 0 := rfl
theorem placeOf_le (x : Id) : ∀ ts : List Turn, placeOf' ts x ≤ ts.length
  | [] => Nat.le_refl _
  | t :: u => by
    unfold placeOf'
    have := placeOf_le x u
    split <;> simp <;> omega
theorem placeOf_lt {x : Id} : ∀ {ts : List Turn} {i : Nat} (hi : i < ts.length), i < placeOf' ts x → ts[i].id.less x = true
  | [], i, hi, _ => by simp at hi
  | t :: u, i, hi, h => by
    unfold placeOf' at h
    split at h
    · rename_i hl
      match i with
      | 0 => exact hl
      | i + 1 => exact placeOf_lt (ts := u) (by simpa using hi) (by omega)
    · omega
theorem placeOf_at {x : Id} : ∀ {ts : List Turn} (hi : placeOf' ts x < ts.length), (ts[placeOf' ts x]).id.less x = false
  | [], hi => by simp at hi
  | t :: u, hi => by
    by_cases hl : t.id.less x = true
    · have e : placeOf' (t :: u) x = placeOf' u x + 1 := by rw [placeOf_cons, if_pos hl]
      have hi' : placeOf' u x < u.length := by rw [e] at hi; simpa using hi
      have := placeOf_at (ts := u) hi'
      simp only [e, List.getElem_cons_succ]
      exact this
    · have e : placeOf' (t :: u) x = 0 := by rw [placeOf_cons, if_neg hl]
      simp only [e, List.getElem_cons_zero]
      simpa using hl
def insT (ts : List Turn) (t : Turn) : List Turn := putAt ts (placeOf' ts t.id) t
set_option maxHeartbeats 0 in
theorem add_ok (c : Int) (ts : List Turn) (t : Turn) (hs : ts.length ≤ 1000) : ECall Try.prog 74 [.ptr 0 0, t.arg] [(0, .vars 80 3 [dInt c, .nil, .row 1] true), (1, .rows 97 3 (ts.map Turn.enc) true)] 2 (.tup []) [(0, .vars 80 3 [dInt c, .nil, .row 2] true), (1, .dead), (2, .rows 97 3 ((insT ts t).map Turn.enc) true)] 1 := by
  have hple := placeOf_le t.id ts
  refine acall_cut tab_all tab_mixed Try.func74 (by kernel_rfl) Try.ntmps74 rfl ?_
  conv => whnf
  conv => whnf
  refine SeqOk.cut' ⟨[(0, .ptr 0 0), (4, dInt (placeOf' ts t.id)), (3, .ptr 2 0)], 3, [(0, .vars 80 3 [dInt c, .nil, .row 1] true), (1, .rows 97 3 (ts.map Turn.enc) true), (2, .vars 97 3 [.dat (.int .i64 t.id.r), .dat (.int .i64 t.id.n), .dat (.list (t.needs.map Id.enc))] true)]⟩ ?_ ?_
  · conv => whnf
    refine LoopOk.mk (fun m s => ∃ i, i + m = placeOf' ts t.id ∧ s = ⟨[(0, .ptr 0 0), (4, dInt i), (3, .ptr 2 0)], 3, [(0, .vars 80 3 [dInt c, .nil, .row 1] true), (1, .rows 97 3 (ts.map Turn.enc) true), (2, .vars 97 3 [.dat (.int .i64 t.id.r), .dat (.int .i64 t.id.n), .dat (.list (t.needs.map Id.enc))] true)]⟩) (placeOf' ts t.id) (Into.mono (Into.to [0, 1, 2] [(0, .ptr 0 0), (4, dInt (0 : Nat)), (3, .ptr 2 0)] [(0, .vars 80 3 [dInt c, .nil, .row 1] true), (1, .rows 97 3 (ts.map Turn.enc) true), (2, .vars 97 3 [.dat (.int .i64 t.id.r), .dat (.int .i64 t.id.n), .dat (.list (t.needs.map Id.enc))] true)] (by repeat (first | exact trivial | refine ⟨.same (congrArg dInt (wrap_up (by omega))), ?_⟩ | refine ⟨.same rfl, ?_⟩ | refine ⟨.any _, ?_⟩)) ⟨⟨rfl, rfl, rfl, .same rfl, rfl, .same rfl, rfl, .same rfl, rfl, trivial⟩, ⟨rfl, rfl, rfl, rfl⟩, ⟨rfl, rfl, rfl, .same rfl, rfl, .same rfl, rfl, .same rfl, rfl, trivial⟩, trivial⟩ rfl rfl) fun s' h => ⟨0, by omega, h⟩) ?_
    rintro m s ⟨i, hi, rfl⟩
    conv => whnf
    repeat (first | (refine Conf.mk (by kernel_rfl) ?_; conv => whnf) | (refine SeqOk.go ?_; conv => whnf))
    refine ⟨fun h => ?_, fun h => ?_⟩
    · have hi' := lt_of_len h
      conv => whnf
      repeat (first | (refine Conf.mk (by kernel_rfl) ?_; conv => whnf) | (refine SeqOk.go ?_; conv => whnf))
      refine AtIdx.ofMap hi' rfl ?_
      conv => whnf
      repeat (first | (refine Conf.mk (by kernel_rfl) ?_; conv => whnf) | (refine SeqOk.go ?_; conv => whnf))
      refine .mk _ (by rw [List.getElem?_map, List.getElem?_eq_getElem hi']; rfl) ?_
      conv => whnf
      repeat (first | (refine Conf.mk (by kernel_rfl) ?_; conv => whnf) | (refine SeqOk.go ?_; conv => whnf))
      refine .look _ _ (less_ok ts[i].id t.id) rfl rfl ?_
      conv => whnf
      repeat (first | (refine Conf.mk (by kernel_rfl) ?_; conv => whnf) | (refine SeqOk.go ?_; conv => whnf))
      by_cases hlt : i < placeOf' ts t.id
      · refine BoolCase.yes (placeOf_lt hi' hlt) ?_
        conv => whnf
        repeat (first | (refine Conf.mk (by kernel_rfl) ?_; conv => whnf) | (refine SeqOk.go ?_; conv => whnf))
        exact Into.mono (Into.to [0, 1, 2] [(0, .ptr 0 0), (4, dInt (i + 1 : Nat)), (3, .ptr 2 0)] [(0, .vars 80 3 [dInt c, .nil, .row 1] true), (1, .rows 97 3 (ts.map Turn.enc) true), (2, .vars 97 3 [.dat (.int .i64 t.id.r), .dat (.int .i64 t.id.n), .dat (.list (t.needs.map Id.enc))] true)] (by repeat (first | exact trivial | refine ⟨.same (congrArg dInt (wrap_up (by omega))), ?_⟩ | refine ⟨.same rfl, ?_⟩ | refine ⟨.any _, ?_⟩)) ⟨⟨rfl, rfl, rfl, .same rfl, rfl, .same rfl, rfl, .same rfl, rfl, trivial⟩, ⟨rfl, rfl, rfl, rfl⟩, ⟨rfl, rfl, rfl, .same rfl, rfl, .same rfl, rfl, .same rfl, rfl, trivial⟩, trivial⟩ rfl rfl) fun s' h => ⟨m - 1, by omega, i + 1, by omega, h⟩
      · have hie : i = placeOf' ts t.id := by omega
        subst hie
        refine BoolCase.no (placeOf_at hi') ?_
        conv => whnf
        repeat (first | (refine Conf.mk (by kernel_rfl) ?_; conv => whnf) | (refine SeqOk.go ?_; conv => whnf))
        exact Into.to [0, 1, 2] [(0, .ptr 0 0), (4, dInt (placeOf' ts t.id)), (3, .ptr 2 0)] [(0, .vars 80 3 [dInt c, .nil, .row 1] true), (1, .rows 97 3 (ts.map Turn.enc) true), (2, .vars 97 3 [.dat (.int .i64 t.id.r), .dat (.int .i64 t.id.n), .dat (.list (t.needs.map Id.enc))] true)] (by repeat (first | exact trivial | refine ⟨.same (congrArg dInt (wrap_up (by omega))), ?_⟩ | refine ⟨.same rfl, ?_⟩ | refine ⟨.any _, ?_⟩)) ⟨⟨rfl, rfl, rfl, .same rfl, rfl, .same rfl, rfl, .same rfl, rfl, trivial⟩, ⟨rfl, rfl, rfl, rfl⟩, ⟨rfl, rfl, rfl, .same rfl, rfl, .same rfl, rfl, .same rfl, rfl, trivial⟩, trivial⟩ rfl rfl
    · have hie : i = placeOf' ts t.id := by have := ge_of_len h; omega
      subst hie
      conv => whnf
      repeat (first | (refine Conf.mk (by kernel_rfl) ?_; conv => whnf) | (refine SeqOk.go ?_; conv => whnf))
      exact Into.to [0, 1, 2] [(0, .ptr 0 0), (4, dInt (placeOf' ts t.id)), (3, .ptr 2 0)] [(0, .vars 80 3 [dInt c, .nil, .row 1] true), (1, .rows 97 3 (ts.map Turn.enc) true), (2, .vars 97 3 [.dat (.int .i64 t.id.r), .dat (.int .i64 t.id.n), .dat (.list (t.needs.map Id.enc))] true)] (by repeat (first | exact trivial | refine ⟨.same (congrArg dInt (wrap_up (by omega))), ?_⟩ | refine ⟨.same rfl, ?_⟩ | refine ⟨.any _, ?_⟩)) ⟨⟨rfl, rfl, rfl, .same rfl, rfl, .same rfl, rfl, .same rfl, rfl, trivial⟩, ⟨rfl, rfl, rfl, rfl⟩, ⟨rfl, rfl, rfl, .same rfl, rfl, .same rfl, rfl, .same rfl, rfl, trivial⟩, trivial⟩ rfl rfl
  · conv => whnf
    repeat (first | (refine Conf.mk (by kernel_rfl) ?_; conv => whnf) | (refine SeqOk.go ?_; conv => whnf))
    refine .eff [1, 3] _ _ _ _ 1 (insertTurn_ok ts t (placeOf' ts t.id) hple hs) rfl rfl rfl rfl rfl ?_
    conv => whnf
    repeat (first | (refine Conf.mk (by kernel_rfl) ?_; conv => whnf) | (refine SeqOk.go ?_; conv => whnf))
    exact .mk [] [0, 1, 4] (.tup []) [(0, .vars 80 3 [dInt c, .nil, .row 2] true), (1, .dead), (2, .rows 97 3 ((insT ts t).map Turn.enc) true)] rfl (.same rfl) ⟨⟨rfl, rfl, rfl, .same rfl, rfl, .same rfl, rfl, .same rfl, rfl, trivial⟩, trivial, ⟨rfl, rfl, rfl, rfl⟩, trivial⟩ rfl rfl ⟨rfl, rfl, rfl⟩
end Go.Proofs.Ytlioojekjnigiac.AM
/- A player: what it needs, who may be next, and its beginning. -/
namespace Go.Proofs.Ytlioojekjnigiac.AM
set_option linter.unusedVariables false
set_option linter.unusedSimpArgs false
/-- What is in the past of one and has one of some colors, as they stand. -/
def needsL (l : List Entry') (c : Int) (x : Id) : List Id := (l.filter fun e => bothOf e.colors c && (pastOfId l x).any (isId2 e.id)).map (·.id)
theorem needsL_all {l : List Entry'} (hr : Right l) {c : Int} (hc : 1 ≤ c ∧ c ≤ 7) (x : Id) (out : List Id) : (needsL l c x).all (hasId out) = (needs l c x).all (hasId out) := by
  have : ∀ y, y ∈ needsL l c x ↔ y ∈ needs l c x := fun y => by
    rw [mem_needs hr]
    unfold needsL
    simp only [List.mem_map, List.mem_filter, Bool.and_eq_true]
    constructor
    · rintro ⟨e, ⟨h1, h2, h3⟩, rfl⟩
      exact ⟨(mem_pastOfId hr).1 (any_isId2.1 h3), colored_iff.2 ⟨e, h1, rfl, by rw [← meets_bothOf (hr.colors h1) hc]; exact h2⟩⟩
    · rintro ⟨h1, h2⟩
      obtain ⟨e, he, rfl, hm⟩ := colored_iff.1 h2
      exact ⟨e, ⟨he, by rw [meets_bothOf (hr.colors he) hc]; exact hm, any_isId2.2 ((mem_pastOfId hr).2 h1)⟩, rfl⟩
  rw [Bool.eq_iff_iff, List.all_eq_true, List.all_eq_true]
  exact ⟨fun h y hy => h y ((this y).2 hy), fun h y hy => h y ((this y).1 hy)⟩
theorem needsL_len (l : List Entry') (c : Int) (x : Id) : (needsL l c x).length ≤ l.length := by
  unfold needsL
  rw [List.length_map]
  exact List.length_filter_le _ _
set_option maxHeartbeats 0 in
theorem needsOf_ok {l : List Entry'} (hr : Right l) (c : Int) (ts : List Turn) (x : Id) (hx : ∃ e ∈ l, e.id = x) : ECall Try.prog 75 [.ptr 0 0, .dat (.list (l.map Entry'.enc)), x.arg] [(0, .vars 80 3 [dInt c, .nil, .row 1] true), (1, .rows 97 3 (ts.map Turn.enc) true)] 2 (.dat (.list ((needsL l c x).map Id.enc))) [(0, .vars 80 3 [dInt c, .nil, .row 1] true), (1, .rows 97 3 (ts.map Turn.enc) true)] 0 := by
  have hlen := hr.len
  have hpl := pastOfId_len hr x
  refine acall_cut tab_all tab_mixed Try.func75 (by kernel_rfl) Try.ntmps75 rfl ?_
  conv => whnf
  conv => whnf
  repeat (first | (refine Conf.mk (by kernel_rfl) ?_; conv => whnf) | (refine SeqOk.go ?_; conv => whnf))
  refine .data _ _ (orderPast_in hr hx) rfl ?_
  conv => whnf
  repeat (first | (refine Conf.mk (by kernel_rfl) ?_; conv => whnf) | (refine SeqOk.go ?_; conv => whnf))
  refine LoopOk.hide fun Q1 hQ1 => ?_
  refine LoopOk.mk (fun m s => ∃ k, k + m = l.length ∧ s = ⟨[(16, dInt k), (15, dInt (l.map Entry'.enc).length), (14, .dat (.list (l.map Entry'.enc))), (0, .ptr 0 0), (1, .dat (.list (l.map Entry'.enc))), (7, .dat (.list ((pastOfId l x).map Id.enc))), (8, .row 2)], 3, [(0, .vars 80 3 [dInt c, .nil, .row 1] true), (1, .rows 97 3 (ts.map Turn.enc) true), (2, .rows 25 2 ((((l.take k).filter fun e => bothOf e.colors c && (pastOfId l x).any (isId2 e.id)).map (·.id)).map Id.enc) true)]⟩) l.length ((Into.row 8 25 2 rfl).trans fun s' hs' => by
    subst hs'
    exact Into.mono (Into.to [0, 1, 3] [(16, dInt (0 : Nat)), (15, dInt (l.map Entry'.enc).length), (14, .dat (.list (l.map Entry'.enc))), (0, .ptr 0 0), (1, .dat (.list (l.map Entry'.enc))), (7, .dat (.list ((pastOfId l x).map Id.enc))), (8, .row 2)] [(0, .vars 80 3 [dInt c, .nil, .row 1] true), (1, .rows 97 3 (ts.map Turn.enc) true), (2, .rows 25 2 ((((l.take 0).filter fun e => bothOf e.colors c && (pastOfId l x).any (isId2 e.id)).map (·.id)).map Id.enc) true)] (by repeat (first | exact trivial | refine ⟨.same (congrArg dInt (wrap_up (by omega))), ?_⟩ | refine ⟨.same rfl, ?_⟩ | refine ⟨.any _, ?_⟩)) ⟨⟨rfl, rfl, rfl, .same rfl, rfl, .same rfl, rfl, .same rfl, rfl, trivial⟩, ⟨rfl, rfl, rfl, rfl⟩, ⟨rfl, rfl, rfl, rfl⟩, trivial⟩ rfl rfl) fun s' h => ⟨0, by omega, h⟩) ?_
  rintro m s ⟨k, hk, rfl⟩
  conv => whnf
  repeat (first | (refine Conf.mk (by kernel_rfl) ?_; conv => whnf) | (refine SeqOk.go ?_; conv => whnf))
  refine ⟨fun h => ?_, fun h => ?_⟩
  · have hk' := lt_of_len h
    have hst := filter_snoc (fun e : Entry' => bothOf e.colors c && (pastOfId l x).any (isId2 e.id)) (List.getElem?_eq_getElem hk')
    have hfl := List.length_filter_le (fun e : Entry' => bothOf e.colors c && (pastOfId l x).any (isId2 e.id)) (l.take k)
    rw [List.length_take] at hfl
    conv => whnf
    repeat (first | (refine Conf.mk (by kernel_rfl) ?_; conv => whnf) | (refine SeqOk.go ?_; conv => whnf))
    refine AtIdx.ofMap hk' rfl ?_
    conv => whnf
    repeat (first | (refine Conf.mk (by kernel_rfl) ?_; conv => whnf) | (refine SeqOk.go ?_; conv => whnf))
    refine ⟨fun h2 => ?_, fun h2 => ?_⟩
    · have h2 : bothOf l[k].colors c = true := h2
      conv => whnf
      repeat (first | (refine Conf.mk (by kernel_rfl) ?_; conv => whnf) | (refine SeqOk.go ?_; conv => whnf))
      refine .look _ _ (containsId_ok l[k].id (pastOfId l x) (by omega)) rfl rfl ?_
      conv => whnf
      repeat (first | (refine Conf.mk (by kernel_rfl) ?_; conv => whnf) | (refine SeqOk.go ?_; conv => whnf))
      refine ⟨fun h3 => ?_, fun h3 => ?_⟩
      · conv => whnf
        repeat (first | (refine Conf.mk (by kernel_rfl) ?_; conv => whnf) | (refine SeqOk.go ?_; conv => whnf))
        refine ⟨by simp [Id.enc], by simp; omega, ?_⟩
        conv => whnf
        repeat (first | (refine Conf.mk (by kernel_rfl) ?_; conv => whnf) | (refine SeqOk.go ?_; conv => whnf))
        refine Into.mono (Into.to [0, 1, 5] [(16, dInt (k + 1 : Nat)), (15, dInt (l.map Entry'.enc).length), (14, .dat (.list (l.map Entry'.enc))), (0, .ptr 0 0), (1, .dat (.list (l.map Entry'.enc))), (7, .dat (.list ((pastOfId l x).map Id.enc))), (8, .row 2)] [(0, .vars 80 3 [dInt c, .nil, .row 1] true), (1, .rows 97 3 (ts.map Turn.enc) true), (2, .rows 25 2 ((((l.take (k + 1)).filter fun e => bothOf e.colors c && (pastOfId l x).any (isId2 e.id)).map (·.id)).map Id.enc) true)] (by repeat (first | exact trivial | refine ⟨.same (congrArg dInt (wrap_up (by omega))), ?_⟩ | refine ⟨.same rfl, ?_⟩ | refine ⟨.any _, ?_⟩)) ⟨⟨rfl, rfl, rfl, .same rfl, rfl, .same rfl, rfl, .same rfl, rfl, trivial⟩, ⟨rfl, rfl, rfl, rfl⟩, ⟨rfl, rfl, rfl, ?_⟩, trivial⟩ rfl rfl) fun s' h => ⟨m - 1, by omega, k + 1, by omega, h⟩
        rw [hst, if_pos (by rw [h2, h3]; rfl), List.map_append, List.map_append]
        rfl
      · have hno : (bothOf l[k].colors c && (pastOfId l x).any (isId2 l[k].id)) = false := by rw [h3, Bool.and_false]
        have hrow : ((((l.take (k + 1)).filter fun e => bothOf e.colors c && (pastOfId l x).any (isId2 e.id)).map (·.id)).map Id.enc) = ((((l.take k).filter fun e => bothOf e.colors c && (pastOfId l x).any (isId2 e.id)).map (·.id)).map Id.enc) := by rw [hst, if_neg (by simp [hno])]; simp
        conv => whnf
        repeat (first | (refine Conf.mk (by kernel_rfl) ?_; conv => whnf) | (refine SeqOk.go ?_; conv => whnf))
        exact Into.mono (Into.to [0, 1, 2] [(16, dInt (k + 1 : Nat)), (15, dInt (l.map Entry'.enc).length), (14, .dat (.list (l.map Entry'.enc))), (0, .ptr 0 0), (1, .dat (.list (l.map Entry'.enc))), (7, .dat (.list ((pastOfId l x).map Id.enc))), (8, .row 2)] [(0, .vars 80 3 [dInt c, .nil, .row 1] true), (1, .rows 97 3 (ts.map Turn.enc) true), (2, .rows 25 2 ((((l.take (k + 1)).filter fun e => bothOf e.colors c && (pastOfId l x).any (isId2 e.id)).map (·.id)).map Id.enc) true)] (by repeat (first | exact trivial | refine ⟨.same (congrArg dInt (wrap_up (by omega))), ?_⟩ | refine ⟨.same rfl, ?_⟩ | refine ⟨.any _, ?_⟩)) ⟨⟨rfl, rfl, rfl, .same rfl, rfl, .same rfl, rfl, .same rfl, rfl, trivial⟩, ⟨rfl, rfl, rfl, rfl⟩, ⟨rfl, rfl, rfl, hrow⟩, trivial⟩ rfl rfl) fun s' h => ⟨m - 1, by omega, k + 1, by omega, h⟩
    · have h2 : bothOf l[k].colors c = false := h2
      have hno : (bothOf l[k].colors c && (pastOfId l x).any (isId2 l[k].id)) = false := by rw [h2, Bool.false_and]
      have hrow : ((((l.take (k + 1)).filter fun e => bothOf e.colors c && (pastOfId l x).any (isId2 e.id)).map (·.id)).map Id.enc) = ((((l.take k).filter fun e => bothOf e.colors c && (pastOfId l x).any (isId2 e.id)).map (·.id)).map Id.enc) := by rw [hst, if_neg (by simp [hno])]; simp
      conv => whnf
      repeat (first | (refine Conf.mk (by kernel_rfl) ?_; conv => whnf) | (refine SeqOk.go ?_; conv => whnf))
      exact Into.mono (Into.to [0, 1, 2] [(16, dInt (k + 1 : Nat)), (15, dInt (l.map Entry'.enc).length), (14, .dat (.list (l.map Entry'.enc))), (0, .ptr 0 0), (1, .dat (.list (l.map Entry'.enc))), (7, .dat (.list ((pastOfId l x).map Id.enc))), (8, .row 2)] [(0, .vars 80 3 [dInt c, .nil, .row 1] true), (1, .rows 97 3 (ts.map Turn.enc) true), (2, .rows 25 2 ((((l.take (k + 1)).filter fun e => bothOf e.colors c && (pastOfId l x).any (isId2 e.id)).map (·.id)).map Id.enc) true)] (by repeat (first | exact trivial | refine ⟨.same (congrArg dInt (wrap_up (by omega))), ?_⟩ | refine ⟨.same rfl, ?_⟩ | refine ⟨.any _, ?_⟩)) ⟨⟨rfl, rfl, rfl, .same rfl, rfl, .same rfl, rfl, .same rfl, rfl, trivial⟩, ⟨rfl, rfl, rfl, rfl⟩, ⟨rfl, rfl, rfl, hrow⟩, trivial⟩ rfl rfl) fun s' h => ⟨m - 1, by omega, k + 1, by omega, h⟩
  · have hk' := ge_of_len h
    conv => whnf
    repeat (first | (refine Conf.mk (by kernel_rfl) ?_; conv => whnf) | (refine SeqOk.go ?_; conv => whnf))
    subst hQ1
    conv => whnf
    exact .mk [2] [0, 1] (.dat (.list ((needsL l c x).map Id.enc))) [(0, .vars 80 3 [dInt c, .nil, .row 1] true), (1, .rows 97 3 (ts.map Turn.enc) true)] rfl (.data (by rw [List.take_of_length_le hk']; rfl)) ⟨⟨rfl, rfl, rfl, .same rfl, rfl, .same rfl, rfl, .same rfl, rfl, trivial⟩, ⟨rfl, rfl, rfl, rfl⟩, trivial⟩ rfl rfl ⟨rfl, rfl, rfl⟩
def mayT (played : List Id) (t : Turn) : Bool := !hasId played t.id && t.needs.all (hasId played)
theorem any_hasId (l : List Id) (x : Id) : l.any (isId2 x) = hasId l x := by rw [Bool.eq_iff_iff, any_isId2, hasId_iff]
set_option maxHeartbeats 0 in
theorem mayBeNext_ok (c : Int) (played : List Id) (ds : List (List D)) (t : Turn) (h1 : played.length ≤ 1000) (h2 : t.needs.length ≤ 1000) : PCall Try.prog 76 [.dat (.ptr [.int .i64 c, .list (played.map Id.enc), .list ds]), t.arg] (dBool (mayT played t)) := by
  refine pcall_cut tab_all tab_mixed Try.func76 (by kernel_rfl) Try.ntmps76 rfl ?_
  conv => whnf
  conv => whnf
  repeat (first | (refine Conf.mk (by kernel_rfl) ?_; conv => whnf) | (refine SeqOk.go ?_; conv => whnf))
  refine .look _ _ (containsId_ok t.id played (by omega)) rfl rfl ?_
  conv => whnf
  repeat (first | (refine Conf.mk (by kernel_rfl) ?_; conv => whnf) | (refine SeqOk.go ?_; conv => whnf))
  refine ⟨fun h => ?_, fun h => ?_⟩
  · conv => whnf
    repeat (first | (refine Conf.mk (by kernel_rfl) ?_; conv => whnf) | (refine SeqOk.go ?_; conv => whnf))
    exact Ret.bool (by unfold mayT; rw [← any_hasId, h]; rfl)
  · have hm : mayT played t = (t.needs.drop 0).all (hasId played) := by unfold mayT; rw [← any_hasId, h]; rfl
    conv => whnf
    repeat (first | (refine Conf.mk (by kernel_rfl) ?_; conv => whnf) | (refine SeqOk.go ?_; conv => whnf))
    refine LoopOk.hide fun Q1 hQ1 => ?_
    refine LoopOk.mk (fun m s => ∃ k, k + m = t.needs.length ∧ mayT played t = (t.needs.drop k).all (hasId played) ∧ s = ⟨[(18, dInt k), (17, dInt (t.needs.map Id.enc).length), (16, .dat (.list (t.needs.map Id.enc))), (0, .dat (.ptr [.int .i64 c, .list (played.map Id.enc), .list ds]))], 0, []⟩) t.needs.length (Into.mono (Into.to [] [(18, dInt (0 : Nat)), (17, dInt (t.needs.map Id.enc).length), (16, .dat (.list (t.needs.map Id.enc))), (0, .dat (.ptr [.int .i64 c, .list (played.map Id.enc), .list ds]))] [] (by repeat (first | exact trivial | refine ⟨.same (congrArg dInt (wrap_up (by omega))), ?_⟩ | refine ⟨.same rfl, ?_⟩ | refine ⟨.any _, ?_⟩)) trivial rfl rfl) fun s' h => ⟨0, by omega, hm, h⟩) ?_
    rintro m s ⟨k, hk, hq, rfl⟩
    conv => whnf
    repeat (first | (refine Conf.mk (by kernel_rfl) ?_; conv => whnf) | (refine SeqOk.go ?_; conv => whnf))
    refine ⟨fun h3 => ?_, fun h3 => ?_⟩
    · have hk' := lt_of_len h3
      rw [List.drop_eq_getElem_cons hk', List.all_cons] at hq
      conv => whnf
      repeat (first | (refine Conf.mk (by kernel_rfl) ?_; conv => whnf) | (refine SeqOk.go ?_; conv => whnf))
      refine AtIdx.ofMap hk' rfl ?_
      conv => whnf
      repeat (first | (refine Conf.mk (by kernel_rfl) ?_; conv => whnf) | (refine SeqOk.go ?_; conv => whnf))
      refine .look _ _ (containsId_ok t.needs[k] played (by omega)) rfl rfl ?_
      conv => whnf
      repeat (first | (refine Conf.mk (by kernel_rfl) ?_; conv => whnf) | (refine SeqOk.go ?_; conv => whnf))
      refine ⟨fun h4 => ?_, fun h4 => ?_⟩
      · have h4 : hasId played t.needs[k] = false := by rw [← any_hasId]; exact (Bool.not_eq_true' _).mp h4
        conv => whnf
        repeat (first | (refine Conf.mk (by kernel_rfl) ?_; conv => whnf) | (refine SeqOk.go ?_; conv => whnf))
        subst hQ1
        conv => whnf
        exact Ret.bool (by rw [hq, h4]; rfl)
      · have h4 : hasId played t.needs[k] = true := by rw [← any_hasId]; exact (Bool.not_eq_false' (b := played.any (isId2 t.needs[k]))).mp h4
        conv => whnf
        repeat (first | (refine Conf.mk (by kernel_rfl) ?_; conv => whnf) | (refine SeqOk.go ?_; conv => whnf))
        exact Into.mono (Into.to [] [(18, dInt (k + 1 : Nat)), (17, dInt (t.needs.map Id.enc).length), (16, .dat (.list (t.needs.map Id.enc))), (0, .dat (.ptr [.int .i64 c, .list (played.map Id.enc), .list ds]))] [] (by repeat (first | exact trivial | refine ⟨.same (congrArg dInt (wrap_up (by omega))), ?_⟩ | refine ⟨.same rfl, ?_⟩ | refine ⟨.any _, ?_⟩)) trivial rfl rfl) fun s' h => ⟨m - 1, by omega, k + 1, by omega, by rw [hq, h4, Bool.true_and], h⟩
    · conv => whnf
      repeat (first | (refine Conf.mk (by kernel_rfl) ?_; conv => whnf) | (refine SeqOk.go ?_; conv => whnf))
      subst hQ1
      conv => whnf
      exact Ret.bool (by rw [hq, List.drop_eq_nil_of_le (ge_of_len h3)]; rfl)
end Go.Proofs.Ytlioojekjnigiac.AM
/- A player's beginning, and its plays. -/
namespace Go.Proofs.Ytlioojekjnigiac.AM
set_option linter.unusedVariables false
set_option linter.unusedSimpArgs false
def turnStep (l : List Entry') (c : Int) (ts : List Turn) (e : Entry') : List Turn := if bothOf e.colors c = true then insT ts ⟨e.id, needsL l c e.id⟩ else ts
def turnsTo (l : List Entry') (c : Int) (k : Nat) : List Turn := (l.take k).foldl (turnStep l c) []
def turnsOf (l : List Entry') (c : Int) : List Turn := turnsTo l c l.length
theorem turnsTo_snoc {l : List Entry'} {c : Int} {k : Nat} (hk : k < l.length) : turnsTo l c (k + 1) = turnStep l c (turnsTo l c k) l[k] := by
  unfold turnsTo
  rw [take_snoc hk, List.foldl_append]
  rfl
theorem putAt_len {α : Type} {l : List α} {i : Nat} (h : i ≤ l.length) (x : α) : (putAt l i x).length = l.length + 1 := by simp [putAt]; omega
theorem mem_putAt {α : Type} {l : List α} {i : Nat} {x y : α} : y ∈ putAt l i x ↔ y = x ∨ y ∈ l := by
  unfold putAt
  rw [List.mem_append, List.mem_cons]
  constructor
  · rintro (h | h | h)
    · exact .inr (List.mem_of_mem_take h)
    · exact .inl h
    · exact .inr (List.mem_of_mem_drop h)
  · rintro (h | h)
    · exact .inr (.inl h)
    · rw [← List.take_append_drop i l, List.mem_append] at h
      exact h.elim .inl fun h => .inr (.inr h)
theorem turnsTo_len {l : List Entry'} {c : Int} : ∀ {k : Nat}, k ≤ l.length → (turnsTo l c k).length ≤ k
  | 0, _ => by simp [turnsTo]
  | k + 1, h => by
    rw [turnsTo_snoc h]
    have := turnsTo_len (l := l) (c := c) (k := k) (by omega)
    unfold turnStep
    split
    · unfold insT
      rw [putAt_len (placeOf_le _ _)]
      omega
    · omega
set_option maxHeartbeats 0 in
theorem newPlayer_ok {l : List Entry'} (hr : Right l) (c : Int) : ECall Try.prog 56 [.dat (.list (l.map Entry'.enc)), dInt c] [] 0 (.agg [dInt c, .nil, .dat (.list ((turnsOf l c).map Turn.enc))]) [] 0 := by
  have hlen := hr.len
  refine acall_cut tab_all tab_mixed Try.func56 (by kernel_rfl) Try.ntmps56 rfl ?_
  conv => whnf
  conv => whnf
  repeat (first | (refine Conf.mk (by kernel_rfl) ?_; conv => whnf) | (refine SeqOk.go ?_; conv => whnf))
  refine LoopOk.hide fun Q1 hQ1 => ?_
  refine LoopOk.mk (fun m s => ∃ k, k + m = l.length ∧ s = ⟨[(13, dInt k), (12, dInt (l.map Entry'.enc).length), (11, .dat (.list (l.map Entry'.enc))), (0, .dat (.list (l.map Entry'.enc))), (4, .ptr 0 0), (5, .ptr 1 0)], 3, [(0, .vars 80 3 [dInt 0, .nil, .nil] true), (1, .vars 80 3 [dInt c, .nil, .row 2] true), (2, .rows 97 3 ((turnsTo l c k).map Turn.enc) true)]⟩) l.length ((Into.rowAt 1 80 3 [dInt c, .nil, .nil] 2 97 3 rfl (Nat.lt_succ_self 1) rfl).trans fun s' hs' => by
    subst hs'
    exact Into.mono (Into.to [0, 1, 2] [(13, dInt (0 : Nat)), (12, dInt (l.map Entry'.enc).length), (11, .dat (.list (l.map Entry'.enc))), (0, .dat (.list (l.map Entry'.enc))), (4, .ptr 0 0), (5, .ptr 1 0)] [(0, .vars 80 3 [dInt 0, .nil, .nil] true), (1, .vars 80 3 [dInt c, .nil, .row 2] true), (2, .rows 97 3 ((turnsTo l c 0).map Turn.enc) true)] (by repeat (first | exact trivial | refine ⟨.same (congrArg dInt (wrap_up (by omega))), ?_⟩ | refine ⟨.same rfl, ?_⟩ | refine ⟨.any _, ?_⟩)) ⟨⟨rfl, rfl, rfl, .same rfl, rfl, .same rfl, rfl, .same rfl, rfl, trivial⟩, ⟨rfl, rfl, rfl, .same rfl, rfl, .same rfl, rfl, .same rfl, rfl, trivial⟩, ⟨rfl, rfl, rfl, rfl⟩, trivial⟩ rfl rfl) fun s' h => ⟨0, by omega, h⟩) ?_
  rintro m s ⟨k, hk, rfl⟩
  conv => whnf
  repeat (first | (refine Conf.mk (by kernel_rfl) ?_; conv => whnf) | (refine SeqOk.go ?_; conv => whnf))
  refine ⟨fun h => ?_, fun h => ?_⟩
  · have hk' := lt_of_len h
    have hst := turnsTo_snoc (c := c) hk'
    have htl := turnsTo_len (l := l) (c := c) (k := k) (by omega)
    conv => whnf
    repeat (first | (refine Conf.mk (by kernel_rfl) ?_; conv => whnf) | (refine SeqOk.go ?_; conv => whnf))
    refine AtIdx.ofMap hk' rfl ?_
    conv => whnf
    repeat (first | (refine Conf.mk (by kernel_rfl) ?_; conv => whnf) | (refine SeqOk.go ?_; conv => whnf))
    refine ⟨fun h2 => ?_, fun h2 => ?_⟩
    · have h2 : bothOf l[k].colors c = true := h2
      conv => whnf
      repeat (first | (refine Conf.mk (by kernel_rfl) ?_; conv => whnf) | (refine SeqOk.go ?_; conv => whnf))
      refine .eff [1, 2] _ _ _ _ 0 (needsOf_ok hr c (turnsTo l c k) l[k].id ⟨_, List.getElem_mem hk', rfl⟩) rfl rfl rfl rfl rfl ?_
      conv => whnf
      repeat (first | (refine Conf.mk (by kernel_rfl) ?_; conv => whnf) | (refine SeqOk.go ?_; conv => whnf))
      refine .eff [1, 2] _ _ _ _ 1 (add_ok c (turnsTo l c k) ⟨l[k].id, needsL l c l[k].id⟩ (by omega)) rfl rfl rfl rfl rfl ?_
      conv => whnf
      repeat (first | (refine Conf.mk (by kernel_rfl) ?_; conv => whnf) | (refine SeqOk.go ?_; conv => whnf))
      refine Into.mono (Into.to [0, 1, 4] [(13, dInt (k + 1 : Nat)), (12, dInt (l.map Entry'.enc).length), (11, .dat (.list (l.map Entry'.enc))), (0, .dat (.list (l.map Entry'.enc))), (4, .ptr 0 0), (5, .ptr 1 0)] [(0, .vars 80 3 [dInt 0, .nil, .nil] true), (1, .vars 80 3 [dInt c, .nil, .row 2] true), (2, .rows 97 3 ((turnsTo l c (k + 1)).map Turn.enc) true)] (by repeat (first | exact trivial | refine ⟨.same (congrArg dInt (wrap_up (by omega))), ?_⟩ | refine ⟨.same rfl, ?_⟩ | refine ⟨.any _, ?_⟩)) ⟨⟨rfl, rfl, rfl, .same rfl, rfl, .same rfl, rfl, .same rfl, rfl, trivial⟩, ⟨rfl, rfl, rfl, .same rfl, rfl, .same rfl, rfl, .same rfl, rfl, trivial⟩, ⟨rfl, rfl, rfl, ?_⟩, trivial⟩ rfl rfl) fun s' h => ⟨m - 1, by omega, k + 1, by omega, h⟩
      rw [hst, turnStep, if_pos h2]
    · have h2 : bothOf l[k].colors c = false := h2
      conv => whnf
      repeat (first | (refine Conf.mk (by kernel_rfl) ?_; conv => whnf) | (refine SeqOk.go ?_; conv => whnf))
      refine Into.mono (Into.to [0, 1, 2] [(13, dInt (k + 1 : Nat)), (12, dInt (l.map Entry'.enc).length), (11, .dat (.list (l.map Entry'.enc))), (0, .dat (.list (l.map Entry'.enc))), (4, .ptr 0 0), (5, .ptr 1 0)] [(0, .vars 80 3 [dInt 0, .nil, .nil] true), (1, .vars 80 3 [dInt c, .nil, .row 2] true), (2, .rows 97 3 ((turnsTo l c (k + 1)).map Turn.enc) true)] (by repeat (first | exact trivial | refine ⟨.same (congrArg dInt (wrap_up (by omega))), ?_⟩ | refine ⟨.same rfl, ?_⟩ | refine ⟨.any _, ?_⟩)) ⟨⟨rfl, rfl, rfl, .same rfl, rfl, .same rfl, rfl, .same rfl, rfl, trivial⟩, ⟨rfl, rfl, rfl, .same rfl, rfl, .same rfl, rfl, .same rfl, rfl, trivial⟩, ⟨rfl, rfl, rfl, ?_⟩, trivial⟩ rfl rfl) fun s' h => ⟨m - 1, by omega, k + 1, by omega, h⟩
      rw [hst, turnStep, if_neg (by simp [h2])]
  · have hk' : k = l.length := by have := ge_of_len h; omega
    subst hk'
    conv => whnf
    repeat (first | (refine Conf.mk (by kernel_rfl) ?_; conv => whnf) | (refine SeqOk.go ?_; conv => whnf))
    subst hQ1
    conv => whnf
    exact .mk [2] [] (.agg [dInt c, .nil, .dat (.list ((turnsOf l c).map Turn.enc))]) [] rfl (.aggs ⟨.same rfl, .same rfl, .data rfl, trivial⟩) trivial rfl rfl ⟨rfl, rfl, rfl⟩
end Go.Proofs.Ytlioojekjnigiac.AM
/- A player plays. -/
namespace Go.Proofs.Ytlioojekjnigiac.AM
set_option linter.unusedVariables false
set_option linter.unusedSimpArgs false
/-- One is played, or none may be. -/
def PlayRb (y : Id) (c : Int) (played : List Id) (ts : List Turn) (p : Id → Bool) (x : AVal) (H : Heap) (n : Nat) : Prop :=
  (∃ t, ts.find? (fun t => p t.id && mayT played t) = some t ∧ x = dBool true ∧ H = [(0, .vars 80 3 [dInt c, .row 3, .dat (.list (ts.map Turn.enc))] true), (1, .dead), (2, .vars 25 2 [dInt y.r, dInt y.n] true), (3, .rows 25 2 ((played ++ [t.id]).map Id.enc) true)] ∧ n = 4) ∨ (ts.find? (fun t => p t.id && mayT played t) = none ∧ x = dBool false ∧ H = [(0, .vars 80 3 [dInt c, .row 1, .dat (.list (ts.map Turn.enc))] true), (1, .rows 25 2 (played.map Id.enc) true), (2, .vars 25 2 [dInt y.r, dInt y.n] true)] ∧ n = 3)
/-- .. with no box. -/
def PlayR (c : Int) (played : List Id) (ts : List Turn) (p : Id → Bool) (x : AVal) (H : Heap) (n : Nat) : Prop :=
  (∃ t, ts.find? (fun t => p t.id && mayT played t) = some t ∧ x = dBool true ∧ H = [(0, .vars 80 3 [dInt c, .row 2, .dat (.list (ts.map Turn.enc))] true), (1, .dead), (2, .rows 25 2 ((played ++ [t.id]).map Id.enc) true)] ∧ n = 3) ∨ (ts.find? (fun t => p t.id && mayT played t) = none ∧ x = dBool false ∧ H = [(0, .vars 80 3 [dInt c, .row 1, .dat (.list (ts.map Turn.enc))] true), (1, .rows 25 2 (played.map Id.enc) true)] ∧ n = 2)
set_option maxHeartbeats 0 in
theorem play_ok {cl : Nat} (y : Id) {p : Id → Bool} (c : Int) (played : List Id) (ts : List Turn) (hp : played.length ≤ 900) (ht : ts.length ≤ 1000) (hn : ∀ t ∈ ts, t.needs.length ≤ 1000) (hcl : ∀ x : Id, PCall Try.prog cl [x.arg, .dat (.ptr y.enc)] (dBool (p x))) : ACall Try.prog 57 [.ptr 0 0, .fn (.func cl) [] [.ptr 2 0]] [(0, .vars 80 3 [dInt c, .row 1, .dat (.list (ts.map Turn.enc))] true), (1, .rows 25 2 (played.map Id.enc) true), (2, .vars 25 2 [dInt y.r, dInt y.n] true)] 3 (PlayRb y c played ts p) := by
  refine acall_cut tab_all tab_mixed Try.func57 (by kernel_rfl) Try.ntmps57 rfl ?_
  conv => whnf
  conv => whnf
  repeat (first | (refine Conf.mk (by kernel_rfl) ?_; conv => whnf) | (refine SeqOk.go ?_; conv => whnf))
  refine LoopOk.hide fun Q1 hQ1 => ?_
  refine LoopOk.mk (fun m s => ∃ k, k + m = ts.length ∧ (∀ t ∈ ts.take k, (p t.id && mayT played t) = false) ∧ s = ⟨[(12, dInt k), (11, dInt (ts.map Turn.enc).length), (10, .dat (.list (ts.map Turn.enc))), (0, .ptr 0 0), (1, .fn (.func cl) [] [.ptr 2 0])], 3, [(0, .vars 80 3 [dInt c, .row 1, .dat (.list (ts.map Turn.enc))] true), (1, .rows 25 2 (played.map Id.enc) true), (2, .vars 25 2 [dInt y.r, dInt y.n] true)]⟩) ts.length (Into.mono (Into.to [0, 1, 2] [(12, dInt (0 : Nat)), (11, dInt (ts.map Turn.enc).length), (10, .dat (.list (ts.map Turn.enc))), (0, .ptr 0 0), (1, .fn (.func cl) [] [.ptr 2 0])] [(0, .vars 80 3 [dInt c, .row 1, .dat (.list (ts.map Turn.enc))] true), (1, .rows 25 2 (played.map Id.enc) true), (2, .vars 25 2 [dInt y.r, dInt y.n] true)] (by repeat (first | exact trivial | refine ⟨.same (congrArg dInt (wrap_up (by omega))), ?_⟩ | refine ⟨.same rfl, ?_⟩ | refine ⟨.any _, ?_⟩)) ⟨⟨rfl, rfl, rfl, .same rfl, rfl, .same rfl, rfl, .same rfl, rfl, trivial⟩, ⟨rfl, rfl, rfl, rfl⟩, ⟨rfl, rfl, rfl, .same rfl, rfl, .same rfl, rfl, trivial⟩, trivial⟩ rfl rfl) fun s' h => ⟨0, by omega, by simp, h⟩) ?_
  rintro m s ⟨k, hk, hq, rfl⟩
  conv => whnf
  repeat (first | (refine Conf.mk (by kernel_rfl) ?_; conv => whnf) | (refine SeqOk.go ?_; conv => whnf))
  refine ⟨fun h => ?_, fun h => ?_⟩
  · have hk' := lt_of_len h
    conv => whnf
    repeat (first | (refine Conf.mk (by kernel_rfl) ?_; conv => whnf) | (refine SeqOk.go ?_; conv => whnf))
    refine AtIdx.ofMap hk' rfl ?_
    conv => whnf
    repeat (first | (refine Conf.mk (by kernel_rfl) ?_; conv => whnf) | (refine SeqOk.go ?_; conv => whnf))
    refine .look _ _ (hcl ts[k].id) rfl rfl ?_
    conv => whnf
    repeat (first | (refine Conf.mk (by kernel_rfl) ?_; conv => whnf) | (refine SeqOk.go ?_; conv => whnf))
    refine ⟨fun h2 => ?_, fun h2 => ?_⟩
    · conv => whnf
      repeat (first | (refine Conf.mk (by kernel_rfl) ?_; conv => whnf) | (refine SeqOk.go ?_; conv => whnf))
      refine .look _ _ (mayBeNext_ok c played (ts.map Turn.enc) ts[k] (by omega) (hn _ (List.getElem_mem hk'))) rfl rfl ?_
      conv => whnf
      repeat (first | (refine Conf.mk (by kernel_rfl) ?_; conv => whnf) | (refine SeqOk.go ?_; conv => whnf))
      refine ⟨fun h3 => ?_, fun h3 => ?_⟩
      · have hf : ts.find? (fun t => p t.id && mayT played t) = some ts[k] := by
          have : ts = ts.take k ++ ts[k] :: ts.drop (k + 1) := by rw [← List.drop_eq_getElem_cons hk', List.take_append_drop]
          generalize ts[k] = t at *
          rw [this, List.find?_append, List.find?_eq_none.2 fun y hy => by rw [hq y hy]; simp, List.find?_cons, h2, h3]
          rfl
        conv => whnf
        repeat (first | (refine Conf.mk (by kernel_rfl) ?_; conv => whnf) | (refine SeqOk.go ?_; conv => whnf))
        refine ⟨by simp [Id.enc], by simp; omega, ?_⟩
        conv => whnf
        repeat (first | (refine Conf.mk (by kernel_rfl) ?_; conv => whnf) | (refine SeqOk.go ?_; conv => whnf))
        subst hQ1
        conv => whnf
        refine .mk [] [0, 1, 2, 5] (dBool true) [(0, .vars 80 3 [dInt c, .row 3, .dat (.list (ts.map Turn.enc))] true), (1, .dead), (2, .vars 25 2 [dInt y.r, dInt y.n] true), (3, .rows 25 2 ((played ++ [ts[k].id]).map Id.enc) true)] rfl (.data rfl) ⟨⟨rfl, rfl, rfl, .same rfl, rfl, .same rfl, rfl, .same rfl, rfl, trivial⟩, trivial, ⟨rfl, rfl, rfl, .same rfl, rfl, .same rfl, rfl, trivial⟩, ⟨rfl, rfl, rfl, ?_⟩, trivial⟩ rfl rfl (.inl ⟨ts[k], hf, rfl, rfl, rfl⟩)
        rw [List.map_append]
        rfl
      · have hno : (p ts[k].id && mayT played ts[k]) = false := by rw [h3, Bool.and_false]
        have hq2 : ∀ t ∈ ts.take (k + 1), (p t.id && mayT played t) = false := fun t ht => by
          rw [take_snoc hk'] at ht
          rcases List.mem_append.1 ht with ht | ht
          · exact hq t ht
          · have : t = ts[k] := by simpa using ht
            rw [this]; exact hno
        conv => whnf
        repeat (first | (refine Conf.mk (by kernel_rfl) ?_; conv => whnf) | (refine SeqOk.go ?_; conv => whnf))
        exact Into.mono (Into.to [0, 1, 2] [(12, dInt (k + 1 : Nat)), (11, dInt (ts.map Turn.enc).length), (10, .dat (.list (ts.map Turn.enc))), (0, .ptr 0 0), (1, .fn (.func cl) [] [.ptr 2 0])] [(0, .vars 80 3 [dInt c, .row 1, .dat (.list (ts.map Turn.enc))] true), (1, .rows 25 2 (played.map Id.enc) true), (2, .vars 25 2 [dInt y.r, dInt y.n] true)] (by repeat (first | exact trivial | refine ⟨.same (congrArg dInt (wrap_up (by omega))), ?_⟩ | refine ⟨.same rfl, ?_⟩ | refine ⟨.any _, ?_⟩)) ⟨⟨rfl, rfl, rfl, .same rfl, rfl, .same rfl, rfl, .same rfl, rfl, trivial⟩, ⟨rfl, rfl, rfl, rfl⟩, ⟨rfl, rfl, rfl, .same rfl, rfl, .same rfl, rfl, trivial⟩, trivial⟩ rfl rfl) fun s' h => ⟨m - 1, by omega, k + 1, by omega, hq2, h⟩
    · have hno : (p ts[k].id && mayT played ts[k]) = false := by rw [h2, Bool.false_and]
      have hq2 : ∀ t ∈ ts.take (k + 1), (p t.id && mayT played t) = false := fun t ht => by
        rw [take_snoc hk'] at ht
        rcases List.mem_append.1 ht with ht | ht
        · exact hq t ht
        · have : t = ts[k] := by simpa using ht
          rw [this]; exact hno
      conv => whnf
      repeat (first | (refine Conf.mk (by kernel_rfl) ?_; conv => whnf) | (refine SeqOk.go ?_; conv => whnf))
      exact Into.mono (Into.to [0, 1, 2] [(12, dInt (k + 1 : Nat)), (11, dInt (ts.map Turn.enc).length), (10, .dat (.list (ts.map Turn.enc))), (0, .ptr 0 0), (1, .fn (.func cl) [] [.ptr 2 0])] [(0, .vars 80 3 [dInt c, .row 1, .dat (.list (ts.map Turn.enc))] true), (1, .rows 25 2 (played.map Id.enc) true), (2, .vars 25 2 [dInt y.r, dInt y.n] true)] (by repeat (first | exact trivial | refine ⟨.same (congrArg dInt (wrap_up (by omega))), ?_⟩ | refine ⟨.same rfl, ?_⟩ | refine ⟨.any _, ?_⟩)) ⟨⟨rfl, rfl, rfl, .same rfl, rfl, .same rfl, rfl, .same rfl, rfl, trivial⟩, ⟨rfl, rfl, rfl, rfl⟩, ⟨rfl, rfl, rfl, .same rfl, rfl, .same rfl, rfl, trivial⟩, trivial⟩ rfl rfl) fun s' h => ⟨m - 1, by omega, k + 1, by omega, hq2, h⟩
  · have hk' := ge_of_len h
    have hf : ts.find? (fun t => p t.id && mayT played t) = none := by
      rw [List.find?_eq_none]
      intro t ht
      rw [List.take_of_length_le hk'] at hq
      rw [hq t ht]; simp
    conv => whnf
    repeat (first | (refine Conf.mk (by kernel_rfl) ?_; conv => whnf) | (refine SeqOk.go ?_; conv => whnf))
    subst hQ1
    conv => whnf
    exact .mk [] [0, 1, 2] (dBool false) [(0, .vars 80 3 [dInt c, .row 1, .dat (.list (ts.map Turn.enc))] true), (1, .rows 25 2 (played.map Id.enc) true), (2, .vars 25 2 [dInt y.r, dInt y.n] true)] rfl (.data rfl) ⟨⟨rfl, rfl, rfl, .same rfl, rfl, .same rfl, rfl, .same rfl, rfl, trivial⟩, ⟨rfl, rfl, rfl, rfl⟩, ⟨rfl, rfl, rfl, .same rfl, rfl, .same rfl, rfl, trivial⟩, trivial⟩ rfl rfl (.inr ⟨hf, rfl, rfl, rfl⟩)
set_option maxHeartbeats 0 in
theorem playAny_ok {cl : Nat} {p : Id → Bool} (c : Int) (played : List Id) (ts : List Turn) (hp : played.length ≤ 900) (ht : ts.length ≤ 1000) (hn : ∀ t ∈ ts, t.needs.length ≤ 1000) (hcl : ∀ x : Id, PCall Try.prog cl [x.arg] (dBool (p x))) : ACall Try.prog 57 [.ptr 0 0, .fn (.func cl) [] []] [(0, .vars 80 3 [dInt c, .row 1, .dat (.list (ts.map Turn.enc))] true), (1, .rows 25 2 (played.map Id.enc) true)] 2 (PlayR c played ts p) := by
  refine acall_cut tab_all tab_mixed Try.func57 (by kernel_rfl) Try.ntmps57 rfl ?_
  conv => whnf
  conv => whnf
  repeat (first | (refine Conf.mk (by kernel_rfl) ?_; conv => whnf) | (refine SeqOk.go ?_; conv => whnf))
  refine LoopOk.hide fun Q1 hQ1 => ?_
  refine LoopOk.mk (fun m s => ∃ k, k + m = ts.length ∧ (∀ t ∈ ts.take k, (p t.id && mayT played t) = false) ∧ s = ⟨[(12, dInt k), (11, dInt (ts.map Turn.enc).length), (10, .dat (.list (ts.map Turn.enc))), (0, .ptr 0 0), (1, .fn (.func cl) [] [])], 2, [(0, .vars 80 3 [dInt c, .row 1, .dat (.list (ts.map Turn.enc))] true), (1, .rows 25 2 (played.map Id.enc) true)]⟩) ts.length (Into.mono (Into.to [0, 1] [(12, dInt (0 : Nat)), (11, dInt (ts.map Turn.enc).length), (10, .dat (.list (ts.map Turn.enc))), (0, .ptr 0 0), (1, .fn (.func cl) [] [])] [(0, .vars 80 3 [dInt c, .row 1, .dat (.list (ts.map Turn.enc))] true), (1, .rows 25 2 (played.map Id.enc) true)] (by repeat (first | exact trivial | refine ⟨.same (congrArg dInt (wrap_up (by omega))), ?_⟩ | refine ⟨.same rfl, ?_⟩ | refine ⟨.any _, ?_⟩)) ⟨⟨rfl, rfl, rfl, .same rfl, rfl, .same rfl, rfl, .same rfl, rfl, trivial⟩, ⟨rfl, rfl, rfl, rfl⟩, trivial⟩ rfl rfl) fun s' h => ⟨0, by omega, by simp, h⟩) ?_
  rintro m s ⟨k, hk, hq, rfl⟩
  conv => whnf
  repeat (first | (refine Conf.mk (by kernel_rfl) ?_; conv => whnf) | (refine SeqOk.go ?_; conv => whnf))
  refine ⟨fun h => ?_, fun h => ?_⟩
  · have hk' := lt_of_len h
    conv => whnf
    repeat (first | (refine Conf.mk (by kernel_rfl) ?_; conv => whnf) | (refine SeqOk.go ?_; conv => whnf))
    refine AtIdx.ofMap hk' rfl ?_
    conv => whnf
    repeat (first | (refine Conf.mk (by kernel_rfl) ?_; conv => whnf) | (refine SeqOk.go ?_; conv => whnf))
    refine .look _ _ (hcl ts[k].id) rfl rfl ?_
    conv => whnf
    repeat (first | (refine Conf.mk (by kernel_rfl) ?_; conv => whnf) | (refine SeqOk.go ?_; conv => whnf))
    refine ⟨fun h2 => ?_, fun h2 => ?_⟩
    · conv => whnf
      repeat (first | (refine Conf.mk (by kernel_rfl) ?_; conv => whnf) | (refine SeqOk.go ?_; conv => whnf))
      refine .look _ _ (mayBeNext_ok c played (ts.map Turn.enc) ts[k] (by omega) (hn _ (List.getElem_mem hk'))) rfl rfl ?_
      conv => whnf
      repeat (first | (refine Conf.mk (by kernel_rfl) ?_; conv => whnf) | (refine SeqOk.go ?_; conv => whnf))
      refine ⟨fun h3 => ?_, fun h3 => ?_⟩
      · have hf : ts.find? (fun t => p t.id && mayT played t) = some ts[k] := by
          have : ts = ts.take k ++ ts[k] :: ts.drop (k + 1) := by rw [← List.drop_eq_getElem_cons hk', List.take_append_drop]
          generalize ts[k] = t at *
          rw [this, List.find?_append, List.find?_eq_none.2 fun y hy => by rw [hq y hy]; simp, List.find?_cons, h2, h3]
          rfl
        conv => whnf
        repeat (first | (refine Conf.mk (by kernel_rfl) ?_; conv => whnf) | (refine SeqOk.go ?_; conv => whnf))
        refine ⟨by simp [Id.enc], by simp; omega, ?_⟩
        conv => whnf
        repeat (first | (refine Conf.mk (by kernel_rfl) ?_; conv => whnf) | (refine SeqOk.go ?_; conv => whnf))
        subst hQ1
        conv => whnf
        refine .mk [] [0, 1, 4] (dBool true) [(0, .vars 80 3 [dInt c, .row 2, .dat (.list (ts.map Turn.enc))] true), (1, .dead), (2, .rows 25 2 ((played ++ [ts[k].id]).map Id.enc) true)] rfl (.data rfl) ⟨⟨rfl, rfl, rfl, .same rfl, rfl, .same rfl, rfl, .same rfl, rfl, trivial⟩, trivial, ⟨rfl, rfl, rfl, ?_⟩, trivial⟩ rfl rfl (.inl ⟨ts[k], hf, rfl, rfl, rfl⟩)
        rw [List.map_append]
        rfl
      · have hno : (p ts[k].id && mayT played ts[k]) = false := by rw [h3, Bool.and_false]
        have hq2 : ∀ t ∈ ts.take (k + 1), (p t.id && mayT played t) = false := fun t ht => by
          rw [take_snoc hk'] at ht
          rcases List.mem_append.1 ht with ht | ht
          · exact hq t ht
          · have : t = ts[k] := by simpa using ht
            rw [this]; exact hno
        conv => whnf
        repeat (first | (refine Conf.mk (by kernel_rfl) ?_; conv => whnf) | (refine SeqOk.go ?_; conv => whnf))
        exact Into.mono (Into.to [0, 1] [(12, dInt (k + 1 : Nat)), (11, dInt (ts.map Turn.enc).length), (10, .dat (.list (ts.map Turn.enc))), (0, .ptr 0 0), (1, .fn (.func cl) [] [])] [(0, .vars 80 3 [dInt c, .row 1, .dat (.list (ts.map Turn.enc))] true), (1, .rows 25 2 (played.map Id.enc) true)] (by repeat (first | exact trivial | refine ⟨.same (congrArg dInt (wrap_up (by omega))), ?_⟩ | refine ⟨.same rfl, ?_⟩ | refine ⟨.any _, ?_⟩)) ⟨⟨rfl, rfl, rfl, .same rfl, rfl, .same rfl, rfl, .same rfl, rfl, trivial⟩, ⟨rfl, rfl, rfl, rfl⟩, trivial⟩ rfl rfl) fun s' h => ⟨m - 1, by omega, k + 1, by omega, hq2, h⟩
    · have hno : (p ts[k].id && mayT played ts[k]) = false := by rw [h2, Bool.false_and]
      have hq2 : ∀ t ∈ ts.take (k + 1), (p t.id && mayT played t) = false := fun t ht => by
        rw [take_snoc hk'] at ht
        rcases List.mem_append.1 ht with ht | ht
        · exact hq t ht
        · have : t = ts[k] := by simpa using ht
          rw [this]; exact hno
      conv => whnf
      repeat (first | (refine Conf.mk (by kernel_rfl) ?_; conv => whnf) | (refine SeqOk.go ?_; conv => whnf))
      exact Into.mono (Into.to [0, 1] [(12, dInt (k + 1 : Nat)), (11, dInt (ts.map Turn.enc).length), (10, .dat (.list (ts.map Turn.enc))), (0, .ptr 0 0), (1, .fn (.func cl) [] [])] [(0, .vars 80 3 [dInt c, .row 1, .dat (.list (ts.map Turn.enc))] true), (1, .rows 25 2 (played.map Id.enc) true)] (by repeat (first | exact trivial | refine ⟨.same (congrArg dInt (wrap_up (by omega))), ?_⟩ | refine ⟨.same rfl, ?_⟩ | refine ⟨.any _, ?_⟩)) ⟨⟨rfl, rfl, rfl, .same rfl, rfl, .same rfl, rfl, .same rfl, rfl, trivial⟩, ⟨rfl, rfl, rfl, rfl⟩, trivial⟩ rfl rfl) fun s' h => ⟨m - 1, by omega, k + 1, by omega, hq2, h⟩
  · have hk' := ge_of_len h
    have hf : ts.find? (fun t => p t.id && mayT played t) = none := by
      rw [List.find?_eq_none]
      intro t ht
      rw [List.take_of_length_le hk'] at hq
      rw [hq t ht]; simp
    conv => whnf
    repeat (first | (refine Conf.mk (by kernel_rfl) ?_; conv => whnf) | (refine SeqOk.go ?_; conv => whnf))
    subst hQ1
    conv => whnf
    exact .mk [] [0, 1] (dBool false) [(0, .vars 80 3 [dInt c, .row 1, .dat (.list (ts.map Turn.enc))] true), (1, .rows 25 2 (played.map Id.enc) true)] rfl (.data rfl) ⟨⟨rfl, rfl, rfl, .same rfl, rfl, .same rfl, rfl, .same rfl, rfl, trivial⟩, ⟨rfl, rfl, rfl, rfl⟩, trivial⟩ rfl rfl (.inr ⟨hf, rfl, rfl, rfl⟩)
theorem more1_ok (x y : Id) : PCall Try.prog 58 [y.arg, .dat (.ptr x.enc)] (dBool (isId2 y x)) := by
  refine pcall_intro tab_all tab_mixed Try.func58 (by kernel_rfl) Try.ntmps58 rfl ?_
  conv => whnf
  exact Ret.bool rfl
theorem more2_ok (y : Id) : PCall Try.prog 59 [y.arg] (dBool true) := by
  refine pcall_intro tab_all tab_mixed Try.func59 (by kernel_rfl) Try.ntmps59 rfl ?_
  conv => whnf
  exact Ret.bool rfl
end Go.Proofs.Ytlioojekjnigiac.AM
/- Orders: First and More, as the program reckons them. -/
namespace Go.Proofs.Ytlioojekjnigiac.AM
set_option linter.unusedVariables false
set_option linter.unusedSimpArgs false

theorem insT_cons (t : Turn) (u : List Turn) (x : Turn) : insT (t :: u) x = if t.id.less x.id = true then t :: insT u x else x :: t :: u := by
  unfold insT
  rw [placeOf_cons]
  split
  · rfl
  · rfl
theorem insT_sorted (x : Turn) : ∀ {ts : List Turn}, ts.Pairwise (fun a b => a.id.less b.id = true) → (∀ t ∈ ts, t.id ≠ x.id) → (insT ts x).Pairwise (fun a b => a.id.less b.id = true)
  | [], _, _ => by simp [insT, placeOf', putAt]
  | t :: u, h, hn => by
    rw [List.pairwise_cons] at h
    rw [insT_cons]
    split
    · rename_i hl
      rw [List.pairwise_cons]
      refine ⟨fun y hy => ?_, insT_sorted x h.2 fun t ht => hn t (by simp [ht])⟩
      rcases mem_putAt.1 hy with rfl | hy
      · exact hl
      · exact h.1 y hy
    · rename_i hl
      have hxt : x.id.less t.id = true := by
        cases hh : x.id.less t.id
        · exact absurd (less_total (by simpa using hl) hh) (hn t (by simp))
        · rfl
      rw [List.pairwise_cons]
      refine ⟨fun y hy => ?_, List.pairwise_cons.2 h⟩
      rcases List.mem_cons.1 hy with rfl | hy
      · exact hxt
      · exact less_trans hxt (h.1 y hy)
theorem turnsTo_mem {l : List Entry'} {c : Int} : ∀ {k : Nat}, k ≤ l.length → ∀ t, t ∈ turnsTo l c k ↔ ∃ e ∈ l.take k, bothOf e.colors c = true ∧ t = ⟨e.id, needsL l c e.id⟩
  | 0, _, t => by simp [turnsTo]
  | k + 1, h, t => by
    rw [turnsTo_snoc h, take_snoc h]
    have ih := turnsTo_mem (l := l) (c := c) (k := k) (by omega) t
    unfold turnStep
    split
    · rename_i hb
      unfold insT
      rw [mem_putAt, ih]
      constructor
      · rintro (rfl | ⟨e, he, h1, h2⟩)
        · exact ⟨l[k], List.mem_append.2 (.inr (List.mem_singleton.2 rfl)), hb, rfl⟩
        · exact ⟨e, List.mem_append.2 (.inl he), h1, h2⟩
      · rintro ⟨e, he, h1, h2⟩
        rcases List.mem_append.1 he with he | he
        · exact .inr ⟨e, he, h1, h2⟩
        · have : e = l[k] := by simpa using he
          subst this
          exact .inl h2
    · rename_i hb
      rw [ih]
      constructor
      · rintro ⟨e, he, h1, h2⟩
        exact ⟨e, List.mem_append.2 (.inl he), h1, h2⟩
      · rintro ⟨e, he, h1, h2⟩
        rcases List.mem_append.1 he with he | he
        · exact ⟨e, he, h1, h2⟩
        · have : e = l[k] := by simpa using he
          subst this
          exact absurd h1 hb
theorem turnsTo_sorted {l : List Entry'} (hr : Right l) {c : Int} : ∀ {k : Nat}, k ≤ l.length → (turnsTo l c k).Pairwise (fun a b => a.id.less b.id = true)
  | 0, _ => by simp [turnsTo]
  | k + 1, h => by
    rw [turnsTo_snoc h]
    have ih := turnsTo_sorted hr (c := c) (k := k) (by omega)
    unfold turnStep
    split
    · refine insT_sorted _ ih fun t ht e => ?_
      obtain ⟨e', he', _, rfl⟩ := (turnsTo_mem (by omega) t).1 ht
      exact (hr.get h).new e' he' e
    · exact ih
theorem turns_ids {l : List Entry'} (hr : Right l) {c : Int} (hc : 1 ≤ c ∧ c ≤ 7) : (turnsOf l c).map (·.id) = colIds l c := by
  refine sorted_ext ?_ (allIds_sorted.filter _) fun x => ?_
  · rw [List.pairwise_map]
    exact turnsTo_sorted hr (Nat.le_refl _)
  · rw [mem_colIds hr, colored_iff, List.mem_map]
    constructor
    · rintro ⟨t, ht, rfl⟩
      obtain ⟨e, he, h1, rfl⟩ := (turnsTo_mem (Nat.le_refl _) t).1 ht
      rw [List.take_of_length_le (Nat.le_refl _)] at he
      exact ⟨e, he, rfl, by rw [← meets_bothOf (hr.colors he) hc]; exact h1⟩
    · rintro ⟨e, he, rfl, h1⟩
      exact ⟨⟨e.id, needsL l c e.id⟩, (turnsTo_mem (Nat.le_refl _) _).2 ⟨e, by rw [List.take_of_length_le (Nat.le_refl _)]; exact he, by rw [meets_bothOf (hr.colors he) hc]; exact h1, rfl⟩, rfl⟩
theorem turns_may {l : List Entry'} (hr : Right l) {c : Int} (hc : 1 ≤ c ∧ c ≤ 7) (played : List Id) {t : Turn} (ht : t ∈ turnsOf l c) : mayT played t = mayP l c played t.id := by
  obtain ⟨e, he, h1, rfl⟩ := (turnsTo_mem (Nat.le_refl _) t).1 ht
  unfold mayT mayP
  simp only
  rw [needsL_all hr hc]
theorem find_map_of {α β : Type} {f : α → β} {q : α → Bool} {r : β → Bool} : ∀ {l : List α}, (∀ a ∈ l, q a = r (f a)) → (l.find? q).map f = (l.map f).find? r
  | [], _ => rfl
  | a :: t, h => by
    rw [List.find?_cons, List.map_cons, List.find?_cons, ← h a (by simp)]
    cases q a with
    | true => rfl
    | false => exact find_map_of fun x hx => h x (by simp [hx])
theorem play_find {l : List Entry'} (hr : Right l) {c : Int} (hc : 1 ≤ c ∧ c ≤ 7) (played : List Id) (p : Id → Bool) : ((turnsOf l c).find? fun t => p t.id && mayT played t).map (·.id) = (colIds l c).find? fun x => p x && mayP l c played x := by
  rw [← turns_ids hr hc]
  exact find_map_of fun t ht => by rw [turns_may hr hc played ht]
theorem play_one {l : List Entry'} (hr : Right l) {c : Int} (hc : 1 ≤ c ∧ c ≤ 7) (played : List Id) (x : Id) : ((turnsOf l c).find? fun t => isId2 t.id x && mayT played t).map (·.id) = if (colored l c x && mayP l c played x) = true then some x else none := by
  rw [play_find hr hc played (fun y => isId2 y x)]
  by_cases h : (colored l c x && mayP l c played x) = true
  · rw [if_pos h]
    rw [Bool.and_eq_true] at h
    cases hf : (colIds l c).find? fun y => isId2 y x && mayP l c played y with
    | none =>
      rw [List.find?_eq_none] at hf
      have := hf x ((mem_colIds hr).2 h.1)
      rw [isId2_iff.2 rfl, h.2] at this
      simp at this
    | some y =>
      have := List.find?_some hf
      simp only [Bool.and_eq_true] at this
      rw [isId2_iff.1 this.1]
  · rw [if_neg h, List.find?_eq_none]
    intro y hy hh
    rw [Bool.and_eq_true] at hh
    rw [isId2_iff.1 hh.1] at hy hh
    exact h (by rw [(mem_colIds hr).1 hy, hh.2]; rfl)
theorem play_next {l : List Entry'} (hr : Right l) {c : Int} (hc : 1 ≤ c ∧ c ≤ 7) (played : List Id) : ((turnsOf l c).find? fun t => true && mayT played t).map (·.id) = nextOf l c played := by
  rw [play_find hr hc played (fun _ => true)]
  rfl
def moreAns (l : List Entry') (c : Int) (ids : List Id) : List Id := if begunErr l c ids = 0 then moreOf l c ids else []
set_option maxHeartbeats 0 in
theorem more_ok (l : List Entry') (hl : LogOk l) (c : Int) (ids : List Id) (hi : ids.length ≤ 140737488355326) : PCall Try.prog 30 [.dat (.list (l.map Entry'.enc)), dInt c, .dat (.list (ids.map Id.enc))] (.tup [.dat (.list ((moreAns l c ids).map Id.enc)), dInt (begunErr l c ids)]) := by
  refine pcall_cut tab_all tab_mixed Try.func30 (by kernel_rfl) Try.ntmps30 rfl ?_
  conv => whnf
  conv => whnf
  repeat (first | (refine Conf.mk (by kernel_rfl) ?_; conv => whnf) | (refine SeqOk.go ?_; conv => whnf))
  refine .data _ _ (orderCheck_ok l hl ids (by omega)) rfl ?_
  conv => whnf
  repeat (first | (refine Conf.mk (by kernel_rfl) ?_; conv => whnf) | (refine SeqOk.go ?_; conv => whnf))
  by_cases h0 : idsErr l ids = 0
  · obtain ⟨hr, hin, hnd⟩ := idsErr_ok h0
    have hlen := hr.len
    have hil := ids_len hin hnd
    refine BoolCase.no (by rw [h0]; rfl) ?_
    conv => whnf
    repeat (first | (refine Conf.mk (by kernel_rfl) ?_; conv => whnf) | (refine SeqOk.go ?_; conv => whnf))
    refine ⟨fun h2 => ?_, fun h2 => ?_⟩
    · have hc : c < 1 ∨ 7 < c := .inl (by simpa using h2)
      have he : begunErr l c ids = 3 := by unfold begunErr; rw [if_pos h0, if_pos hc]
      have ha : moreAns l c ids = [] := by unfold moreAns; rw [he]; rfl
      conv => whnf
      repeat (first | (refine Conf.mk (by kernel_rfl) ?_; conv => whnf) | (refine SeqOk.go ?_; conv => whnf))
      exact Ret.to (by rw [he, ha]; rfl)
    · have h2 : ¬ c < 1 := by simpa using h2
      conv => whnf
      repeat (first | (refine Conf.mk (by kernel_rfl) ?_; conv => whnf) | (refine SeqOk.go ?_; conv => whnf))
      refine ⟨fun h3 => ?_, fun h3 => ?_⟩
      · have hc : c < 1 ∨ 7 < c := .inr (by simpa using h3)
        have he : begunErr l c ids = 3 := by unfold begunErr; rw [if_pos h0, if_pos hc]
        have ha : moreAns l c ids = [] := by unfold moreAns; rw [he]; rfl
        conv => whnf
        repeat (first | (refine Conf.mk (by kernel_rfl) ?_; conv => whnf) | (refine SeqOk.go ?_; conv => whnf))
        exact Ret.to (by rw [he, ha]; rfl)
      · have h3 : ¬ 7 < c := by simpa using h3
        have hc : 1 ≤ c ∧ c ≤ 7 := by omega
        have hbp := begun_play hr (c := c) hnd
        have he : begunErr l c ids = if playOk l c [] ids = true then 0 else 4 := by unfold begunErr; rw [if_pos h0, if_neg (by omega), hbp]
        have htl : (turnsOf l c).length ≤ 40 := Nat.le_trans (turnsTo_len (Nat.le_refl _)) hr.len
        have htn : ∀ t ∈ turnsOf l c, t.needs.length ≤ 1000 := fun t ht => by
          obtain ⟨e, _, _, rfl⟩ := (turnsTo_mem (Nat.le_refl _) t).1 ht
          have := needsL_len l c e.id
          simp only
          omega
        conv => whnf
        repeat (first | (refine Conf.mk (by kernel_rfl) ?_; conv => whnf) | (refine SeqOk.go ?_; conv => whnf))
        refine .eff [] _ _ _ _ 0 (newPlayer_ok hr c) rfl rfl rfl rfl rfl ?_
        conv => whnf
        refine SeqOk.cut (fun s => playOk l c [] ids = true ∧ s = ⟨[(9, .ptr 0 0)], 2, [(0, .vars 80 3 [dInt c, .row 1, .dat (.list ((turnsOf l c).map Turn.enc))] true), (1, .rows 25 2 (ids.map Id.enc) true)]⟩) ?_ ?_
        · conv => whnf
          repeat (first | (refine Conf.mk (by kernel_rfl) ?_; conv => whnf) | (refine SeqOk.go ?_; conv => whnf))
          refine LoopOk.mk (fun m s => ∃ i, i + m = ids.length ∧ playOk l c [] (ids.take i) = true ∧ s = ⟨[(29, dInt i), (28, dInt (ids.map Id.enc).length), (27, .dat (.list (ids.map Id.enc))), (9, .ptr 0 0)], 2, [(0, .vars 80 3 [dInt c, .row 1, .dat (.list ((turnsOf l c).map Turn.enc))] true), (1, .rows 25 2 ((ids.take i).map Id.enc) true)]⟩) ids.length ((Into.rowAt 0 80 3 [dInt c, .nil, .dat (.list ((turnsOf l c).map Turn.enc))] 1 25 2 rfl (Nat.lt_succ_self 0) rfl).trans fun s' hs' => by
            subst hs'
            exact Into.mono (Into.to [0, 1] [(29, dInt (0 : Nat)), (28, dInt (ids.map Id.enc).length), (27, .dat (.list (ids.map Id.enc))), (9, .ptr 0 0)] [(0, .vars 80 3 [dInt c, .row 1, .dat (.list ((turnsOf l c).map Turn.enc))] true), (1, .rows 25 2 ((ids.take 0).map Id.enc) true)] (by repeat (first | exact trivial | refine ⟨.same (congrArg dInt (wrap_up (by omega))), ?_⟩ | refine ⟨.same rfl, ?_⟩ | refine ⟨.any _, ?_⟩)) ⟨⟨rfl, rfl, rfl, .same rfl, rfl, .same rfl, rfl, .same rfl, rfl, trivial⟩, ⟨rfl, rfl, rfl, rfl⟩, trivial⟩ rfl rfl) fun s' h => ⟨0, by omega, rfl, h⟩) ?_
          rintro m s ⟨i, him, hp, rfl⟩
          conv => whnf
          repeat (first | (refine Conf.mk (by kernel_rfl) ?_; conv => whnf) | (refine SeqOk.go ?_; conv => whnf))
          refine ⟨fun h => ?_, fun h => ?_⟩
          · have hi' := lt_of_len h
            have hsp : playOk l c [] ids = (playOk l c [] (ids.take i) && ((colored l c ids[i] && mayP l c (ids.take i) ids[i]) && playOk l c (ids.take i ++ [ids[i]]) (ids.drop (i + 1)))) := by
              conv => lhs; rw [← List.take_append_drop i ids, List.drop_eq_getElem_cons hi', playOk_append]
              rfl
            have hpo := play_one hr hc (ids.take i) ids[i]
            conv => whnf
            repeat (first | (refine Conf.mk (by kernel_rfl) ?_; conv => whnf) | (refine SeqOk.go ?_; conv => whnf))
            refine AtIdx.ofMap hi' rfl ?_
            conv => whnf
            repeat (first | (refine Conf.mk (by kernel_rfl) ?_; conv => whnf) | (refine SeqOk.go ?_; conv => whnf))
            refine .some [0, 1, 2] _ _ _ rfl (play_ok ids[i] c (ids.take i) (turnsOf l c) (by rw [List.length_take]; omega) (by omega) htn fun y => more1_ok ids[i] y) rfl rfl rfl rfl rfl ?_
            rintro x Hc' m' (⟨t, hf, rfl, rfl, hm'⟩ | ⟨hf, rfl, rfl, hm'⟩)
            · obtain rfl : m' = 1 := by simp at hm'; omega
              rw [hf] at hpo
              have hcond : (colored l c ids[i] && mayP l c (ids.take i) ids[i]) = true ∧ t.id = ids[i] := by
                split at hpo
                · rename_i hh; exact ⟨hh, by simpa using hpo⟩
                · simp at hpo
              rw [hcond.2]
              conv => whnf
              repeat (first | (refine Conf.mk (by kernel_rfl) ?_; conv => whnf) | (refine SeqOk.go ?_; conv => whnf))
              refine BoolCase.no rfl ?_
              conv => whnf
              repeat (first | (refine Conf.mk (by kernel_rfl) ?_; conv => whnf) | (refine SeqOk.go ?_; conv => whnf))
              refine Into.mono (Into.to [0, 3] [(29, dInt (i + 1 : Nat)), (28, dInt (ids.map Id.enc).length), (27, .dat (.list (ids.map Id.enc))), (9, .ptr 0 0)] [(0, .vars 80 3 [dInt c, .row 1, .dat (.list ((turnsOf l c).map Turn.enc))] true), (1, .rows 25 2 ((ids.take (i + 1)).map Id.enc) true)] (by repeat (first | exact trivial | refine ⟨.same (congrArg dInt (wrap_up (by omega))), ?_⟩ | refine ⟨.same rfl, ?_⟩ | refine ⟨.any _, ?_⟩)) ⟨⟨rfl, rfl, rfl, .same rfl, rfl, .same rfl, rfl, .same rfl, rfl, trivial⟩, ⟨rfl, rfl, rfl, ?_⟩, trivial⟩ rfl rfl) fun s' h => ⟨m - 1, by omega, i + 1, by omega, ?_, h⟩
              · rw [take_snoc hi']
              · rw [take_snoc hi', playOk_append, hp]
                simp only [List.nil_append, playOk, hcond.1, Bool.and_self]
            · obtain rfl : m' = 0 := by simp at hm'; omega
              rw [hf] at hpo
              have hcond : (colored l c ids[i] && mayP l c (ids.take i) ids[i]) = false := by
                split at hpo
                · simp at hpo
                · rename_i hh; simpa using hh
              have hno : playOk l c [] ids = false := by rw [hsp, hcond, Bool.false_and, Bool.and_false]
              have he4 : begunErr l c ids = 4 := by rw [he, hno]; rfl
              have ha4 : moreAns l c ids = [] := by unfold moreAns; rw [he4]; rfl
              conv => whnf
              repeat (first | (refine Conf.mk (by kernel_rfl) ?_; conv => whnf) | (refine SeqOk.go ?_; conv => whnf))
              refine BoolCase.yes rfl ?_
              conv => whnf
              repeat (first | (refine Conf.mk (by kernel_rfl) ?_; conv => whnf) | (refine SeqOk.go ?_; conv => whnf))
              exact Ret.to (by rw [he4, ha4]; rfl)
          · have hi' := ge_of_len h
            rw [List.take_of_length_le hi'] at hp
            conv => whnf
            repeat (first | (refine Conf.mk (by kernel_rfl) ?_; conv => whnf) | (refine SeqOk.go ?_; conv => whnf))
            refine Into.mono (Into.to [0, 1] [(9, .ptr 0 0)] [(0, .vars 80 3 [dInt c, .row 1, .dat (.list ((turnsOf l c).map Turn.enc))] true), (1, .rows 25 2 (ids.map Id.enc) true)] (by repeat (first | exact trivial | refine ⟨.same (congrArg dInt (wrap_up (by omega))), ?_⟩ | refine ⟨.same rfl, ?_⟩ | refine ⟨.any _, ?_⟩)) ⟨⟨rfl, rfl, rfl, .same rfl, rfl, .same rfl, rfl, .same rfl, rfl, trivial⟩, ⟨rfl, rfl, rfl, ?_⟩, trivial⟩ rfl rfl) fun s' h => ⟨hp, h⟩
            rw [List.take_of_length_le hi']
        · rintro s ⟨hp, rfl⟩
          have he0 : begunErr l c ids = 0 := by rw [he, hp]; rfl
          have ha0 : moreAns l c ids = moreOf l c ids := by unfold moreAns; rw [if_pos he0]
          conv => whnf
          repeat (first | (refine Conf.mk (by kernel_rfl) ?_; conv => whnf) | (refine SeqOk.go ?_; conv => whnf))
          refine LoopOk.hide fun Q1 hQ1 => ?_
          refine LoopOk.mk (fun m s => ∃ out, moreOf l c ids = moreOf l c out ∧ (∀ x ∈ out, ∃ e ∈ l, e.id = x) ∧ out.Nodup ∧ m = left l c out ∧ s = ⟨[(9, .ptr 0 0)], 2, [(0, .vars 80 3 [dInt c, .row 1, .dat (.list ((turnsOf l c).map Turn.enc))] true), (1, .rows 25 2 (out.map Id.enc) true)]⟩) (left l c ids) (Into.mono (Into.to [0, 1] [(9, .ptr 0 0)] [(0, .vars 80 3 [dInt c, .row 1, .dat (.list ((turnsOf l c).map Turn.enc))] true), (1, .rows 25 2 (ids.map Id.enc) true)] (by repeat (first | exact trivial | refine ⟨.same (congrArg dInt (wrap_up (by omega))), ?_⟩ | refine ⟨.same rfl, ?_⟩ | refine ⟨.any _, ?_⟩)) ⟨⟨rfl, rfl, rfl, .same rfl, rfl, .same rfl, rfl, .same rfl, rfl, trivial⟩, ⟨rfl, rfl, rfl, rfl⟩, trivial⟩ rfl rfl) fun s' h => ⟨ids, rfl, hin, hnd, rfl, h⟩) ?_
          rintro m s ⟨out, hmo, hon, hod, hm, rfl⟩
          have hol := ids_len hon hod
          have hnx := play_next hr hc out
          conv => whnf
          repeat (first | (refine Conf.mk (by kernel_rfl) ?_; conv => whnf) | (refine SeqOk.go ?_; conv => whnf))
          refine .some [0, 1] _ _ _ rfl (playAny_ok c out (turnsOf l c) (by omega) (by omega) htn more2_ok) rfl rfl rfl rfl rfl ?_
          rintro x Hc' m' (⟨t, hf, rfl, rfl, hm'⟩ | ⟨hf, rfl, rfl, hm'⟩)
          · obtain rfl : m' = 1 := by simp at hm'; omega
            rw [hf] at hnx
            have hx : nextOf l c out = some t.id := hnx.symm
            conv => whnf
            repeat (first | (refine Conf.mk (by kernel_rfl) ?_; conv => whnf) | (refine SeqOk.go ?_; conv => whnf))
            refine BoolCase.yes rfl ?_
            conv => whnf
            repeat (first | (refine Conf.mk (by kernel_rfl) ?_; conv => whnf) | (refine SeqOk.go ?_; conv => whnf))
            exact Into.mono (Into.to [0, 2] [(9, .ptr 0 0)] [(0, .vars 80 3 [dInt c, .row 1, .dat (.list ((turnsOf l c).map Turn.enc))] true), (1, .rows 25 2 ((out ++ [t.id]).map Id.enc) true)] (by repeat (first | exact trivial | refine ⟨.same (congrArg dInt (wrap_up (by omega))), ?_⟩ | refine ⟨.same rfl, ?_⟩ | refine ⟨.any _, ?_⟩)) ⟨⟨rfl, rfl, rfl, .same rfl, rfl, .same rfl, rfl, .same rfl, rfl, trivial⟩, ⟨rfl, rfl, rfl, rfl⟩, trivial⟩ rfl rfl) fun s' h => ⟨left l c (out ++ [t.id]), by have := nextOf_left hx; omega, out ++ [t.id], by rw [hmo, moreOf_some hx], fun y hy => (by
              rcases List.mem_append.1 hy with hy | hy
              · exact hon y hy
              · have : y = t.id := by simpa using hy
                rw [this]
                obtain ⟨e, he, h1, _⟩ := colored_iff.1 ((mem_colIds hr).1 (nextOf_some hx).1)
                exact ⟨e, he, h1⟩), (by
              rw [List.nodup_append]
              refine ⟨hod, by simp, fun y hy z hz e => ?_⟩
              have : z = t.id := by simpa using hz
              subst this
              exact ((mayP_iff hr).1 (nextOf_some hx).2).1 (by rw [← e]; exact hy)), rfl, h⟩
          · obtain rfl : m' = 0 := by simp at hm'; omega
            rw [hf] at hnx
            have hx : nextOf l c out = none := hnx.symm
            conv => whnf
            repeat (first | (refine Conf.mk (by kernel_rfl) ?_; conv => whnf) | (refine SeqOk.go ?_; conv => whnf))
            refine BoolCase.no rfl ?_
            conv => whnf
            repeat (first | (refine Conf.mk (by kernel_rfl) ?_; conv => whnf) | (refine SeqOk.go ?_; conv => whnf))
            subst hQ1
            conv => whnf
            repeat (first | (refine Conf.mk (by kernel_rfl) ?_; conv => whnf) | (refine SeqOk.go ?_; conv => whnf))
            exact Ret.to (by rw [ha0, he0, hmo, moreOf_none hx]; rfl)
  · have he : begunErr l c ids = idsErr l ids := by unfold begunErr; rw [if_neg h0]
    have ha : moreAns l c ids = [] := by unfold moreAns; rw [he, if_neg h0]
    refine BoolCase.yes (by simpa using h0) ?_
    conv => whnf
    repeat (first | (refine Conf.mk (by kernel_rfl) ?_; conv => whnf) | (refine SeqOk.go ?_; conv => whnf))
    exact Ret.to (by rw [he, ha]; rfl)
theorem first_ok (l : List Entry') (hl : LogOk l) (c : Int) : PCall Try.prog 29 [.dat (.list (l.map Entry'.enc)), dInt c] (.tup [.dat (.list ((moreAns l c []).map Id.enc)), dInt (begunErr l c [])]) := by
  refine pcall_intro tab_all tab_mixed Try.func29 (by kernel_rfl) Try.ntmps29 rfl ?_
  conv => whnf
  refine .data _ _ (more_ok l hl c [] (by simp)) rfl ?_
  conv => whnf
  repeat (first | (refine Conf.mk (by kernel_rfl) ?_; conv => whnf) | (refine SeqOk.go ?_; conv => whnf))
  exact Ret.to rfl
end Go.Proofs.Ytlioojekjnigiac.AM
/- Orders: what must be in any case; what the document says of them, called. -/
namespace Go.Proofs.Ytlioojekjnigiac.AM
set_option linter.unusedVariables false
set_option linter.unusedSimpArgs false

set_option maxHeartbeats 0 in
theorem orderBegun_ok : PCall Try.prog 35 [] (dBool true) := by
  have e1 : begunErr someLog 1 [] = 0 := by kernel_rfl
  have a1 : moreAns someLog 1 [] = [⟨0, 1⟩, ⟨0, 2⟩, ⟨1, 1⟩] := by kernel_rfl
  have e2 : begunErr someLog 3 [⟨1, 1⟩] = 0 := by kernel_rfl
  have a2 : moreAns someLog 3 [⟨1, 1⟩] = [⟨1, 1⟩, ⟨0, 1⟩, ⟨0, 2⟩, ⟨1, 2⟩] := by kernel_rfl
  have e3 : idsErr someLog [⟨1, 1⟩, ⟨0, 1⟩, ⟨1, 2⟩] = 0 := by kernel_rfl
  have a3 : isAns someLog [⟨1, 1⟩, ⟨0, 1⟩, ⟨1, 2⟩] = true := by kernel_rfl
  have e4 : idsErr someLog [⟨1, 2⟩, ⟨0, 1⟩] = 0 := by kernel_rfl
  have a4 : isAns someLog [⟨1, 2⟩, ⟨0, 1⟩] = false := by kernel_rfl
  have h1 := first_ok someLog someLog_ok 1
  have h2 := more_ok someLog someLog_ok 3 [⟨1, 1⟩] (by decide)
  have h3 := Is_ok someLog someLog_ok [⟨1, 1⟩, ⟨0, 1⟩, ⟨1, 2⟩] (by decide)
  have h4 := Is_ok someLog someLog_ok [⟨1, 2⟩, ⟨0, 1⟩] (by decide)
  rw [e1, a1] at h1
  rw [e2, a2] at h2
  rw [e3, a3] at h3
  rw [e4, a4] at h4
  refine pcall_intro tab_all tab_mixed Try.func35 (by kernel_rfl) Try.ntmps35 rfl ?_
  conv => whnf
  refine .data _ _ entries_ok rfl ?_
  conv => whnf
  repeat (first | (refine Conf.mk (by kernel_rfl) ?_; conv => whnf) | (refine SeqOk.go ?_; conv => whnf))
  refine .data _ _ h1 rfl ?_
  conv => whnf
  repeat (first | (refine Conf.mk (by kernel_rfl) ?_; conv => whnf) | (refine SeqOk.go ?_; conv => whnf))
  refine .data _ _ entries_ok rfl ?_
  conv => whnf
  repeat (first | (refine Conf.mk (by kernel_rfl) ?_; conv => whnf) | (refine SeqOk.go ?_; conv => whnf))
  refine .data _ _ (id_ok _ _) rfl ?_
  conv => whnf
  repeat (first | (refine Conf.mk (by kernel_rfl) ?_; conv => whnf) | (refine SeqOk.go ?_; conv => whnf))
  refine .keep [0] _ _ h2 rfl rfl rfl rfl ?_
  conv => whnf
  repeat (first | (refine Conf.mk (by kernel_rfl) ?_; conv => whnf) | (refine SeqOk.go ?_; conv => whnf))
  refine .data _ _ entries_ok rfl ?_
  conv => whnf
  repeat (first | (refine Conf.mk (by kernel_rfl) ?_; conv => whnf) | (refine SeqOk.go ?_; conv => whnf))
  refine .data _ _ (id_ok _ _) rfl ?_
  conv => whnf
  repeat (first | (refine Conf.mk (by kernel_rfl) ?_; conv => whnf) | (refine SeqOk.go ?_; conv => whnf))
  refine .data _ _ (id_ok _ _) rfl ?_
  conv => whnf
  repeat (first | (refine Conf.mk (by kernel_rfl) ?_; conv => whnf) | (refine SeqOk.go ?_; conv => whnf))
  refine .data _ _ (id_ok _ _) rfl ?_
  conv => whnf
  repeat (first | (refine Conf.mk (by kernel_rfl) ?_; conv => whnf) | (refine SeqOk.go ?_; conv => whnf))
  refine .look _ _ h3 rfl rfl ?_
  conv => whnf
  repeat (first | (refine Conf.mk (by kernel_rfl) ?_; conv => whnf) | (refine SeqOk.go ?_; conv => whnf))
  refine .data _ _ entries_ok rfl ?_
  conv => whnf
  repeat (first | (refine Conf.mk (by kernel_rfl) ?_; conv => whnf) | (refine SeqOk.go ?_; conv => whnf))
  refine .data _ _ (id_ok _ _) rfl ?_
  conv => whnf
  repeat (first | (refine Conf.mk (by kernel_rfl) ?_; conv => whnf) | (refine SeqOk.go ?_; conv => whnf))
  refine .data _ _ (id_ok _ _) rfl ?_
  conv => whnf
  repeat (first | (refine Conf.mk (by kernel_rfl) ?_; conv => whnf) | (refine SeqOk.go ?_; conv => whnf))
  refine .look _ _ h4 rfl rfl ?_
  conv => whnf
  repeat (first | (refine Conf.mk (by kernel_rfl) ?_; conv => whnf) | (refine SeqOk.go ?_; conv => whnf))
  refine BoolCase.yes rfl ?_
  conv => whnf
  repeat (first | (refine Conf.mk (by kernel_rfl) ?_; conv => whnf) | (refine SeqOk.go ?_; conv => whnf))
  refine BoolCase.yes rfl ?_
  conv => whnf
  repeat (first | (refine Conf.mk (by kernel_rfl) ?_; conv => whnf) | (refine SeqOk.go ?_; conv => whnf))
  refine BoolCase.yes rfl ?_
  conv => whnf
  repeat (first | (refine Conf.mk (by kernel_rfl) ?_; conv => whnf) | (refine SeqOk.go ?_; conv => whnf))
  refine BoolCase.yes rfl ?_
  conv => whnf
  repeat (first | (refine Conf.mk (by kernel_rfl) ?_; conv => whnf) | (refine SeqOk.go ?_; conv => whnf))
  refine BoolCase.yes rfl ?_
  conv => whnf
  repeat (first | (refine Conf.mk (by kernel_rfl) ?_; conv => whnf) | (refine SeqOk.go ?_; conv => whnf))
  refine BoolCase.yes rfl ?_
  conv => whnf
  repeat (first | (refine Conf.mk (by kernel_rfl) ?_; conv => whnf) | (refine SeqOk.go ?_; conv => whnf))
  refine .data _ _ (id_ok _ _) rfl ?_
  conv => whnf
  repeat (first | (refine Conf.mk (by kernel_rfl) ?_; conv => whnf) | (refine SeqOk.go ?_; conv => whnf))
  refine .data _ _ (id_ok _ _) rfl ?_
  conv => whnf
  repeat (first | (refine Conf.mk (by kernel_rfl) ?_; conv => whnf) | (refine SeqOk.go ?_; conv => whnf))
  refine .data _ _ (id_ok _ _) rfl ?_
  conv => whnf
  repeat (first | (refine Conf.mk (by kernel_rfl) ?_; conv => whnf) | (refine SeqOk.go ?_; conv => whnf))
  refine .look _ _ (same_ok [⟨0, 1⟩, ⟨0, 2⟩, ⟨1, 1⟩] (by decide)) rfl rfl ?_
  conv => whnf
  repeat (first | (refine Conf.mk (by kernel_rfl) ?_; conv => whnf) | (refine SeqOk.go ?_; conv => whnf))
  refine .data _ _ (id_ok _ _) rfl ?_
  conv => whnf
  repeat (first | (refine Conf.mk (by kernel_rfl) ?_; conv => whnf) | (refine SeqOk.go ?_; conv => whnf))
  refine .data _ _ (id_ok _ _) rfl ?_
  conv => whnf
  repeat (first | (refine Conf.mk (by kernel_rfl) ?_; conv => whnf) | (refine SeqOk.go ?_; conv => whnf))
  refine .data _ _ (id_ok _ _) rfl ?_
  conv => whnf
  repeat (first | (refine Conf.mk (by kernel_rfl) ?_; conv => whnf) | (refine SeqOk.go ?_; conv => whnf))
  refine .data _ _ (id_ok _ _) rfl ?_
  conv => whnf
  repeat (first | (refine Conf.mk (by kernel_rfl) ?_; conv => whnf) | (refine SeqOk.go ?_; conv => whnf))
  refine .look _ _ (same_ok [⟨1, 1⟩, ⟨0, 1⟩, ⟨0, 2⟩, ⟨1, 2⟩] (by decide)) rfl rfl ?_
  conv => whnf
  repeat (first | (refine Conf.mk (by kernel_rfl) ?_; conv => whnf) | (refine SeqOk.go ?_; conv => whnf))
  exact Ret.bool rfl
theorem moreOf_len {l : List Entry'} (hr : Right l) {c : Int} {ids : List Id} (hin : ∀ x ∈ ids, ∃ e ∈ l, e.id = x) (hnd : ids.Nodup) : (moreOf l c ids).length ≤ 40 ∧ (moreOf l c ids).Nodup ∧ ∀ x ∈ moreOf l c ids, ∃ e ∈ l, e.id = x := by
  obtain ⟨⟨h1, h2⟩, _⟩ := moreOf_ind (l := l) (c := c) (p := fun o => o.Nodup ∧ ∀ x ∈ o, ∃ e ∈ l, e.id = x) (fun out x ⟨k1, k2⟩ hx => by
    refine ⟨?_, fun y hy => ?_⟩
    · rw [List.nodup_append]
      refine ⟨k1, by simp, fun y hy z hz e => ?_⟩
      have : z = x := by simpa using hz
      subst this
      exact ((mayP_iff hr).1 (nextOf_some hx).2).1 (by rw [← e]; exact hy)
    · rcases List.mem_append.1 hy with hy | hy
      · exact k2 y hy
      · have : y = x := by simpa using hy
        rw [this]
        obtain ⟨e, he, h1, _⟩ := colored_iff.1 ((mem_colIds hr).1 (nextOf_some hx).1)
        exact ⟨e, he, h1⟩) ids ⟨hnd, hin⟩
  exact ⟨Nat.le_trans (ids_len h2 h1) hr.len, h1, h2⟩
theorem moreAns_len (l : List Entry') (c : Int) (ids : List Id) : (moreAns l c ids).length ≤ 40 := by
  unfold moreAns
  split
  · rename_i h
    obtain ⟨hr, hin, hnd⟩ := idsErr_ok (begunErr_ok h).1
    exact (moreOf_len hr hin hnd).1
  · simp
set_option maxHeartbeats 0 in
theorem orderTells_ok (l : List Entry') (hl : LogOk l) (c : Int) (ids : List Id) (hi : ids.length ≤ 140737488355326) : PCall Try.prog 8 [.dat (.list (l.map Entry'.enc)), dInt c, .dat (.list (ids.map Id.enc))] (dBool true) := by
  have hl1 := moreAns_len l c []
  have hl2 := moreAns_len l c ids
  refine pcall_cut tab_all tab_mixed Try.func8 (by kernel_rfl) Try.ntmps8 rfl ?_
  conv => whnf
  conv => whnf
  refine .data _ _ (Is_ok l hl ids hi) rfl ?_
  conv => whnf
  refine .data _ _ (first_ok l hl c) rfl ?_
  conv => whnf
  refine .data _ _ (more_ok l hl c ids hi) rfl ?_
  conv => whnf
  refine .data _ _ (checkLog_ok l hl) rfl ?_
  conv => whnf
  refine SeqOk.cut' ⟨[(0, .dat (.list (l.map Entry'.enc))), (1, dInt c), (2, .dat (.list (ids.map Id.enc))), (7, dBool (isAns l ids)), (8, dInt (idsErr l ids)), (9, .dat (.list ((moreAns l c []).map Id.enc))), (10, dInt (begunErr l c [])), (11, .dat (.list ((moreAns l c ids).map Id.enc))), (12, dInt (begunErr l c ids)), (13, dInt (idsErr l ids)), (14, .kb false)], 0, []⟩ ?_ ?_
  · conv => whnf
    refine ⟨fun h => ?_, fun h => ?_⟩
    · have h : logErr l = 0 := by simpa using h
      have he : idsErr l ids = idsLoop l [] ids := by unfold idsErr; rw [if_pos h]
      conv => whnf
      repeat (first | (refine Conf.mk (by kernel_rfl) ?_; conv => whnf) | (refine SeqOk.go ?_; conv => whnf))
      refine .data _ _ (checkIds_ok l hl ids (by omega)) rfl ?_
      conv => whnf
      repeat (first | (refine Conf.mk (by kernel_rfl) ?_; conv => whnf) | (refine SeqOk.go ?_; conv => whnf))
      exact Into.to [] [(0, .dat (.list (l.map Entry'.enc))), (1, dInt c), (2, .dat (.list (ids.map Id.enc))), (7, dBool (isAns l ids)), (8, dInt (idsErr l ids)), (9, .dat (.list ((moreAns l c []).map Id.enc))), (10, dInt (begunErr l c [])), (11, .dat (.list ((moreAns l c ids).map Id.enc))), (12, dInt (begunErr l c ids)), (13, dInt (idsErr l ids)), (14, .kb false)] [] ⟨.same rfl, .same rfl, .same rfl, .same rfl, .same rfl, .same rfl, .same rfl, .same rfl, .same rfl, .same (congrArg dInt he), .same rfl, trivial⟩ trivial rfl rfl
    · have h : logErr l ≠ 0 := by simpa using h
      have he : idsErr l ids = logErr l := by unfold idsErr; rw [if_neg h]
      conv => whnf
      repeat (first | (refine Conf.mk (by kernel_rfl) ?_; conv => whnf) | (refine SeqOk.go ?_; conv => whnf))
      exact Into.to [] [(0, .dat (.list (l.map Entry'.enc))), (1, dInt c), (2, .dat (.list (ids.map Id.enc))), (7, dBool (isAns l ids)), (8, dInt (idsErr l ids)), (9, .dat (.list ((moreAns l c []).map Id.enc))), (10, dInt (begunErr l c [])), (11, .dat (.list ((moreAns l c ids).map Id.enc))), (12, dInt (begunErr l c ids)), (13, dInt (idsErr l ids)), (14, .kb false)] [] ⟨.same rfl, .same rfl, .same rfl, .same rfl, .same rfl, .same rfl, .same rfl, .same rfl, .same rfl, .same (congrArg dInt he), .same rfl, trivial⟩ trivial rfl rfl
  · conv => whnf
    refine SeqOk.cut' ⟨[(0, .dat (.list (l.map Entry'.enc))), (1, dInt c), (2, .dat (.list (ids.map Id.enc))), (7, dBool (isAns l ids)), (8, dInt (idsErr l ids)), (9, .dat (.list ((moreAns l c []).map Id.enc))), (10, dInt (begunErr l c [])), (11, .dat (.list ((moreAns l c ids).map Id.enc))), (12, dInt (begunErr l c ids)), (13, dInt (idsErr l ids)), (14, dBool (isAns l ids))], 0, []⟩ ?_ ?_
    · conv => whnf
      by_cases h0 : idsErr l ids = 0
      · obtain ⟨hr, hin, hnd⟩ := idsErr_ok h0
        have ha : isAns l ids = isOrder l ids := by unfold isAns; rw [h0]; rfl
        refine BoolCase.yes (by rw [h0]; rfl) ?_
        conv => whnf
        repeat (first | (refine Conf.mk (by kernel_rfl) ?_; conv => whnf) | (refine SeqOk.go ?_; conv => whnf))
        refine .data _ _ (isOrderRef_ok hr ids hin hi) rfl ?_
        conv => whnf
        repeat (first | (refine Conf.mk (by kernel_rfl) ?_; conv => whnf) | (refine SeqOk.go ?_; conv => whnf))
        exact Into.to [] [(0, .dat (.list (l.map Entry'.enc))), (1, dInt c), (2, .dat (.list (ids.map Id.enc))), (7, dBool (isAns l ids)), (8, dInt (idsErr l ids)), (9, .dat (.list ((moreAns l c []).map Id.enc))), (10, dInt (begunErr l c [])), (11, .dat (.list ((moreAns l c ids).map Id.enc))), (12, dInt (begunErr l c ids)), (13, dInt (idsErr l ids)), (14, dBool (isAns l ids))] [] ⟨.same rfl, .same rfl, .same rfl, .same rfl, .same rfl, .same rfl, .same rfl, .same rfl, .same rfl, .same rfl, .same (congrArg dBool ha), trivial⟩ trivial rfl rfl
      · have ha : isAns l ids = false := by unfold isAns; rw [decide_eq_false h0]; rfl
        refine BoolCase.no (by simpa using h0) ?_
        rw [ha]
        conv => whnf
        repeat (first | (refine Conf.mk (by kernel_rfl) ?_; conv => whnf) | (refine SeqOk.go ?_; conv => whnf))
        exact Into.to [] [(0, .dat (.list (l.map Entry'.enc))), (1, dInt c), (2, .dat (.list (ids.map Id.enc))), (7, dBool false), (8, dInt (idsErr l ids)), (9, .dat (.list ((moreAns l c []).map Id.enc))), (10, dInt (begunErr l c [])), (11, .dat (.list ((moreAns l c ids).map Id.enc))), (12, dInt (begunErr l c ids)), (13, dInt (idsErr l ids)), (14, dBool false)] [] ⟨.same rfl, .same rfl, .same rfl, .same rfl, .same rfl, .same rfl, .same rfl, .same rfl, .same rfl, .same rfl, .kb false, trivial⟩ trivial rfl rfl
    · conv => whnf
      refine .data _ _ (checkBegun_ok l hl c [] (by simp)) rfl ?_
      conv => whnf
      refine .data _ _ (checkBegun_ok l hl c ids hi) rfl ?_
      conv => whnf
      refine SeqOk.cut' ⟨[(0, .dat (.list (l.map Entry'.enc))), (1, dInt c), (2, .dat (.list (ids.map Id.enc))), (7, dBool (isAns l ids)), (8, dInt (idsErr l ids)), (9, .dat (.list ((moreAns l c []).map Id.enc))), (10, dInt (begunErr l c [])), (11, .dat (.list ((moreAns l c ids).map Id.enc))), (12, dInt (begunErr l c ids)), (13, dInt (idsErr l ids)), (14, dBool (isAns l ids)), (15, dInt (begunErr l c [])), (16, dInt (begunErr l c ids)), (17, .dat (.list ((moreAns l c []).map Id.enc))), (18, .nil)], 0, []⟩ ?_ ?_
      · conv => whnf
        by_cases h0 : begunErr l c [] = 0
        · obtain ⟨hr, hin, hnd⟩ := idsErr_ok (begunErr_ok h0).1
          have ha : moreAns l c [] = moreOf l c [] := by unfold moreAns; rw [if_pos h0]
          refine BoolCase.yes (by rw [h0]; rfl) ?_
          conv => whnf
          repeat (first | (refine Conf.mk (by kernel_rfl) ?_; conv => whnf) | (refine SeqOk.go ?_; conv => whnf))
          refine .data _ _ (moreOf_ok hr c [] hin hnd) rfl ?_
          conv => whnf
          repeat (first | (refine Conf.mk (by kernel_rfl) ?_; conv => whnf) | (refine SeqOk.go ?_; conv => whnf))
          exact Into.to [] [(0, .dat (.list (l.map Entry'.enc))), (1, dInt c), (2, .dat (.list (ids.map Id.enc))), (7, dBool (isAns l ids)), (8, dInt (idsErr l ids)), (9, .dat (.list ((moreAns l c []).map Id.enc))), (10, dInt (begunErr l c [])), (11, .dat (.list ((moreAns l c ids).map Id.enc))), (12, dInt (begunErr l c ids)), (13, dInt (idsErr l ids)), (14, dBool (isAns l ids)), (15, dInt (begunErr l c [])), (16, dInt (begunErr l c ids)), (17, .dat (.list ((moreAns l c []).map Id.enc))), (18, .nil)] [] ⟨.same rfl, .same rfl, .same rfl, .same rfl, .same rfl, .same rfl, .same rfl, .same rfl, .same rfl, .same rfl, .same rfl, .same rfl, .same rfl, .same (congrArg IA ha), .same rfl, trivial⟩ trivial rfl rfl
        · have ha : moreAns l c [] = [] := by unfold moreAns; rw [if_neg h0]
          refine BoolCase.no (by simpa using h0) ?_
          conv => whnf
          repeat (first | (refine Conf.mk (by kernel_rfl) ?_; conv => whnf) | (refine SeqOk.go ?_; conv => whnf))
          exact Into.to [] [(0, .dat (.list (l.map Entry'.enc))), (1, dInt c), (2, .dat (.list (ids.map Id.enc))), (7, dBool (isAns l ids)), (8, dInt (idsErr l ids)), (9, .dat (.list ((moreAns l c []).map Id.enc))), (10, dInt (begunErr l c [])), (11, .dat (.list ((moreAns l c ids).map Id.enc))), (12, dInt (begunErr l c ids)), (13, dInt (idsErr l ids)), (14, dBool (isAns l ids)), (15, dInt (begunErr l c [])), (16, dInt (begunErr l c ids)), (17, .dat (.list ((moreAns l c []).map Id.enc))), (18, .nil)] [] ⟨.same rfl, .same rfl, .same rfl, .same rfl, .same rfl, .same rfl, .same rfl, .same rfl, .same rfl, .same rfl, .same rfl, .same rfl, .same rfl, .data (by rw [ha]; rfl), .same rfl, trivial⟩ trivial rfl rfl
      · conv => whnf
        refine SeqOk.cut' ⟨[(0, .dat (.list (l.map Entry'.enc))), (1, dInt c), (2, .dat (.list (ids.map Id.enc))), (7, dBool (isAns l ids)), (8, dInt (idsErr l ids)), (9, .dat (.list ((moreAns l c []).map Id.enc))), (10, dInt (begunErr l c [])), (11, .dat (.list ((moreAns l c ids).map Id.enc))), (12, dInt (begunErr l c ids)), (13, dInt (idsErr l ids)), (14, dBool (isAns l ids)), (15, dInt (begunErr l c [])), (16, dInt (begunErr l c ids)), (17, .dat (.list ((moreAns l c []).map Id.enc))), (18, .dat (.list ((moreAns l c ids).map Id.enc)))], 0, []⟩ ?_ ?_
        · conv => whnf
          by_cases h0 : begunErr l c ids = 0
          · obtain ⟨hr, hin, hnd⟩ := idsErr_ok (begunErr_ok h0).1
            have ha : moreAns l c ids = moreOf l c ids := by unfold moreAns; rw [if_pos h0]
            refine BoolCase.yes (by rw [h0]; rfl) ?_
            conv => whnf
            repeat (first | (refine Conf.mk (by kernel_rfl) ?_; conv => whnf) | (refine SeqOk.go ?_; conv => whnf))
            refine .data _ _ (moreOf_ok hr c ids hin hnd) rfl ?_
            conv => whnf
            repeat (first | (refine Conf.mk (by kernel_rfl) ?_; conv => whnf) | (refine SeqOk.go ?_; conv => whnf))
            exact Into.to [] [(0, .dat (.list (l.map Entry'.enc))), (1, dInt c), (2, .dat (.list (ids.map Id.enc))), (7, dBool (isAns l ids)), (8, dInt (idsErr l ids)), (9, .dat (.list ((moreAns l c []).map Id.enc))), (10, dInt (begunErr l c [])), (11, .dat (.list ((moreAns l c ids).map Id.enc))), (12, dInt (begunErr l c ids)), (13, dInt (idsErr l ids)), (14, dBool (isAns l ids)), (15, dInt (begunErr l c [])), (16, dInt (begunErr l c ids)), (17, .dat (.list ((moreAns l c []).map Id.enc))), (18, .dat (.list ((moreAns l c ids).map Id.enc)))] [] ⟨.same rfl, .same rfl, .same rfl, .same rfl, .same rfl, .same rfl, .same rfl, .same rfl, .same rfl, .same rfl, .same rfl, .same rfl, .same rfl, .same rfl, .same (congrArg IA ha), trivial⟩ trivial rfl rfl
          · have ha : moreAns l c ids = [] := by unfold moreAns; rw [if_neg h0]
            refine BoolCase.no (by simpa using h0) ?_
            conv => whnf
            repeat (first | (refine Conf.mk (by kernel_rfl) ?_; conv => whnf) | (refine SeqOk.go ?_; conv => whnf))
            exact Into.to [] [(0, .dat (.list (l.map Entry'.enc))), (1, dInt c), (2, .dat (.list (ids.map Id.enc))), (7, dBool (isAns l ids)), (8, dInt (idsErr l ids)), (9, .dat (.list ((moreAns l c []).map Id.enc))), (10, dInt (begunErr l c [])), (11, .dat (.list ((moreAns l c ids).map Id.enc))), (12, dInt (begunErr l c ids)), (13, dInt (idsErr l ids)), (14, dBool (isAns l ids)), (15, dInt (begunErr l c [])), (16, dInt (begunErr l c ids)), (17, .dat (.list ((moreAns l c []).map Id.enc))), (18, .dat (.list ((moreAns l c ids).map Id.enc)))] [] ⟨.same rfl, .same rfl, .same rfl, .same rfl, .same rfl, .same rfl, .same rfl, .same rfl, .same rfl, .same rfl, .same rfl, .same rfl, .same rfl, .same rfl, .data (by rw [ha]; rfl), trivial⟩ trivial rfl rfl
        · have hI := fun js => (idsAre_ok (moreAns l c js) (moreAns l c js) (begunErr l c js) (begunErr l c js) (by have := moreAns_len l c js; omega)).kb
          have hE : ∀ js, (begunErr l c js == begunErr l c js && sameIds (moreAns l c js) (if begunErr l c js = 0 then moreAns l c js else [])) = true := fun js => by
            rw [beq_self_eq_true, Bool.true_and, sameIds_iff]
            unfold moreAns
            split <;> rfl
          have h1 := hI []
          have h2 := hI ids
          rw [hE] at h1 h2
          conv => whnf
          refine .data _ _ orderBegun_ok.kb rfl ?_
          conv => whnf
          refine BoolCase.yes (beq_self_eq_true _) ?_
          conv => whnf
          refine BoolCase.yes (by simp) ?_
          conv => whnf
          refine .data _ _ h1 rfl ?_
          conv => whnf
          refine .data _ _ h2 rfl ?_
          conv => whnf
          exact Ret.bool rfl
end Go.Proofs.Ytlioojekjnigiac.AM
/- What came in, opened: ids, entries, logs. -/
namespace Go.Proofs.Ytlioojekjnigiac
theorem ownT : ownKnob Try.prog.godebug = none := by kernel_rfl
theorem laidT : laidOutB Try.prog = true := by kernel_rfl
namespace AM
set_option linter.unusedVariables false
set_option linter.unusedSimpArgs false

theorem allWT_cons {tab : Tab} {n t : Nat} {ts : List Nat} {dss : List (List D)} (h : AllWT tab n (t :: ts) dss) : ∃ d ds, dss = d :: ds ∧ WT tab n t d ∧ AllWT tab n ts ds := by
  cases dss with
  | nil => exact h.elim
  | cons d ds => exact ⟨d, ds, rfl, h.1, h.2⟩
theorem allWT_nil {tab : Tab} {n : Nat} {dss : List (List D)} (h : AllWT tab n [] dss) : dss = [] := by
  cases dss with
  | nil => rfl
  | cons d ds => exact h.elim
theorem all_enc {α : Type} {enc : α → List D} {p : List D → Prop} {q : α → Prop} (h : ∀ e, p e → ∃ x, e = enc x ∧ q x) : ∀ (es : List (List D)), (∀ e ∈ es, p e) → ∃ l : List α, es = l.map enc ∧ ∀ x ∈ l, q x
  | [], _ => ⟨[], rfl, by simp⟩
  | e :: t, hs => by
    obtain ⟨x, rfl, hx⟩ := h e (hs e (by simp))
    obtain ⟨l, rfl, hl⟩ := all_enc h t fun e he => hs e (by simp [he])
    exact ⟨x :: l, rfl, fun y hy => by
      rcases List.mem_cons.1 hy with rfl | hy
      · exact hx
      · exact hl y hy⟩
def I64 (n : Int) : Prop := -9223372036854775808 ≤ n ∧ n ≤ 9223372036854775807
theorem wt_int {n : Nat} {ds : List D} (h : WT tab (n + 1) 3 ds) : ∃ m, ds = [.int .i64 m] ∧ I64 m := by
  have h : ∃ m, ds = [.int .i64 m] ∧ (Lit.int .i64 m).wf = true := h
  obtain ⟨m, rfl, hm⟩ := h
  refine ⟨m, rfl, ?_⟩
  simp [Lit.wf, IntKind.wrap, IntKind.bits, IntKind.signed] at hm
  exact hm
theorem wt_bool {n : Nat} {ds : List D} (h : WT tab (n + 1) 4 ds) : ∃ b, ds = [.bool b] := h
theorem wt_string {n : Nat} {ds : List D} (h : WT tab (n + 1) 9 ds) : ∃ s, ds = [.str s] ∧ s.size ≤ 140737488351232 := h
theorem wt_id {n : Nat} {ds : List D} (h : WT tab (n + 2) 25 ds) : ∃ x : Id, ds = x.enc ∧ I64 x.r ∧ I64 x.n := by
  obtain ⟨a, y, rfl, h1, b, z, rfl, h2, rfl⟩ := (h : ∃ xs ys, ds = xs ++ ys ∧ WT tab (n + 1) 3 xs ∧ ∃ xs' ys', ys = xs' ++ ys' ∧ WT tab (n + 1) 3 xs' ∧ ys' = [])
  obtain ⟨r, rfl, hr⟩ := wt_int h1
  obtain ⟨m, rfl, hm⟩ := wt_int h2
  exact ⟨⟨r, m⟩, rfl, hr, hm⟩
theorem wt_ids {n : Nat} {ds : List D} (h : WT tab (n + 3) 35 ds) : ∃ l : List Id, ds = [.list (l.map Id.enc)] ∧ l.length * 16 ≤ 140737488351232 ∧ ∀ x ∈ l, I64 x.r ∧ I64 x.n := by
  obtain ⟨es, rfl, h1, h2⟩ := (h : ∃ es, ds = [.list es] ∧ es.length * 16 ≤ 140737488351232 ∧ ∀ e' ∈ es, WT tab (n + 2) 25 e')
  obtain ⟨l, rfl, hl⟩ := all_enc (fun e he => wt_id he) es h2
  exact ⟨l, rfl, by rw [List.length_map] at h1; exact h1, hl⟩
structure EntryIn (e : Entry') : Prop where
  r : I64 e.id.r
  n : I64 e.id.n
  colors : I64 e.colors
  text : e.text.size ≤ 140737488351232
  len : e.links.length * 16 ≤ 140737488351232
  links : ∀ x ∈ e.links, I64 x.r ∧ I64 x.n
theorem wt_entry {n : Nat} {ds : List D} (h : WT tab (n + 4) 50 ds) : ∃ e : Entry', ds = e.enc ∧ EntryIn e := by
  obtain ⟨a, y, rfl, h1, b, z, rfl, h2, c, u, rfl, h3, d, v, rfl, h4, rfl⟩ := (h : ∃ a y, ds = a ++ y ∧ WT tab (n + 3) 25 a ∧ ∃ b z, y = b ++ z ∧ WT tab (n + 3) 3 b ∧ ∃ c u, z = c ++ u ∧ WT tab (n + 3) 9 c ∧ ∃ d v, u = d ++ v ∧ WT tab (n + 3) 35 d ∧ v = [])
  obtain ⟨x, rfl, hx⟩ := wt_id h1
  obtain ⟨k, rfl, hk⟩ := wt_int h2
  obtain ⟨s, rfl, hs⟩ := wt_string h3
  obtain ⟨l, rfl, hl, hl2⟩ := wt_ids h4
  exact ⟨⟨x, k, s, l⟩, rfl, hx.1, hx.2, hk, hs, hl, hl2⟩
theorem wt_log {n : Nat} {ds : List D} (h : WT tab (n + 5) 34 ds) : ∃ l : List Entry', ds = [.list (l.map Entry'.enc)] ∧ l.length * 64 ≤ 140737488351232 ∧ ∀ e ∈ l, EntryIn e := by
  obtain ⟨es, rfl, h1, h2⟩ := (h : ∃ es, ds = [.list es] ∧ es.length * 64 ≤ 140737488351232 ∧ ∀ e' ∈ es, WT tab (n + 4) 50 e')
  obtain ⟨l, rfl, hl⟩ := all_enc (fun e he => wt_entry he) es h2
  exact ⟨l, rfl, by rw [List.length_map] at h1; exact h1, hl⟩
theorem logOk_in {l : List Entry'} (h : l.length * 64 ≤ 140737488351232) (k : ∀ e ∈ l, EntryIn e) : LogOk l := ⟨by omega, fun e he => by have := (k e he).len; omega⟩
end AM
end Go.Proofs.Ytlioojekjnigiac
