/- The writer of package chain: check and write; chain.Write and chain.Fill: what each answers, whatever it is handed. -/
import Derived.Test.YtikdncgjaomlcaaC7
namespace Go.Proofs.Ytikdncgjaomlcaa
open Go.RowKit

/-- What is wrong, whatever stands at the place. -/
def wErr (c : Ch) (kn p : Int) (x : Cl) : Int := if c.err ≠ 0 then c.err else if p < 0 ∨ 30 ≤ p then 3 else if 12 < x.text.size then 2 else if kn ≠ c.epoch ∨ c.sealed = true then 4 else 0
set_option maxHeartbeats 2000000 in
theorem wcheck_any (c : Ch) (a : Option Addr) (cap : Nat) (kn p : Int) (x : Cl) (w : World) (hc : CellsAt w a cap c.cells) (hx : x.text.size ≤ 9223372036854775807) :
    Calls Try.prog 57 #[.agg #[.int .i64 c.epoch, .bool c.sealed, .int .i64 c.cut, .slice a c.cells.length cap, .int .i64 kn], .int .i64 p, x.val] w fun e w' => e = .returned (.int .i64 (wErr c kn p x)) ∧ Grow w w' := by
  have HC : Hid (CellsAt w a cap c.cells) := hc
  clear hc
  have g0 : Grow w ((w.alloc (Obj.cells #[.int .i64 c.epoch, .bool c.sealed, .int .i64 c.cut, .slice a c.cells.length cap, .int .i64 kn] 72)).alloc (Obj.cells #[.bool x.there, .bool x.junk, .string x.text] 54)) := ((Grow.refl w).alloc _).alloc _
  unfold Cl.val
  go_enter Try.func57, Try.ntmps57
  go_wp2_with fail
  refine (check_any c a cap _ (HC.out.grow g0)).mono ?_
  rintro e w1 ⟨rfl, g1⟩
  have q0 := cell_grow g1 (a := ⟨w.heap.size, 0, none⟩) (v := .int .i64 c.epoch) (by simp [go_sem])
  have q1 := cell_grow g1 (a := ⟨w.heap.size, 1, none⟩) (v := .bool c.sealed) (by simp [go_sem])
  have q4 := cell_grow g1 (a := ⟨w.heap.size, 4, none⟩) (v := .int .i64 kn) (by simp [go_sem])
  have t2 := cell_grow g1 (a := ⟨w.heap.size + 1, 2, none⟩) (v := .string x.text) (by simp [go_sem])
  have G1 := g0.trans g1
  clear g0 g1
  by_cases h1 : c.err = 0
  · have R : Hid (wErr c kn p x = if p < 0 ∨ 30 ≤ p then 3 else if 12 < x.text.size then 2 else if kn ≠ c.epoch ∨ c.sealed = true then 4 else 0) := by show wErr c kn p x = _; rw [wErr, if_neg (by simp [h1])]
    rw [h1]
    clear h1
    go_wp2_with fail
    refine (isPlace_any _ _).mono ?_
    rintro e w2 ⟨rfl, rfl⟩
    cases h2 : (decide (0 ≤ p) && decide (p < 30))
    · go_wp2
      go_ret
      exact ⟨by rw [R.out, if_pos (by simp at h2; omega)]; rfl, G1⟩
    · have hp : 0 ≤ p ∧ p < 30 := by simpa using h2
      rw [if_neg (by omega)] at R
      by_cases h3 : 12 < x.text.size
      · have h3' : (12 : Int) < (x.text.size : Int) := by omega
        rw [if_pos h3] at R
        go_wp2
        go_ret
        exact ⟨by rw [R.out]; rfl, G1⟩
      · have h3' : (x.text.size : Int) ≤ 12 := by omega
        rw [if_neg h3] at R
        by_cases h4 : kn = c.epoch
        · subst h4
          cases h5 : c.sealed
          · rw [h5] at q1
            rw [if_neg (by simp [h5])] at R
            go_wp2
            go_ret
            exact ⟨by rw [R.out]; rfl, G1⟩
          · rw [h5] at q1
            rw [if_pos (.inr h5)] at R
            go_wp2
            go_ret
            exact ⟨by rw [R.out]; rfl, G1⟩
        · have h4' : (kn != c.epoch) = true := by simpa using h4
          have h4'' : (kn == c.epoch) = false := by simpa using h4
          rw [if_pos (.inl h4)] at R
          clear h4
          go_wp2
          go_ret
          exact ⟨by rw [R.out]; rfl, G1⟩
  · have hx0 : (c.err == 0) = false := by simpa using h1
    have hx1 : (c.err != 0) = true := by simpa using h1
    have R : Hid (wErr c kn p x = c.err) := by show wErr c kn p x = _; rw [wErr, if_pos h1]
    clear h1
    go_wp2
    go_ret
    exact ⟨by rw [R.out]; rfl, G1⟩

/-- May it come, where that stands? -/
theorem mayWrite_any (x : Cl) (w : World) : Calls Try.prog 44 #[x.val] w fun e w' => e = .returned (.bool x.empty) ∧ Grow w w' := by
  obtain ⟨t, j, s⟩ := x
  unfold Cl.val Cl.empty
  simp only
  cases t
  all_goals
    go_enter Try.func44, Try.ntmps44
    go_wp2
    go_ret
    exact ⟨rfl, (Grow.refl _).alloc _⟩
theorem mayFill_any (x : Cl) (w : World) : Calls Try.prog 45 #[x.val] w fun e w' => e = .returned (.bool (!x.there)) ∧ Grow w w' := by
  obtain ⟨t, j, s⟩ := x
  unfold Cl.val
  go_enter Try.func45, Try.ntmps45
  go_wp2
  go_ret
  exact ⟨rfl, (Grow.refl _).alloc _⟩

/-- What write answers. -/
def Ch.write (c : Ch) (kn p : Int) (x : Cl) (may : Cl → Bool) : Ch × Int :=
  if wErr c kn p x ≠ 0 then (zeroCh, wErr c kn p x) else if p < c.cut ∨ may (c.at (p - c.cut).toNat) = false then (zeroCh, 6) else (⟨c.epoch, c.sealed, c.cut, putCells c.cells (p - c.cut).toNat x⟩, 0)
theorem wErr_fine {c : Ch} {kn p : Int} {x : Cl} (h : wErr c kn p x = 0) : c.err = 0 ∧ (0 ≤ p ∧ p < 30) ∧ x.text.size ≤ 12 ∧ kn = c.epoch ∧ c.sealed = false := by
  unfold wErr at h
  split at h
  · rename_i h1; exact absurd h h1
  · rename_i h1
    split at h
    · cases h
    · split at h
      · cases h
      · split at h
        · cases h
        · rename_i h2 h3 h4
          refine ⟨Decidable.not_not.1 h1, by omega, by omega, Decidable.not_not.1 fun h => h4 (.inl h), ?_⟩
          cases hs : c.sealed
          · rfl
          · exact absurd (.inr hs) h4
set_option maxHeartbeats 4000000 in
theorem write_any (f : Nat) (c : Ch) (a : Option Addr) (cap : Nat) (kn p : Int) (x : Cl) (may : Cl → Bool) (hcall : ∀ v w, (callFunc f #[v]).run Try.prog w = .ok (.enter f #[v]) w) (hmay : ∀ y w, Calls Try.prog f #[y.val] w fun e w' => e = .returned (.bool (may y)) ∧ Grow w w')
    (w : World) (hc : CellsAt w a cap c.cells) (hx : x.text.size ≤ 9223372036854775807) :
    Calls Try.prog 43 #[.agg #[.int .i64 c.epoch, .bool c.sealed, .int .i64 c.cut, .slice a c.cells.length cap, .int .i64 kn], .int .i64 p, x.val, .func (.func f) #[] #[]] w fun e w' => ∃ a' cap', e = .returned (.tuple #[(c.write kn p x may).1.val a' cap', .int .i64 (c.write kn p x may).2]) ∧ Grow w w' ∧ CellsAt w' a' cap' (c.write kn p x may).1.cells ∧ ∀ y, a' = some y → w.heap.size ≤ y.block := by
  have HC : Hid (CellsAt w a cap c.cells) := hc
  clear hc
  have e1 : (w.alloc (Obj.cells #[.int .i64 c.epoch, .bool c.sealed, .int .i64 c.cut, .slice a c.cells.length cap, .int .i64 kn] 72)).heap.size = w.heap.size + 1 := by simp
  have e2 : ((w.alloc (Obj.cells #[.int .i64 c.epoch, .bool c.sealed, .int .i64 c.cut, .slice a c.cells.length cap, .int .i64 kn] 72)).alloc (Obj.cells #[.bool x.there, .bool x.junk, .string x.text] 54)).heap.size = w.heap.size + 2 := by simp
  have g0 : Grow w (((w.alloc (Obj.cells #[.int .i64 c.epoch, .bool c.sealed, .int .i64 c.cut, .slice a c.cells.length cap, .int .i64 kn] 72)).alloc (Obj.cells #[.bool x.there, .bool x.junk, .string x.text] 54)).alloc (Obj.cells #[.int .i64 0, .bool false, .int .i64 0, .slice none 0 0] 42)) := (((Grow.refl w).alloc _).alloc _).alloc _
  have b0 : (((w.alloc (Obj.cells #[.int .i64 c.epoch, .bool c.sealed, .int .i64 c.cut, .slice a c.cells.length cap, .int .i64 kn] 72)).alloc (Obj.cells #[.bool x.there, .bool x.junk, .string x.text] 54)).alloc (Obj.cells #[.int .i64 0, .bool false, .int .i64 0, .slice none 0 0] 42)).heap[w.heap.size]? = some (Obj.cells #[.int .i64 c.epoch, .bool c.sealed, .int .i64 c.cut, .slice a c.cells.length cap, .int .i64 kn] 72 (0, 0)) := (Below.heap_alloc _ _ _ (by simp; omega)).trans ((Below.heap_alloc _ _ _ (by simp)).trans (heap_alloc_new w _))
  have k0 : (((w.alloc (Obj.cells #[.int .i64 c.epoch, .bool c.sealed, .int .i64 c.cut, .slice a c.cells.length cap, .int .i64 kn] 72)).alloc (Obj.cells #[.bool x.there, .bool x.junk, .string x.text] 54)).alloc (Obj.cells #[.int .i64 0, .bool false, .int .i64 0, .slice none 0 0] 42)).heap[w.heap.size + 1]? = some (Obj.cells #[.bool x.there, .bool x.junk, .string x.text] 54 (0, 0)) := by
    have := heap_alloc_new (w.alloc (Obj.cells #[.int .i64 c.epoch, .bool c.sealed, .int .i64 c.cut, .slice a c.cells.length cap, .int .i64 kn] 72)) (Obj.cells #[.bool x.there, .bool x.junk, .string x.text] 54 (0, 0))
    rw [e1] at this
    exact (Below.heap_alloc _ _ _ (by simp)).trans this
  have a0 : (((w.alloc (Obj.cells #[.int .i64 c.epoch, .bool c.sealed, .int .i64 c.cut, .slice a c.cells.length cap, .int .i64 kn] 72)).alloc (Obj.cells #[.bool x.there, .bool x.junk, .string x.text] 54)).alloc (Obj.cells #[.int .i64 0, .bool false, .int .i64 0, .slice none 0 0] 42)).heap[w.heap.size + 2]? = some (Obj.cells #[.int .i64 0, .bool false, .int .i64 0, .slice none 0 0] 42 (0, 0)) := by
    have := heap_alloc_new ((w.alloc (Obj.cells #[.int .i64 c.epoch, .bool c.sealed, .int .i64 c.cut, .slice a c.cells.length cap, .int .i64 kn] 72)).alloc (Obj.cells #[.bool x.there, .bool x.junk, .string x.text] 54)) (Obj.cells #[.int .i64 0, .bool false, .int .i64 0, .slice none 0 0] 42 (0, 0))
    rw [e2] at this
    exact this
  clear e1 e2
  unfold Cl.val
  go_enter Try.func43, Try.ntmps43
  go_wp2_with fail
  refine (wcheck_any c a cap kn p x _ (HC.out.grow g0) hx).mono ?_
  rintro e w1 ⟨rfl, g1⟩
  have G1 := g0.trans g1
  have b1 := grow_block g1 b0
  have k1 := grow_block g1 k0
  have a1 := grow_block g1 a0
  have C1 := HC.out.grow G1
  clear g0 g1 a0 b0 k0 HC
  by_cases h1 : wErr c kn p x = 0
  · obtain ⟨herr, hp, hxs, hkn, hsl⟩ := wErr_fine h1
    obtain ⟨_, hcut, hlen, _⟩ := Ch.fine herr
    have hlen' : c.cells.length ≤ 30 := by omega
    have R : Hid (c.write kn p x may = if p < c.cut ∨ may (c.at (p - c.cut).toNat) = false then (zeroCh, 6) else (⟨c.epoch, c.sealed, c.cut, putCells c.cells (p - c.cut).toNat x⟩, 0)) := by show c.write kn p x may = _; rw [Ch.write, if_neg (by simp [h1])]
    rw [h1]
    clear h1 herr hkn hsl
    have d2_ := cell_of_block (o := 2) b1 rfl; simp at d2_
    by_cases h2 : p < c.cut
    · have h2' : decide (p < c.cut) = true := by simpa using h2
      rw [if_pos (.inl h2)] at R
      have d0 := cell_of_block (o := 0) a1 rfl; simp at d0
      have d1 := cell_of_block (o := 1) a1 rfl; simp at d1
      have d2 := cell_of_block (o := 2) a1 rfl; simp at d2
      have d3 := cell_of_block (o := 3) a1 rfl; simp at d3
      have f0 := free_of_block a1 0
      have f1 := free_of_block a1 1
      have f2 := free_of_block a1 2
      have f3 := free_of_block a1 3
      go_wp2
      have aW := (block_set (o := 3) (v := .slice none 0 0) (block_set (o := 2) (v := .int .i64 0) (block_set (o := 1) (v := .bool false) (block_set (o := 0) (v := .int .i64 0) a1))))
      have GW := (Grow.setCell (Grow.setCell (Grow.setCell (Grow.setCell G1 (p := ⟨w.heap.size + 2, 0, none⟩) (by simp) (.int .i64 0)) (p := ⟨w.heap.size + 2, 1, none⟩) (by simp) (.bool false)) (p := ⟨w.heap.size + 2, 2, none⟩) (by simp) (.int .i64 0)) (p := ⟨w.heap.size + 2, 3, none⟩) (by simp) (.slice none 0 0))
      simp only [List.setIfInBounds_toArray, List.set_cons_zero, List.set_cons_succ] at aW
      clear d0 d1 d2 d3 f0 f1 f2 f3
      generalize ((((w1.setCell ⟨w.heap.size + 2, 0, none⟩ (.int .i64 0)).setCell ⟨w.heap.size + 2, 1, none⟩ (.bool false)).setCell ⟨w.heap.size + 2, 2, none⟩ (.int .i64 0)).setCell ⟨w.heap.size + 2, 3, none⟩ (.slice none 0 0)) = W at *
      have y0 := cell_of_block (o := 0) aW rfl; simp at y0
      have y1 := cell_of_block (o := 1) aW rfl; simp at y1
      have y2 := cell_of_block (o := 2) aW rfl; simp at y2
      have y3 := cell_of_block (o := 3) aW rfl; simp at y3
      exact bodyPost_ret (v := .tuple #[.agg #[.int .i64 0, .bool false, .int .i64 0, .slice none 0 0], .int .i64 6]) (by simp [results, Try.results43, go_sem, y0, y1, y2, y3]) rfl ⟨none, 0, by rw [R.out]; rfl, GW, by rw [R.out]; simp [CellsAt, zeroCh], fun y hy => by cases hy⟩
    · have h2' : decide (p < c.cut) = false := by simpa using h2
      obtain ⟨i, hi⟩ : ∃ i : Nat, p = c.cut + i := ⟨(p - c.cut).toNat, by omega⟩
      have hin : (p - c.cut).toNat = i := by omega
      rw [hin] at R
      have hi30 : i < 30 := by omega
      have HP : Hid (p = c.cut + i) := hi
      have HR : Hid ((p < c.cut ∨ may (c.at i) = false) ↔ may (c.at i) = false) := ⟨fun h => h.elim (fun h => absurd h h2) id, .inr⟩
      clear hi hin h2
      have d0_ := cell_of_block (o := 0) b1 rfl; simp at d0_
      have d1_ := cell_of_block (o := 1) b1 rfl; simp at d1_
      have d3_ := cell_of_block (o := 3) b1 rfl; simp at d3_
      go_wp2_with fail
      rw [HP.out]
      refine (cellAt_any c a cap i _ C1 (by omega) hlen' hcut).mono ?_
      rintro e w2 ⟨rfl, g2⟩
      go_wp2_with fail
      refine (hmay _ _).mono ?_
      rintro e w3 ⟨rfl, g3⟩
      have G3 := (G1.trans g2).trans g3
      have g23 := g2.trans g3
      have b3 := grow_block g23 b1
      have k3 := grow_block g23 k1
      have a3 := grow_block g23 a1
      have C3 := C1.grow g23
      clear g2 g3 g23 b1 k1 a1 C1 G1 d0_ d1_ d2_ d3_
      cases h4 : may (c.at i)
      · rw [if_pos (HR.out.2 h4)] at R
        have d0 := cell_of_block (o := 0) a3 rfl; simp at d0
        have d1 := cell_of_block (o := 1) a3 rfl; simp at d1
        have d2 := cell_of_block (o := 2) a3 rfl; simp at d2
        have d3 := cell_of_block (o := 3) a3 rfl; simp at d3
        have f0 := free_of_block a3 0
        have f1 := free_of_block a3 1
        have f2 := free_of_block a3 2
        have f3 := free_of_block a3 3
        go_wp2
        have aW := (block_set (o := 3) (v := .slice none 0 0) (block_set (o := 2) (v := .int .i64 0) (block_set (o := 1) (v := .bool false) (block_set (o := 0) (v := .int .i64 0) a3))))
        have GW := (Grow.setCell (Grow.setCell (Grow.setCell (Grow.setCell G3 (p := ⟨w.heap.size + 2, 0, none⟩) (by simp) (.int .i64 0)) (p := ⟨w.heap.size + 2, 1, none⟩) (by simp) (.bool false)) (p := ⟨w.heap.size + 2, 2, none⟩) (by simp) (.int .i64 0)) (p := ⟨w.heap.size + 2, 3, none⟩) (by simp) (.slice none 0 0))
        simp only [List.setIfInBounds_toArray, List.set_cons_zero, List.set_cons_succ] at aW
        clear d0 d1 d2 d3 f0 f1 f2 f3
        generalize ((((w3.setCell ⟨w.heap.size + 2, 0, none⟩ (.int .i64 0)).setCell ⟨w.heap.size + 2, 1, none⟩ (.bool false)).setCell ⟨w.heap.size + 2, 2, none⟩ (.int .i64 0)).setCell ⟨w.heap.size + 2, 3, none⟩ (.slice none 0 0)) = W at *
        have y0 := cell_of_block (o := 0) aW rfl; simp at y0
        have y1 := cell_of_block (o := 1) aW rfl; simp at y1
        have y2 := cell_of_block (o := 2) aW rfl; simp at y2
        have y3 := cell_of_block (o := 3) aW rfl; simp at y3
        exact bodyPost_ret (v := .tuple #[.agg #[.int .i64 0, .bool false, .int .i64 0, .slice none 0 0], .int .i64 6]) (by simp [results, Try.results43, go_sem, y0, y1, y2, y3]) rfl ⟨none, 0, by rw [R.out]; rfl, GW, by rw [R.out]; simp [CellsAt, zeroCh], fun y hy => by cases hy⟩
      · rw [if_neg (fun h => by have := HR.out.1 h; rw [h4] at this; cases this)] at R
        have z0 := cell_of_block (o := 0) k3 rfl; simp at z0
        have z1 := cell_of_block (o := 1) k3 rfl; simp at z1
        have z2 := cell_of_block (o := 2) k3 rfl; simp at z2
        go_wp2_with fail
        refine (put_any w.heap.size c kn a cap i x _ b3 C3 hi30 hlen' hcut hx).mono ?_
        rintro e w4 ⟨rfl, a', cap', b4, C4, T4, hnew⟩
        have a4 := T4.heap (by omega) a3
        have G4 := T4.grow G3 (Nat.le_refl _)
        have hlt3 := lt_of_block a3
        clear z0 z1 z2 b3 k3 a3 C3 T4
        generalize putCells c.cells i x = cs' at *
        have d0 := cell_of_block (o := 0) a4 rfl; simp at d0
        have d1 := cell_of_block (o := 1) a4 rfl; simp at d1
        have d2 := cell_of_block (o := 2) a4 rfl; simp at d2
        have d3 := cell_of_block (o := 3) a4 rfl; simp at d3
        have f0 := free_of_block a4 0
        have f1 := free_of_block a4 1
        have f2 := free_of_block a4 2
        have f3 := free_of_block a4 3
        have e0 := cell_of_block (o := 0) b4 rfl; simp at e0
        have e1 := cell_of_block (o := 1) b4 rfl; simp at e1
        have e2 := cell_of_block (o := 2) b4 rfl; simp at e2
        have e3 := cell_of_block (o := 3) b4 rfl; simp at e3
        go_wp2
        have aW := (block_set (o := 3) (v := (.slice a' cs'.length cap')) (block_set (o := 2) (v := .int .i64 c.cut) (block_set (o := 1) (v := .bool c.sealed) (block_set (o := 0) (v := .int .i64 c.epoch) a4))))
        have GW := (Grow.setCell (Grow.setCell (Grow.setCell (Grow.setCell G4 (p := ⟨w.heap.size + 2, 0, none⟩) (by simp) (.int .i64 c.epoch)) (p := ⟨w.heap.size + 2, 1, none⟩) (by simp) (.bool c.sealed)) (p := ⟨w.heap.size + 2, 2, none⟩) (by simp) (.int .i64 c.cut)) (p := ⟨w.heap.size + 2, 3, none⟩) (by simp) ((.slice a' cs'.length cap')))
        have CW := (CellsAt.far (CellsAt.far (CellsAt.far (CellsAt.far C4 (p := ⟨w.heap.size + 2, 0, none⟩) (fun x hx => by have := hnew x hx; simp only; omega) (.int .i64 c.epoch)) (p := ⟨w.heap.size + 2, 1, none⟩) (fun x hx => by have := hnew x hx; simp only; omega) (.bool c.sealed)) (p := ⟨w.heap.size + 2, 2, none⟩) (fun x hx => by have := hnew x hx; simp only; omega) (.int .i64 c.cut)) (p := ⟨w.heap.size + 2, 3, none⟩) (fun x hx => by have := hnew x hx; simp only; omega) ((.slice a' cs'.length cap')))
        simp only [List.setIfInBounds_toArray, List.set_cons_zero, List.set_cons_succ] at aW
        clear d0 d1 d2 d3 f0 f1 f2 f3 e0 e1 e2 e3
        generalize ((((w4.setCell ⟨w.heap.size + 2, 0, none⟩ (.int .i64 c.epoch)).setCell ⟨w.heap.size + 2, 1, none⟩ (.bool c.sealed)).setCell ⟨w.heap.size + 2, 2, none⟩ (.int .i64 c.cut)).setCell ⟨w.heap.size + 2, 3, none⟩ ((.slice a' cs'.length cap'))) = W at *
        have y0 := cell_of_block (o := 0) aW rfl; simp at y0
        have y1 := cell_of_block (o := 1) aW rfl; simp at y1
        have y2 := cell_of_block (o := 2) aW rfl; simp at y2
        have y3 := cell_of_block (o := 3) aW rfl; simp at y3
        exact bodyPost_ret (v := .tuple #[.agg #[.int .i64 c.epoch, .bool c.sealed, .int .i64 c.cut, (.slice a' cs'.length cap')], .int .i64 0]) (by simp [results, Try.results43, go_sem, y0, y1, y2, y3]) rfl ⟨a', cap', by rw [R.out]; rfl, GW, by rw [R.out]; exact CW, fun y hy => by have := hnew y hy; omega⟩
  · have hx0 : (wErr c kn p x == 0) = false := by simpa using h1
    have hx1 : (wErr c kn p x != 0) = true := by simpa using h1
    have R : Hid (c.write kn p x may = (zeroCh, wErr c kn p x)) := by show c.write kn p x may = _; rw [Ch.write, if_pos h1]
    clear h1
    have d0 := cell_of_block (o := 0) a1 rfl; simp at d0
    have d1 := cell_of_block (o := 1) a1 rfl; simp at d1
    have d2 := cell_of_block (o := 2) a1 rfl; simp at d2
    have d3 := cell_of_block (o := 3) a1 rfl; simp at d3
    have f0 := free_of_block a1 0
    have f1 := free_of_block a1 1
    have f2 := free_of_block a1 2
    have f3 := free_of_block a1 3
    go_wp2
    have aW := (block_set (o := 3) (v := .slice none 0 0) (block_set (o := 2) (v := .int .i64 0) (block_set (o := 1) (v := .bool false) (block_set (o := 0) (v := .int .i64 0) a1))))
    have GW := (Grow.setCell (Grow.setCell (Grow.setCell (Grow.setCell G1 (p := ⟨w.heap.size + 2, 0, none⟩) (by simp) (.int .i64 0)) (p := ⟨w.heap.size + 2, 1, none⟩) (by simp) (.bool false)) (p := ⟨w.heap.size + 2, 2, none⟩) (by simp) (.int .i64 0)) (p := ⟨w.heap.size + 2, 3, none⟩) (by simp) (.slice none 0 0))
    simp only [List.setIfInBounds_toArray, List.set_cons_zero, List.set_cons_succ] at aW
    clear d0 d1 d2 d3 f0 f1 f2 f3
    generalize ((((w1.setCell ⟨w.heap.size + 2, 0, none⟩ (.int .i64 0)).setCell ⟨w.heap.size + 2, 1, none⟩ (.bool false)).setCell ⟨w.heap.size + 2, 2, none⟩ (.int .i64 0)).setCell ⟨w.heap.size + 2, 3, none⟩ (.slice none 0 0)) = W at *
    have y0 := cell_of_block (o := 0) aW rfl; simp at y0
    have y1 := cell_of_block (o := 1) aW rfl; simp at y1
    have y2 := cell_of_block (o := 2) aW rfl; simp at y2
    have y3 := cell_of_block (o := 3) aW rfl; simp at y3
    exact bodyPost_ret (v := .tuple #[.agg #[.int .i64 0, .bool false, .int .i64 0, .slice none 0 0], .int .i64 (wErr c kn p x)]) (by simp [results, Try.results43, go_sem, y0, y1, y2, y3]) rfl ⟨none, 0, by rw [R.out]; rfl, GW, by rw [R.out]; simp [CellsAt, zeroCh], fun y hy => by cases hy⟩
end Go.Proofs.Ytikdncgjaomlcaa
