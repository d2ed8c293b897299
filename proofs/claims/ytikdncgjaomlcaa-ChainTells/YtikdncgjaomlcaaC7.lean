/- The writer of package chain: put: what it leaves. -/
import Derived.Test.YtikdncgjaomlcaaC6
import Derived.Laws.CopyRow
namespace Go.Proofs.Ytikdncgjaomlcaa
open Go.RowKit

/-- The world has grown, but for block br, which may have turned. -/
structure Turn (br : Nat) (w w' : World) : Prop where
  os : w'.os = w.os
  tape : w'.tape = w.tape
  output : w'.output = w.output
  size : w.heap.size ≤ w'.heap.size
  block : ∀ k, k < w.heap.size → k ≠ br → w'.heap[k]? = w.heap[k]?
theorem Turn.of_grow {br : Nat} {a b : World} (h : Grow a b) : Turn br a b := ⟨Below.os h, Below.tape h, Below.output h, Below.size h, fun i hi _ => Below.block h i hi⟩
theorem Turn.set {br : Nat} {a b : World} (h : Turn br a b) {p : Addr} (hp : a.heap.size ≤ p.block ∨ p.block = br) (v : Value) : Turn br a (b.setCell p v) :=
  ⟨h.os, h.tape, h.output, by simpa [World.setCell] using h.size, fun k hk hn => (Below.heap_setCell _ _ _ _ (by omega)).trans (h.block k hk hn)⟩
theorem Turn.heap {br : Nat} {w w' : World} (h : Turn br w w') {b : Nat} {o : Obj} (hn : b ≠ br) (hc : w.heap[b]? = some o) : w'.heap[b]? = some o :=
  (h.block b (lt_of_block hc) hn).trans hc
/-- What lay ahead of the block that turned is as it was. -/
theorem Turn.grow {br : Nat} {a b c : World} (h : Turn br b c) (hg : Grow a b) (hb : a.heap.size ≤ br) : Grow a c :=
  Below.trans hg ⟨h.os, h.tape, h.output, h.size, fun k hk => h.block k (Nat.lt_of_lt_of_le hk (Below.size hg)) (by omega)⟩

/-- Cells with one more, or another one, at a place. -/
def putCells (cs : List Cl) (i : Nat) (x : Cl) : List Cl := (cs ++ List.replicate (i + 1 - cs.length) zeroCl).set i x
theorem putCells_length (cs : List Cl) (i : Nat) (x : Cl) : (putCells cs i x).length = max cs.length (i + 1) := by simp [putCells]; omega
theorem vals_append (a b : List Cl) : vals (a ++ b) = vals a ++ vals b := by simp [vals]
theorem vals_set : ∀ (cs : List Cl) (i : Nat) (x : Cl), (((vals cs).set (i * 3) (.bool x.there)).set (i * 3 + 1) (.bool x.junk)).set (i * 3 + 2) (.string x.text) = vals (cs.set i x)
  | [], i, x => by simp [vals]
  | c :: cs, 0, x => rfl
  | c :: cs, i + 1, x => by
    have e : ∀ (d : Cl) ds, vals (d :: ds) = .bool d.there :: .bool d.junk :: .string d.text :: vals ds := fun _ _ => rfl
    rw [List.set_cons_succ, e, e, ← vals_set cs i x, show (i + 1) * 3 = i * 3 + 1 + 1 + 1 from by omega]
    rfl
theorem made_zero (n : Nat) : (madeCells #[.bool false, .bool false, .string ⟨#[]⟩] (n * 3)).toList = vals (List.replicate n zeroCl) := by
  apply List.ext_getElem?
  intro j
  rw [vals_get]
  unfold madeCells
  simp only [List.getElem?_replicate, Array.toList_map, Array.toList_range, List.getElem?_map]
  by_cases h : j < n * 3
  · rw [List.getElem?_range h, if_pos (by omega)]
    have h3 : j % 3 = 0 ∨ j % 3 = 1 ∨ j % 3 = 2 := by omega
    rcases h3 with h3 | h3 | h3 <;> simp [h3, zeroCl]
  · rw [List.getElem?_eq_none (by simpa using h), if_neg (by omega)]
    rfl
theorem row_full {w : World} {base g n size : Nat} {e : TypeId} {xs : List Value} (h : w.ownsRow base e size (.slice (some ⟨g, 0, none⟩) n n) n xs) : w.heap[g]? = some (.cells xs.toArray e (0, 0)) := by
  rcases h.2 with ⟨h0, _⟩ | ⟨g', cap', cur, hv, _, hg, _, _, hs, ht⟩
  · cases h0
  · cases hv
    rw [List.take_of_length_le (by simp [hs])] at ht
    rw [hg, ← ht]
/-- copy, of elements of several cells, to the head of a row that is known whole. -/
theorem wpList_copy_wide {P : Program} {w : World} {ops : Array Oper} {rest : List Oper} {o : Oper} {a : Act} {Q : Exit → Act → World → Prop} (hgd : o.guard = none) (d s : Operand) (dT sT : TypeId)
    (ho : o.op = .call { callee := .builtin .copy, args := #[d, s], argTypes := #[dT, sT] }) (elem : TypeId) (hu : P.underlying dT = some (.slice elem)) (i : TypeInfo) (hi : P.info? elem = some i) (size : Nat) (hsz : i.size = size)
    (g dLen dCap : Nat) (hd : a.eval d = .slice (some ⟨g, 0, none⟩) dLen dCap) (sp : Option Addr) (sLen sCap : Nat) (hs : a.eval s = .slice sp sLen sCap) (hle : sLen ≤ dLen)
    (cur : Array Value) (t : TypeId) (hg : w.heap[g]? = some (.cells cur t (0, 0))) (cs : List Value) (hn : cs.length = sLen * size)
    (hsrc : cs ≠ [] → ∃ ad, sp = some ad ∧ ∀ j v, cs[j]? = some v → w.cell? (ad.add j) = some v) (hnil : cs = [] → sLen = 0) (hfit : cs.length ≤ cur.size) (h1 : ∀ v ∈ cs, v.oneCell' = true)
    (h : wpList P ops Q rest (a.put o.dst (goInt sLen)) (w.setRow g (cs ++ cur.toList.drop cs.length).toArray)) : wpList P ops Q (o :: rest) a w := by
  refine wpList_plain hgd fun K hK => ?_
  have hmin : Nat.min sLen dLen = sLen := Nat.min_eq_left hle
  have hst := run_storeCells_at P g 0 t cs 0 cur w hg (by simpa using hfit) h1
  simp only [Nat.zero_add, List.take_zero, List.nil_append] at hst
  have hrun : (Builtin.copy_ #[dT, sT] o.type #[.slice (some ⟨g, 0, none⟩) dLen dCap, .slice sp sLen sCap]).run P w = .ok (goInt sLen) (w.setRow g (cs ++ cur.toList.drop cs.length).toArray) := by
    by_cases h0 : cs = []
    · have hl0 := hnil h0
      subst hl0
      subst h0
      cases sp with
      | none => simp [Builtin.copy_, run_underlying hu, Builtin.lenOf, Builtin.firstCells, sizeOf, typeInfo, hi, hst] at *
      | some ad =>
        have hl : (loadCells ad 0).run P w = .ok #[] w := by simpa using run_loadCells_list (P := P) w ad [] (by simp)
        simp [Builtin.copy_, run_underlying hu, Builtin.lenOf, Builtin.firstCells, sizeOf, typeInfo, hi, hl, hst] at *
    · obtain ⟨ad, rfl, hc⟩ := hsrc h0
      have hl := run_loadCells_list (P := P) w ad cs hc
      rw [hn] at hl
      simp [Builtin.copy_, run_underlying hu, Builtin.lenOf, Builtin.firstCells, sizeOf, typeInfo, hi, hsz, hmin, hl, hst]
  unfold Oper.wp
  simp [execOp, ho, resolve, invoke, builtin, hd, hs, hrun, Result.andThen]
  exact hK _ _ h

theorem cellsAt_block {w : World} {g cap : Nat} {cs : List Cl} {t : TypeId} (h : w.heap[g]? = some (.cells (vals cs).toArray t (0, 0))) (hl : cs.length ≤ 9223372036854775807) (hcap : cs.length ≤ cap) (hs : ∀ (k : Nat) (c : Cl), cs[k]? = some c → c.text.size ≤ 9223372036854775807) : CellsAt w (some ⟨g, 0, none⟩) cap cs := by
  refine ⟨hl, hcap, .inr ⟨g, 0, rfl, fun k c hk => ?_⟩⟩
  have key : ∀ r u, r < 3 → [Value.bool c.there, .bool c.junk, .string c.text][r]? = some u → w.cell? ⟨g, 0 + (k * 3 + r), none⟩ = some u := fun r u hr hu => by
    refine cell_of_block h ?_
    rw [List.getElem?_toArray, Nat.zero_add, vals_get, show (k * 3 + r) / 3 = k from by omega, show (k * 3 + r) % 3 = r from by omega, hk]
    exact hu
  exact ⟨key 0 _ (by omega) rfl, key 1 _ (by omega) rfl, key 2 _ (by omega) rfl, hs k c hk⟩
theorem vals_rest (cs : List Cl) (n : Nat) (h : cs.length ≤ n) : vals cs ++ (vals (List.replicate n zeroCl)).drop (vals cs).length = vals (cs ++ List.replicate (n - cs.length) zeroCl) := by
  have e : List.replicate n zeroCl = List.replicate cs.length zeroCl ++ List.replicate (n - cs.length) zeroCl := by rw [List.replicate_append_replicate, Nat.add_sub_cancel' h]
  rw [e, vals_append, vals_append, List.drop_left' (by rw [vals_length, vals_length, List.length_replicate])]
theorem putCells_sizes {cs : List Cl} {i : Nat} {x : Cl} (h : ∀ (k : Nat) (c : Cl), cs[k]? = some c → c.text.size ≤ 9223372036854775807) (hx : x.text.size ≤ 9223372036854775807) : ∀ (k : Nat) (c : Cl), (putCells cs i x)[k]? = some c → c.text.size ≤ 9223372036854775807 := by
  intro k c hk
  have hm := List.mem_of_getElem? hk
  unfold putCells at hm
  rcases List.mem_or_eq_of_mem_set hm with hm | rfl
  · rcases List.mem_append.1 hm with hm | hm
    · obtain ⟨j, hj⟩ := List.mem_iff_getElem?.1 hm
      exact h j c hj
    · rw [(List.mem_replicate.1 hm).2]; decide
  · exact hx

set_option maxHeartbeats 4000000 in
theorem put_any (bw : Nat) (c : Ch) (kn : Int) (a : Option Addr) (cap i : Nat) (x : Cl) (w : World) (hw : w.heap[bw]? = some (Obj.cells #[.int .i64 c.epoch, .bool c.sealed, .int .i64 c.cut, .slice a c.cells.length cap, .int .i64 kn] 72 (0, 0))) (hc : CellsAt w a cap c.cells)
    (hi : i < 30) (hl : c.cells.length ≤ 30) (_h0 : 0 ≤ c.cut ∧ c.cut ≤ 30) (hx : x.text.size ≤ 9223372036854775807) :
    Calls Try.prog 58 #[.pointer (some ⟨bw, 0, none⟩), .int .i64 (c.cut + i), x.val] w fun e w' => e = .returned (.tuple #[]) ∧ ∃ a' cap',
      w'.heap[bw]? = some (Obj.cells #[.int .i64 c.epoch, .bool c.sealed, .int .i64 c.cut, .slice a' (putCells c.cells i x).length cap', .int .i64 kn] 72 (0, 0)) ∧ CellsAt w' a' cap' (putCells c.cells i x) ∧ Turn bw w w' ∧ ∀ y, a' = some y → w.heap.size ≤ y.block := by
  obtain ⟨i0, hinf, hz0, hz1, hz2⟩ := info_parts Try.infoCell
  have HC : Hid (CellsAt w a cap c.cells) := hc
  clear hc
  have hlt := lt_of_block hw
  have hcap := HC.out.2.1
  have g0 : Grow w (w.alloc (Obj.cells #[.bool x.there, .bool x.junk, .string x.text] 54)) := (Grow.refl w).alloc _
  have w0 := grow_block g0 hw
  have k0 := grow_block (Grow.refl (w.alloc (Obj.cells #[.bool x.there, .bool x.junk, .string x.text] 54))).drew (heap_alloc_new w (Obj.cells #[.bool x.there, .bool x.junk, .string x.text] 54))
  have wd := grow_block (Grow.refl (w.alloc (Obj.cells #[.bool x.there, .bool x.junk, .string x.text] 54))).drew w0
  have c2 := cell_of_block (o := 2) wd rfl; simp at c2
  have c3 := cell_of_block (o := 3) wd rfl; simp at c3
  obtain ⟨N, hN⟩ : ∃ N, N = max c.cells.length (i + 1) := ⟨_, rfl⟩
  have hN30 : N ≤ 30 := by omega
  have hsub : c.cut + (i : Int) - c.cut = i := by omega
  have HN : Hid (N = max c.cells.length (i + 1)) := hN
  clear hN
  unfold Cl.val
  by_cases hmx : (c.cells.length : Int) < (i : Int) + 1
  all_goals
    go_enter Try.func58, Try.ntmps58
    go_wp2_with fail
    refine wp_region_path [(0, 0), (6, 0), (7, 0), (1, 2), (2, 0), (3, 0), (4, 0), (5, 0), (8, 2), (9, 0), (10, 0), (11, 0), (12, 2), (13, 2), (14, 2), (15, 1), (16, 0)] (by kernel_rfl) (by kernel_rfl) (by kernel_rfl) (by kernel_rfl) ?_
    simp only [parts, headed, headed2, List.getElem?_toArray, List.getElem?_cons_zero, List.getElem?_cons_succ]
    refine parts_step fun K HK => ?_
    go_wp2_with fail
    refine HK.out _ _ (Grow.refl _) ?_
    clear HK K
    refine parts_step2 (fun hw => by first | (cases hw; done) | (apply looks_run; intro w'; go_simp; try first | rfl | rw [if_neg (by omega)])) fun K HK => ?_
    go_wp2_with fail
    refine HK.out _ _ (Grow.refl _) ?_
    clear HK K
    refine parts_step2 (fun hw => by first | (cases hw; done) | (apply looks_run; intro w'; go_simp; try first | rfl | rw [if_neg (by omega)])) fun K HK => ?_
    go_wp2_with fail
    refine HK.out _ _ (Grow.refl _) ?_
    clear HK K
    refine parts_step2 (fun hw => by first | (cases hw; done) | (apply looks_run; intro w'; go_simp; try first | rfl | rw [if_neg (by omega)])) fun K HK => ?_
    go_wp2_with fail
    refine HK.out _ _ (Grow.refl _) ?_
    clear HK K
    refine parts_step2 (fun hw => by first | (cases hw; done) | (apply looks_run; intro w'; go_simp; try first | rfl | rw [if_neg (by omega)])) fun K HK => ?_
    go_wp2_with fail
    refine HK.out _ _ (Grow.refl _) ?_
    clear HK K
    refine parts_step2 (fun hw => by first | (cases hw; done) | (apply looks_run; intro w'; go_simp; try first | rfl | rw [if_neg (by omega)])) fun K HK => ?_
    go_wp2_with (at_make; go_must (refine wpList_make_full _ (by rfl) _ _ 40 (by rfl) (w.heap.size + 1) 54 i0 (.agg #[.bool false, .bool false, .string ⟨#[]⟩]) 3 Try.underlying40 hinf hz0 hz1 .i64 .i64 _ _ N (by rfl) (by rfl) (by have := HN.out; omega) (by have := HN.out; omega) (by rw [hz2]; omega) (by unfold maxLen; omega) (by simp) ?_; intro w2 hown hgrow))
    refine HK.out _ _ (grow_of_grown hgrow) ?_
    clear HK K
    refine parts_step fun K HK => ?_
    go_wp2_with fail
    refine HK.out _ _ (Grow.refl _) ?_
    clear HK K
    refine parts_done ?_
    have G2 : Grow (w.alloc (Obj.cells #[.bool x.there, .bool x.junk, .string x.text] 54)).drew w2 := grow_of_grown hgrow
    have r2 := row_full hown
    have w2b := grow_block G2 wd
    have k2 := grow_block G2 k0
    have C2 := HC.out.grow (g0.drew.trans G2)
    have T2 : Turn bw w w2 := Turn.of_grow (g0.drew.trans G2)
    have hs2 := G2.size
    simp at hs2
    rw [show (Value.agg #[.bool false, .bool false, .string ⟨#[]⟩]).cells = #[.bool false, .bool false, .string ⟨#[]⟩] from rfl, made_zero] at r2
    have e1 : ((w.alloc (Obj.cells #[.bool x.there, .bool x.junk, .string x.text] 54)).drew).heap.size = w.heap.size + 1 := by simp
    rw [e1] at r2
    clear hown hgrow G2 wd k0 c2 c3 g0 w0 e1
    have c3 := cell_of_block (o := 3) w2b rfl; simp at c3
    have hleN : c.cells.length ≤ N := by have := HN.out; omega
    have HS : Hid (vals c.cells ≠ [] → ∃ ad, a = some ad ∧ ∀ j v, (vals c.cells)[j]? = some v → w2.cell? (ad.add j) = some v) := by
      intro hne
      have hn : c.cells ≠ [] := fun e => hne (by rw [e]; rfl)
      have hp := List.length_pos_iff.2 hn
      obtain ⟨b, off, rfl, _⟩ := C2.at (List.getElem?_eq_getElem hp)
      exact ⟨_, rfl, C2.news⟩
    have HZ : Hid (vals c.cells = [] → c.cells.length = 0) := by
      intro h
      have := vals_length c.cells
      rw [h] at this
      simp at this
      omega
    have HF : Hid ((vals c.cells).length ≤ (vals (List.replicate N zeroCl)).toArray.size) := by
      show _ ≤ _
      simp [vals_length]
      omega
    go_wp2_with (refine wpList_copy_wide (by rfl) _ _ 40 40 (by rfl) 54 Try.underlying40 i0 hinf 3 hz1 (w.heap.size + 1) N N (by rfl) a c.cells.length cap (by rfl) hleN _ _ r2 (vals c.cells) (vals_length _) HS.out HZ.out HF.out (vals_one _) ?_)
    have HR : Hid (vals c.cells ++ List.drop (vals c.cells).length (vals (List.replicate N zeroCl)) = vals (c.cells ++ List.replicate (N - c.cells.length) zeroCl)) := vals_rest _ _ hleN
    rw [HR.out]
    have r3 := setRow_heap w2 (w.heap.size + 1) _ (vals (c.cells ++ List.replicate (N - c.cells.length) zeroCl)).toArray 54 (0, 0) r2
    have o3 : ∀ k, k ≠ w.heap.size + 1 → (w2.setRow (w.heap.size + 1) (vals (c.cells ++ List.replicate (N - c.cells.length) zeroCl)).toArray).heap[k]? = w2.heap[k]? := fun k h => setRow_other _ _ _ _ h
    have w3b := (o3 bw (by omega)).trans w2b
    have k3 := (o3 w.heap.size (by omega)).trans k2
    have T3 : Turn bw w (w2.setRow (w.heap.size + 1) (vals (c.cells ++ List.replicate (N - c.cells.length) zeroCl)).toArray) := ⟨T2.os, T2.tape, T2.output, by simpa [World.setRow] using T2.size, fun k hk hn => (o3 k (by omega)).trans (T2.block k hk hn)⟩
    generalize w2.setRow (w.heap.size + 1) (vals (c.cells ++ List.replicate (N - c.cells.length) zeroCl)).toArray = w3 at *
    have HM : Hid (c.cells ++ List.replicate (N - c.cells.length) zeroCl = c.cells ++ List.replicate (i + 1 - c.cells.length) zeroCl) := by show _ = _; have := HN.out; rw [show N - c.cells.length = i + 1 - c.cells.length from by omega]
    rw [HM.out] at r3
    have HP : Hid ((c.cells ++ List.replicate (i + 1 - c.cells.length) zeroCl).set i x = putCells c.cells i x) := rfl
    have hML : (vals (c.cells ++ List.replicate (i + 1 - c.cells.length) zeroCl)).length = N * 3 := by rw [vals_length]; have := HN.out; simp; omega
    have hiN : i < N := by have := HN.out; omega
    generalize c.cells ++ List.replicate (i + 1 - c.cells.length) zeroCl = M at r3 HP hML
    obtain ⟨u0, hu0⟩ : ∃ u, (vals M).toArray[i * 3]? = some u := ⟨_, Array.getElem?_eq_getElem (by simp [hML]; omega)⟩
    obtain ⟨u1, hu1⟩ : ∃ u, (vals M).toArray[i * 3 + 1]? = some u := ⟨_, Array.getElem?_eq_getElem (by simp [hML]; omega)⟩
    obtain ⟨u2, hu2⟩ : ∃ u, (vals M).toArray[i * 3 + 2]? = some u := ⟨_, Array.getElem?_eq_getElem (by simp [hML]; omega)⟩
    have e0 := cell_of_block r3 hu0
    have e1 := cell_of_block r3 hu1
    have e2 := cell_of_block r3 hu2
    have f0 := free_of_block r3 (i * 3)
    have f1 := free_of_block r3 (i * 3 + 1)
    have f2 := free_of_block r3 (i * 3 + 2)
    have x0 := cell_of_block (o := 0) k3 rfl
    have x1 := cell_of_block (o := 1) k3 rfl
    have x2 := cell_of_block (o := 2) k3 rfl
    have y2 := cell_of_block (o := 2) w3b rfl
    have hiN' : (i : Int) < (N : Int) := by omega
    clear c3 HS HZ HF HR HM o3 hu0 hu1 hu2 w2b k2 r2 T2
    refine wp_region_path [(0, 0), (1, 0), (2, 0), (8, 0), (3, 2), (4, 0), (5, 0), (6, 0), (7, 2), (9, 0), (10, 3)] (by kernel_rfl) (by kernel_rfl) (by kernel_rfl) (by kernel_rfl) ?_
    simp only [parts, headed, headed2, List.getElem?_toArray, List.getElem?_cons_zero, List.getElem?_cons_succ]
    refine parts_step fun K HK => ?_
    go_wp2_with fail
    refine HK.out _ _ (Grow.refl _) ?_
    clear HK K
    refine parts_step2 (fun hw => by first | (cases hw; done) | (apply looks_run; intro w'; go_simp; try first | rfl | rw [if_neg (by omega)])) fun K HK => ?_
    go_wp2_with fail
    refine HK.out _ _ (Grow.refl _) ?_
    clear HK K
    refine parts_cut2 (fun hw => by first | (cases hw; done) | (apply looks_run; intro w'; go_simp; try first | rfl | rw [if_neg (by omega)])) fun K HK => ?_
    go_wp2_with fail
    refine HK.out _ _ ?_
    clear HK K
    refine parts_step fun K HK => ?_
    go_wp2_with fail
    refine HK.out _ _ (Grow.refl _) ?_
    clear HK K
    refine parts_done ?_
    clear e0 e1 e2 f0 f1 f2 x0 x1 x2 y2
    have r4 := block_set (o := i * 3 + 2) (v := .string x.text) (block_set (o := i * 3 + 1) (v := .bool x.junk) (block_set (o := i * 3) (v := .bool x.there) r3))
    simp only [List.setIfInBounds_toArray] at r4
    rw [vals_set, HP.out] at r4
    have w4b := block_far (a := ⟨w.heap.size + 1, i * 3 + 2, none⟩) (v := .string x.text) (by simp; omega) (block_far (a := ⟨w.heap.size + 1, i * 3 + 1, none⟩) (v := .bool x.junk) (by simp; omega) (block_far (a := ⟨w.heap.size + 1, i * 3, none⟩) (v := .bool x.there) (by simp; omega) w3b))
    have T4 : Turn bw w (((w3.setCell ⟨w.heap.size + 1, i * 3, none⟩ (.bool x.there)).setCell ⟨w.heap.size + 1, i * 3 + 1, none⟩ (.bool x.junk)).setCell ⟨w.heap.size + 1, i * 3 + 2, none⟩ (.string x.text)) := Turn.set (Turn.set (Turn.set T3 (.inl (by simp)) _) (.inl (by simp)) _) (.inl (by simp)) _
    generalize (((w3.setCell ⟨w.heap.size + 1, i * 3, none⟩ (.bool x.there)).setCell ⟨w.heap.size + 1, i * 3 + 1, none⟩ (.bool x.junk)).setCell ⟨w.heap.size + 1, i * 3 + 2, none⟩ (.string x.text)) = w4 at *
    have y3 := cell_of_block (o := 3) w4b rfl
    have z3 := free_of_block w4b 3
    go_wp2
    have b5 := block_set (o := 3) (v := .slice (some ⟨w.heap.size + 1, 0, none⟩) N N) w4b
    simp only [List.setIfInBounds_toArray, List.set_cons_zero, List.set_cons_succ] at b5
    have r5 := block_far (a := ⟨bw, 3, none⟩) (v := .slice (some ⟨w.heap.size + 1, 0, none⟩) N N) (by simp; omega) r4
    have T5 := T4.set (p := ⟨bw, 3, none⟩) (.inr rfl) (.slice (some ⟨w.heap.size + 1, 0, none⟩) N N)
    have hPL : (putCells c.cells i x).length = N := by rw [putCells_length, ← HN.out]
    go_end0
    exact ⟨rfl, _, _, by rw [hPL]; exact b5, cellsAt_block r5 (by omega) (by omega) (putCells_sizes C2.sizes hx), ⟨T5.os, T5.tape, T5.output, T5.size, T5.block⟩, fun y hy => by cases hy; simp⟩
end Go.Proofs.Ytikdncgjaomlcaa
