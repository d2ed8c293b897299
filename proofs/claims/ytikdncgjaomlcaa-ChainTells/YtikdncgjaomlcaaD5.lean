/- The document's write: cutwaterref.WriteOf. -/
import Derived.Test.YtikdncgjaomlcaaD4
namespace Go.Proofs.Ytikdncgjaomlcaa
open Go.RowKit

theorem silent {p : Prop} (h : p) : Hid p := h
theorem run_there (t j : Bool) (s : ByteArray) (w : World) : (Instr.field 54 (.agg #[.bool t, .bool j, .string s]) 0).run Try.prog w = .ok (.bool t) w := by rfl
theorem run_junk (t j : Bool) (s : ByteArray) (w : World) : (Instr.field 54 (.agg #[.bool t, .bool j, .string s]) 1).run Try.prog w = .ok (.bool j) w := by rfl
theorem putCells_look {c : Ch} {i k : Nat} {x : Cl} (hk : k < max c.cells.length (i + 1)) (hi : k ≠ i) : (putCells c.cells i x)[k]? = some (c.look (c.cut + k)) := by
  unfold Ch.look Ch.at
  rw [if_neg (by omega), show (c.cut + (k : Int) - c.cut).toNat = k from by omega, putCells_get, if_neg hi]
  by_cases h : k < c.cells.length
  · rw [if_pos h, List.getElem?_eq_getElem h]; rfl
  · rw [if_neg h, if_pos (by omega), List.getElem?_eq_none (by omega)]; rfl
set_option maxHeartbeats 16000000 in
theorem refWrite_any (c : Ch) (a : Option Addr) (cap : Nat) (kn p : Int) (x : Cl) (may : Cl → Bool) (w : World) (hc : CellsAt w a cap c.cells) (he : c.err = 0) (hxs : x.text.size ≤ 9223372036854775807) (hmay : ∀ y, may y = !(y.there || (y.junk && !x.junk))) :
    Calls Try.prog 27 #[c.val a cap, .int .i64 kn, .int .i64 p, x.val] w fun e w' => ∃ a' cap', e = .returned (.tuple #[(c.write kn p x may).1.val a' cap', .int .i64 (c.write kn p x may).2]) ∧ Grow w w' ∧ CellsAt w' a' cap' (c.write kn p x may).1.cells := by
  obtain ⟨i0, hi, hz0, hz1, hz2⟩ := info_parts Try.infoCell
  have HC := silent hc
  clear hc
  obtain ⟨_, hcut, hlen, _⟩ := Ch.fine he
  have hl : c.cells.length ≤ 30 := by omega
  have HW : ∀ r, c.write kn p x may = r → Hid (c.write kn p x may = r) := fun _ h => h
  have hwe : wErr c kn p x = if p < 0 ∨ 30 ≤ p then 3 else if 12 < x.text.size then 2 else if kn ≠ c.epoch ∨ c.sealed = true then 4 else 0 := by unfold wErr; rw [if_neg (by simp [he])]
  clear he
  cases h2 : betw p 0 29
  case false =>
    have hp : p < 0 ∨ 30 ≤ p := by simp [betw] at h2; omega
    have H := HW (zeroCh, 3) (by unfold Ch.write; rw [hwe, if_pos hp, if_pos (by decide)])
    clear HW hwe hmay
    clear hp
    unfold Ch.val Cl.val
    go_enter Try.func27, Try.ntmps27
    go_wp2_with (go_at_call 36; refine (between_any _ _ _ _).mono ?_; rw [h2]; rintro e w1 ⟨rfl, rfl⟩)
    exact bodyPost_ret (v := .tuple #[.agg #[.int .i64 0, .bool false, .int .i64 0, .slice none 0 0], .int .i64 3]) (by simp [results, Try.results27, go_sem]) rfl ⟨none, 0, by rw [H.out]; rfl, (((Grow.refl w).alloc _).alloc _).alloc _, by rw [H.out]; exact cellsAt_nil _ _ _⟩
  have hp : ¬ (p < 0 ∨ 30 ≤ p) := by simp [betw] at h2; omega
  by_cases h3 : 12 < x.text.size
  case pos =>
    have H := HW (zeroCh, 2) (by unfold Ch.write; rw [hwe, if_neg hp, if_pos h3, if_pos (by decide)])
    clear HW hwe hmay
    have h3' : decide (12 < (x.text.size : Int)) = true := by simp; omega
    clear hp
    unfold Ch.val Cl.val
    go_enter Try.func27, Try.ntmps27
    go_wp2_with (go_at_call 36; refine (between_any _ _ _ _).mono ?_; rw [h2]; rintro e w1 ⟨rfl, rfl⟩)
    exact bodyPost_ret (v := .tuple #[.agg #[.int .i64 0, .bool false, .int .i64 0, .slice none 0 0], .int .i64 2]) (by simp [results, Try.results27, go_sem]) rfl ⟨none, 0, by rw [H.out]; rfl, (((Grow.refl w).alloc _).alloc _).alloc _, by rw [H.out]; exact cellsAt_nil _ _ _⟩
  have h3' : decide (12 < (x.text.size : Int)) = false := by simp; omega
  by_cases h4 : kn = c.epoch
  case neg =>
    have H := HW (zeroCh, 4) (by unfold Ch.write; rw [hwe, if_neg hp, if_neg h3, if_pos (show kn ≠ c.epoch ∨ c.sealed = true from .inl h4), if_pos (by decide)])
    clear HW hwe hmay
    have h40 : (kn == c.epoch) = false := by simpa using h4
    have h41 : (kn != c.epoch) = true := by simpa using h4
    clear hp h4
    unfold Ch.val Cl.val
    go_enter Try.func27, Try.ntmps27
    go_wp2_with (go_at_call 36; refine (between_any _ _ _ _).mono ?_; rw [h2]; rintro e w1 ⟨rfl, rfl⟩)
    exact bodyPost_ret (v := .tuple #[.agg #[.int .i64 0, .bool false, .int .i64 0, .slice none 0 0], .int .i64 4]) (by simp [results, Try.results27, go_sem]) rfl ⟨none, 0, by rw [H.out]; rfl, (((Grow.refl w).alloc _).alloc _).alloc _, by rw [H.out]; exact cellsAt_nil _ _ _⟩
  cases h5 : c.sealed
  case true =>
    have H := HW (zeroCh, 4) (by unfold Ch.write; rw [hwe, if_neg hp, if_neg h3, if_pos (show kn ≠ c.epoch ∨ c.sealed = true from .inr h5), if_pos (by decide)])
    clear HW hwe hmay
    have h40 : (kn == c.epoch) = true := by simpa using h4
    have h41 : (kn != c.epoch) = false := by simpa using h4
    clear hp h4
    unfold Ch.val Cl.val
    go_enter Try.func27, Try.ntmps27
    rw [h5]
    go_wp2_with (go_at_call 36; refine (between_any _ _ _ _).mono ?_; rw [h2]; rintro e w1 ⟨rfl, rfl⟩)
    exact bodyPost_ret (v := .tuple #[.agg #[.int .i64 0, .bool false, .int .i64 0, .slice none 0 0], .int .i64 4]) (by simp [results, Try.results27, go_sem]) rfl ⟨none, 0, by rw [H.out]; rfl, (((Grow.refl w).alloc _).alloc _).alloc _, by rw [H.out]; exact cellsAt_nil _ _ _⟩
  subst h4
  have hwe0 : wErr c c.epoch p x = 0 := by rw [hwe, if_neg hp, if_neg h3, if_neg (by simp [h5])]
  clear hwe h3
  by_cases h6 : p < c.cut
  case pos =>
    have H := HW (zeroCh, 6) (by unfold Ch.write; rw [if_neg (by simp [hwe0]), if_pos (.inl h6)])
    have h6' : decide (p < c.cut) = true := by simpa using h6
    clear HW hwe0 hmay hp h6
    unfold Ch.val Cl.val
    go_enter Try.func27, Try.ntmps27
    rw [h5]
    go_wp2_with (go_at_call 36; refine (between_any _ _ _ _).mono ?_; rw [h2]; rintro e w1 ⟨rfl, rfl⟩)
    exact bodyPost_ret (v := .tuple #[.agg #[.int .i64 0, .bool false, .int .i64 0, .slice none 0 0], .int .i64 6]) (by simp [results, Try.results27, go_sem]) rfl ⟨none, 0, by rw [H.out]; rfl, (((Grow.refl w).alloc _).alloc _).alloc _, by rw [H.out]; exact cellsAt_nil _ _ _⟩
  have h6' : decide (p < c.cut) = false := by simpa using h6
  obtain ⟨n, hn⟩ : ∃ n : Nat, p = c.cut + n := ⟨(p - c.cut).toNat, by omega⟩
  have hnn : (p - c.cut).toNat = n := by omega
  have HP := silent hn
  have hlk : c.at n = c.look p := by unfold Ch.look; rw [if_neg h6, hnn]
  have HW2 : Hid (c.write c.epoch p x may = if may (c.look p) = false then (zeroCh, 6) else (⟨c.epoch, false, c.cut, putCells c.cells n x⟩, 0)) := by
    show c.write c.epoch p x may = _
    unfold Ch.write
    rw [if_neg (by simp [hwe0]), hnn, hlk, h5]
    simp [h6]
  have hn30 : n < 30 := by omega
  clear HW hwe0 h6 hnn hlk hn hp
  have g0 : Grow w (((w.alloc (Obj.cells #[.int .i64 c.epoch, .bool false, .int .i64 c.cut, .slice a c.cells.length cap] 42)).alloc (Obj.cells #[.bool x.there, .bool x.junk, .string x.text] 54)).alloc (Obj.cells #[.int .i64 0, .bool false, .int .i64 0, .slice none 0 0] 42)) := (((Grow.refl w).alloc _).alloc _).alloc _
  have s1 : (w.alloc (Obj.cells #[.int .i64 c.epoch, .bool false, .int .i64 c.cut, .slice a c.cells.length cap] 42)).heap.size = w.heap.size + 1 := by simp
  have s2 : ((w.alloc (Obj.cells #[.int .i64 c.epoch, .bool false, .int .i64 c.cut, .slice a c.cells.length cap] 42)).alloc (Obj.cells #[.bool x.there, .bool x.junk, .string x.text] 54)).heap.size = w.heap.size + 1 + 1 := by simp
  have n0 := heap_alloc_new w (Obj.cells #[.int .i64 c.epoch, .bool false, .int .i64 c.cut, .slice a c.cells.length cap] 42)
  have n1 := heap_alloc_new (w.alloc (Obj.cells #[.int .i64 c.epoch, .bool false, .int .i64 c.cut, .slice a c.cells.length cap] 42)) (Obj.cells #[.bool x.there, .bool x.junk, .string x.text] 54)
  have n2 := heap_alloc_new ((w.alloc (Obj.cells #[.int .i64 c.epoch, .bool false, .int .i64 c.cut, .slice a c.cells.length cap] 42)).alloc (Obj.cells #[.bool x.there, .bool x.junk, .string x.text] 54)) (Obj.cells #[.int .i64 0, .bool false, .int .i64 0, .slice none 0 0] 42)
  rw [s1] at n1
  rw [s2] at n2
  have k0 : (((w.alloc (Obj.cells #[.int .i64 c.epoch, .bool false, .int .i64 c.cut, .slice a c.cells.length cap] 42)).alloc (Obj.cells #[.bool x.there, .bool x.junk, .string x.text] 54)).alloc (Obj.cells #[.int .i64 0, .bool false, .int .i64 0, .slice none 0 0] 42)).heap[w.heap.size]? = some _ := (Below.heap_alloc _ _ _ (by simp <;> omega)).trans ((Below.heap_alloc _ _ _ (by simp)).trans n0)
  have k1 : (((w.alloc (Obj.cells #[.int .i64 c.epoch, .bool false, .int .i64 c.cut, .slice a c.cells.length cap] 42)).alloc (Obj.cells #[.bool x.there, .bool x.junk, .string x.text] 54)).alloc (Obj.cells #[.int .i64 0, .bool false, .int .i64 0, .slice none 0 0] 42)).heap[w.heap.size + 1]? = some _ := (Below.heap_alloc _ _ _ (by simp)).trans n1
  have k2 : (((w.alloc (Obj.cells #[.int .i64 c.epoch, .bool false, .int .i64 c.cut, .slice a c.cells.length cap] 42)).alloc (Obj.cells #[.bool x.there, .bool x.junk, .string x.text] 54)).alloc (Obj.cells #[.int .i64 0, .bool false, .int .i64 0, .slice none 0 0] 42)).heap[w.heap.size + 1 + 1]? = some _ := n2
  clear s1 s2 n0 n1 n2
  unfold Ch.val Cl.val
  go_enter Try.func27, Try.ntmps27
  rw [h5]
  go_wp2_with (go_at_call 36; refine (between_any _ _ _ _).mono ?_; rw [h2]; rintro e w1 ⟨rfl, rfl⟩)
  refine (refCellAt_any (⟨c.epoch, false, c.cut, c.cells⟩ : Ch) a cap p _ (HC.out.grow g0) hl hcut).mono ?_
  rw [show (⟨c.epoch, false, c.cut, c.cells⟩ : Ch).look p = c.look p from rfl]
  clear h2
  rintro e w1 ⟨rfl, g⟩
  replace k0 := grow_block g k0
  replace k1 := grow_block g k1
  replace k2 := grow_block g k2
  have G := g0.trans g
  clear g g0
  have hmy := hmay (c.look p)
  clear hmay
  generalize hy : c.look p = y at HW2 hmy ⊢
  have HY := silent hy
  clear hy
  obtain ⟨yt, yj, ys⟩ := y
  unfold Cl.val
  simp only at hmy ⊢
  have rt := run_there
  have rj := run_junk
  cases yt
  case true =>
    have H : Hid (c.write c.epoch p x may = (zeroCh, 6)) := by show _ = _; rw [HW2.out, if_pos (by rw [hmy]; rfl)]
    clear HW2 hmy
    have q0 := cell_of_block (o := 0) k0 rfl; simp at q0
    have q1 := cell_of_block (o := 1) k0 rfl; simp at q1
    have q2 := cell_of_block (o := 2) k0 rfl; simp at q2
    have q3 := cell_of_block (o := 3) k0 rfl; simp at q3
    have d0 := cell_of_block (o := 0) k2 rfl; simp at d0
    have d1 := cell_of_block (o := 1) k2 rfl; simp at d1
    have d2 := cell_of_block (o := 2) k2 rfl; simp at d2
    have d3 := cell_of_block (o := 3) k2 rfl; simp at d3
    have f0 := free_of_block k2 0
    have f1 := free_of_block k2 1
    have f2 := free_of_block k2 2
    have f3 := free_of_block k2 3
    go_wp2
    have aW := lay_block k2 (.int .i64 0) (.bool false) (.int .i64 0) (.slice none 0 0)
    have GW := lay_grow (b := w.heap.size + 1 + 1) G (by omega) (.int .i64 0) (.bool false) (.int .i64 0) (.slice none 0 0)
    clear q0 q1 q2 q3 d0 d1 d2 d3 f0 f1 f2 f3
    generalize ((((w1.setCell ⟨w.heap.size + 1 + 1, 0, none⟩ (.int .i64 0)).setCell ⟨w.heap.size + 1 + 1, 1, none⟩ (.bool false)).setCell ⟨w.heap.size + 1 + 1, 2, none⟩ (.int .i64 0)).setCell ⟨w.heap.size + 1 + 1, 3, none⟩ (.slice none 0 0)) = W at *
    have y0 := cell_of_block (o := 0) aW rfl; simp at y0
    have y1 := cell_of_block (o := 1) aW rfl; simp at y1
    have y2 := cell_of_block (o := 2) aW rfl; simp at y2
    have y3 := cell_of_block (o := 3) aW rfl; simp at y3
    exact bodyPost_ret (v := .tuple #[.agg #[.int .i64 0, .bool false, .int .i64 0, .slice none 0 0], .int .i64 6]) (by simp [results, Try.results27, go_sem, y0, y1, y2, y3]) rfl ⟨none, 0, by rw [H.out]; rfl, GW, by rw [H.out]; exact cellsAt_nil _ _ _⟩
  have q0 := cell_of_block (o := 0) k0 rfl; simp at q0
  have q1 := cell_of_block (o := 1) k0 rfl; simp at q1
  have q2 := cell_of_block (o := 2) k0 rfl; simp at q2
  have q3 := cell_of_block (o := 3) k0 rfl; simp at q3
  go_wp2_with fail
  clear q0 q1 q2 q3
  refine (refCellAt_any (⟨c.epoch, false, c.cut, c.cells⟩ : Ch) a cap p _ (HC.out.grow G) hl hcut).mono ?_
  rw [show (⟨c.epoch, false, c.cut, c.cells⟩ : Ch).look p = c.look p from rfl, HY.out]
  rintro e w2 ⟨rfl, g⟩
  replace k0 := grow_block g k0
  replace k1 := grow_block g k1
  replace k2 := grow_block g k2
  replace G := G.trans g
  have hsz0 : w.heap.size + 3 ≤ w2.heap.size := lt_of_block k2
  clear g
  unfold Cl.val
  have HJ : yj = true → x.junk = false → Hid (c.write c.epoch p x may = (zeroCh, 6)) := by intro h h1; show _ = _; rw [HW2.out, if_pos (by rw [hmy, h, h1]; rfl)]
  have HO : (yj = true → x.junk = true) → Hid (c.write c.epoch p x may = (⟨c.epoch, false, c.cut, putCells c.cells n x⟩, 0)) := by intro h; show _ = _; rw [HW2.out, if_neg (by rw [hmy]; cases yj; simp; simp [h rfl])]
  clear HW2 hmy
  have hadd : IntKind.i64.wrap (c.cut + (c.cells.length : Int)) = c.cut + (c.cells.length : Int) := by rw [IntKind.wrap_i64]; omega
  have hadd' : wrap64 (c.cut + (c.cells.length : Int)) = c.cut + (c.cells.length : Int) := by unfold wrap64; omega
  have q0 := cell_of_block (o := 0) k0 rfl; simp at q0
  have q1 := cell_of_block (o := 1) k0 rfl; simp at q1
  have q2 := cell_of_block (o := 2) k0 rfl; simp at q2
  have q3 := cell_of_block (o := 3) k0 rfl; simp at q3
  have r0 := cell_of_block (o := 0) k1 rfl; simp at r0
  have r1 := cell_of_block (o := 1) k1 rfl; simp at r1
  have r2 := cell_of_block (o := 2) k1 rfl; simp at r2
  cases yj
  case' true =>
    cases hxj : x.junk
    case false =>
      have H := HJ rfl hxj
      clear HJ HO
      have d0 := cell_of_block (o := 0) k2 rfl; simp at d0
      have d1 := cell_of_block (o := 1) k2 rfl; simp at d1
      have d2 := cell_of_block (o := 2) k2 rfl; simp at d2
      have d3 := cell_of_block (o := 3) k2 rfl; simp at d3
      have f0 := free_of_block k2 0
      have f1 := free_of_block k2 1
      have f2 := free_of_block k2 2
      have f3 := free_of_block k2 3
      go_wp2
      have aW := lay_block k2 (.int .i64 0) (.bool false) (.int .i64 0) (.slice none 0 0)
      have GW := lay_grow (b := w.heap.size + 1 + 1) G (by omega) (.int .i64 0) (.bool false) (.int .i64 0) (.slice none 0 0)
      clear q0 q1 q2 q3 d0 d1 d2 d3 f0 f1 f2 f3
      generalize ((((w2.setCell ⟨w.heap.size + 1 + 1, 0, none⟩ (.int .i64 0)).setCell ⟨w.heap.size + 1 + 1, 1, none⟩ (.bool false)).setCell ⟨w.heap.size + 1 + 1, 2, none⟩ (.int .i64 0)).setCell ⟨w.heap.size + 1 + 1, 3, none⟩ (.slice none 0 0)) = W at *
      have y0 := cell_of_block (o := 0) aW rfl; simp at y0
      have y1 := cell_of_block (o := 1) aW rfl; simp at y1
      have y2 := cell_of_block (o := 2) aW rfl; simp at y2
      have y3 := cell_of_block (o := 3) aW rfl; simp at y3
      exact bodyPost_ret (v := .tuple #[.agg #[.int .i64 0, .bool false, .int .i64 0, .slice none 0 0], .int .i64 6]) (by simp [results, Try.results27, go_sem, y0, y1, y2, y3]) rfl ⟨none, 0, by rw [H.out]; rfl, GW, by rw [H.out]; exact cellsAt_nil _ _ _⟩
    have H := HO fun _ => hxj
    clear HJ HO
    have qx2 := cell_grow ((Grow.refl w2).alloc (Obj.cells #[.int .i64 c.epoch, .bool false, .int .i64 c.cut, .slice none 0 0] 42)) q2
    go_wp2
    clear hxj qx2
  case' false =>
    have H := HO fun h => by cases h
    clear HJ HO
    have qx2 := cell_grow ((Grow.refl w2).alloc (Obj.cells #[.int .i64 c.epoch, .bool false, .int .i64 c.cut, .slice none 0 0] 42)) q2
    go_wp2
    clear qx2
  all_goals
    clear q0 q1 q2 q3 r0 r1 r2
    go_loopw [11] (fun i wr => ∃ (k : Nat) (v : Value), i = .int .i64 (c.cut + k) ∧ k ≤ max c.cells.length (n + 1) ∧ Grow w wr ∧ w2.heap.size + 1 ≤ wr.heap.size ∧ wr.heap[w.heap.size]? = some (Obj.cells #[.int .i64 c.epoch, .bool false, .int .i64 c.cut, .slice a c.cells.length cap] 42 (0, 0)) ∧ wr.heap[w.heap.size + 1]? = some (Obj.cells #[.bool x.there, .bool x.junk, .string x.text] 54 (0, 0)) ∧ wr.heap[w.heap.size + 1 + 1]? = some (Obj.cells #[.int .i64 0, .bool false, .int .i64 0, .slice none 0 0] 42 (0, 0)) ∧ wr.heap[w2.heap.size]? = some (Obj.cells #[.int .i64 c.epoch, .bool false, .int .i64 c.cut, v] 42 (0, 0)) ∧ wr.ownsRow (w2.heap.size + 1) 54 3 v k (vals ((putCells c.cells n x).take k))) (fun i _ => (c.cut + max c.cells.length (n + 1) - intOf i).toNat)
    case atStart =>
      have gx := (Grow.refl w2).alloc (Obj.cells #[.int .i64 c.epoch, .bool false, .int .i64 c.cut, .slice none 0 0] 42)
      exact ⟨0, .slice none 0 0, by simp, Nat.zero_le _, G.alloc _, by simp, grow_block gx k0, grow_block gx k1, grow_block gx k2, heap_alloc_new w2 (Obj.cells #[.int .i64 c.epoch, .bool false, .int .i64 c.cut, .slice none 0 0] 42), by rw [List.take_zero]; exact World.ownsRow_nil _ _ _ _⟩
    case round =>
      obtain ⟨k, v, rfl, hk, hG, hsz, h0, h1, h2, h3, hown⟩ := hrel
      clear k0 k1 k2 G
      by_cases hlt : k < max c.cells.length (n + 1)
      · have hk30 : k < 30 := by omega
        have hw1 : wrap64 (c.cut + (k : Int) + 1) = c.cut + (k : Int) + 1 := by unfold wrap64; omega
        have hw2 : IntKind.i64.wrap (c.cut + (k : Int) + 1) = c.cut + (k : Int) + 1 := by rw [IntKind.wrap_i64]; omega
        have q0 := cell_of_block (o := 0) h0 rfl; simp at q0
        have q1 := cell_of_block (o := 1) h0 rfl; simp at q1
        have q2 := cell_of_block (o := 2) h0 rfl; simp at q2
        have q3 := cell_of_block (o := 3) h0 rfl; simp at q3
        have r0 := cell_of_block (o := 0) h1 rfl; simp at r0
        have r1 := cell_of_block (o := 1) h1 rfl; simp at r1
        have r2 := cell_of_block (o := 2) h1 rfl; simp at r2
        have p0 := cell_of_block (o := 0) h3 rfl; simp at p0
        have p1 := cell_of_block (o := 1) h3 rfl; simp at p1
        have p2 := cell_of_block (o := 2) h3 rfl; simp at p2
        have p3 := cell_of_block (o := 3) h3 rfl; simp at p3
        have f0 := free_of_block h3 0
        have f1 := free_of_block h3 1
        have f2 := free_of_block h3 2
        have f3 := free_of_block h3 3
        by_cases hkn : k = n
        · have hkn' := hkn.symm
          subst hkn'
          have hA : decide (c.cut + (n : Int) ≤ p) = true := by have := HP.out; simp; omega
          have hE : (c.cut + (n : Int) == p) = true := by have := HP.out; simp; omega
          have HV : Hid (vals ((putCells c.cells n x).take (n + 1)) = vals ((putCells c.cells n x).take n) ++ [.bool x.there, .bool x.junk, .string x.text]) := vals_take (by rw [putCells_get, if_pos rfl])
          go_wp2_with (at_builtin; go_must (refine wpList_append_lies _ (by rfl) _ _ 40 (by rfl) (w2.heap.size + 1) 54 i0 (.agg #[.bool false, .bool false, .string ⟨#[]⟩]) 3 24 Try.underlying40 hi hz0 hz1 hz2 (by rfl) (by decide) v n (vals ((putCells c.cells n x).take n)) (by rfl) (hown.alloc _) ⟨wr.heap.size, 0, none⟩ 1 1 [.bool x.there, .bool x.junk, .string x.text] (by rfl) (by rfl) (World.news_of_block (cs := #[.bool x.there, .bool x.junk, .string x.text]) (t := 54) (fr := (0, 0)) (heap_alloc_new wr _)) (by intro u hu; simp at hu; rcases hu with rfl | rfl | rfl <;> rfl) (by decide) (by unfold maxLen; omega) (by omega) (by simp; omega) (wr.heap.size + 1) (by simp) ?_; intro g cap' w3 hown3 hgrow hat hltg; have hb0 : w3.heap[w.heap.size]? = some (Obj.cells #[.int .i64 c.epoch, .bool false, .int .i64 c.cut, .slice a c.cells.length cap] 42 (0, 0)) := block_grown (w := wr) hgrow (own_ne hown (by omega)) h0; have hb1 : w3.heap[w.heap.size + 1]? = some (Obj.cells #[.bool x.there, .bool x.junk, .string x.text] 54 (0, 0)) := block_grown (w := wr) hgrow (own_ne hown (by omega)) h1; have hb2 : w3.heap[w.heap.size + 1 + 1]? = some (Obj.cells #[.int .i64 0, .bool false, .int .i64 0, .slice none 0 0] 42 (0, 0)) := block_grown (w := wr) hgrow (own_ne hown (by omega)) h2; have hb3 : w3.heap[w2.heap.size]? = some (Obj.cells #[.int .i64 c.epoch, .bool false, .int .i64 c.cut, v] 42 (0, 0)) := block_grown (w := wr) hgrow (own_ne hown (by omega)) h3; have hG3 : Grow w w3 := grow_grown (w2 := wr) hG hown (by omega) hgrow; have cb3 := cell_of_block (o := 3) hb3 rfl; have fb3 := free_of_block hb3 3; have hsz3 := hgrow.size))
          have HSZ := hsz
          have b4 := block_set (o := 3) (v := .slice (some ⟨g, 0, none⟩) (n + 1) cap') hb3
          simp only [List.setIfInBounds_toArray, List.set_cons_zero, List.set_cons_succ] at b4
          go_roundw
          case rel =>
            refine ⟨n + 1, _, by go_num, by omega, hG3.setCell (by simp <;> omega) _, ?_, block_far (by simp <;> omega) hb0, block_far (by simp <;> omega) hb1, block_far (by simp <;> omega) hb2, b4, ownsRow_far ?_ (by simp) _⟩
            · simp at hsz3 HSZ ⊢; omega
            · rw [HV.out]; exact hown3
          case measure => simp [intOf]; omega
        · have hlook := putCells_look (c := c) (x := x) hlt hkn
          generalize hzz : c.look (c.cut + k) = z at hlook
          have HZ := silent hzz
          clear hzz
          have HV : Hid (vals ((putCells c.cells n x).take (k + 1)) = vals ((putCells c.cells n x).take k) ++ [.bool z.there, .bool z.junk, .string z.text]) := vals_take hlook
          clear hlook
          have hE : (c.cut + (k : Int) == p) = false := by have := HP.out; simp; omega
          have qd0 := cell_grow (Grow.refl wr).drew q0
          have qd1 := cell_grow (Grow.refl wr).drew q1
          have qd2 := cell_grow (Grow.refl wr).drew q2
          have qd3 := cell_grow (Grow.refl wr).drew q3
          have pd0 := cell_grow (Grow.refl wr).drew p0
          have pd1 := cell_grow (Grow.refl wr).drew p1
          have pd2 := cell_grow (Grow.refl wr).drew p2
          have pd3 := cell_grow (Grow.refl wr).drew p3
          by_cases hAA : k < n
          case' pos =>
            have hA : decide (c.cut + (k : Int) ≤ p) = true := by have := HP.out; simp; omega
            go_wp2_with fail
          case' neg =>
            have hA : decide (c.cut + (k : Int) ≤ p) = false := by have := HP.out; simp; omega
            have hB : decide (c.cut + (k : Int) < c.cut + (c.cells.length : Int)) = true := by simp; omega
            go_wp2_with fail
          all_goals
            refine wp_region_path [(0, 0), (1, 0), (2, 0), (3, 0), (4, 1), (5, 1), (6, 3), (7, 0), (8, 3)] (by kernel_rfl) (by kernel_rfl) (by kernel_rfl) (by kernel_rfl) ?_
            simp only [parts, headed, List.getElem?_toArray, List.getElem?_cons_zero, List.getElem?_cons_succ]
            refine parts_step fun K HK => ?_
            go_wp2_with fail
            refine (refCellAt_any (⟨c.epoch, false, c.cut, c.cells⟩ : Ch) a cap (c.cut + k) _ (HC.out.grow hG.drew) hl hcut).mono ?_
            rw [show (⟨c.epoch, false, c.cut, c.cells⟩ : Ch).look (c.cut + k) = c.look (c.cut + k) from rfl, HZ.out]
            rintro e w4 ⟨rfl, g1⟩
            unfold Cl.val
            go_wp2_with fail
            refine HK.out _ _ g1 ?_
            have hown1 := ownsRow_grow hown.drew g1
            have hs1 := g1.size
            clear HK K
            refine parts_step fun K HK => ?_
            go_wp2_with fail
            refine HK.out _ _ ((Grow.refl w4).alloc _) ?_
            clear HK K
            refine parts_cut fun K HK => ?_
            go_wp2_with (at_builtin; go_must (refine wpList_append_lies _ (by rfl) _ _ 40 (by rfl) (w2.heap.size + 1) 54 i0 (.agg #[.bool false, .bool false, .string ⟨#[]⟩]) 3 24 Try.underlying40 hi hz0 hz1 hz2 (by rfl) (by decide) v k (vals ((putCells c.cells n x).take k)) (by rfl) (hown1.alloc _) ⟨w4.heap.size, 0, none⟩ 1 1 [.bool z.there, .bool z.junk, .string z.text] (by rfl) (by rfl) (World.news_of_block (cs := #[.bool z.there, .bool z.junk, .string z.text]) (t := 54) (fr := (0, 0)) (heap_alloc_new w4 _)) (by intro u hu; simp at hu; rcases hu with rfl | rfl | rfl <;> rfl) (by decide) (by unfold maxLen; omega) (by omega) (by simp at hs1 ⊢; omega) (w4.heap.size + 1) (by simp) ?_; intro g cap' w3 hown3 hgrow hat hltg))
            refine HK.out _ _ ?_
            have h01 := grow_block g1 (grow_block (Grow.refl wr).drew h0)
            have h11 := grow_block g1 (grow_block (Grow.refl wr).drew h1)
            have h21 := grow_block g1 (grow_block (Grow.refl wr).drew h2)
            have h31 := grow_block g1 (grow_block (Grow.refl wr).drew h3)
            have hb0 : w3.heap[w.heap.size]? = some (Obj.cells #[.int .i64 c.epoch, .bool false, .int .i64 c.cut, .slice a c.cells.length cap] 42 (0, 0)) := block_grown (w := w4) hgrow (own_ne hown1 (by omega)) h01
            have hb1 : w3.heap[w.heap.size + 1]? = some (Obj.cells #[.bool x.there, .bool x.junk, .string x.text] 54 (0, 0)) := block_grown (w := w4) hgrow (own_ne hown1 (by omega)) h11
            have hb2 : w3.heap[w.heap.size + 1 + 1]? = some (Obj.cells #[.int .i64 0, .bool false, .int .i64 0, .slice none 0 0] 42 (0, 0)) := block_grown (w := w4) hgrow (own_ne hown1 (by omega)) h21
            have hb3 : w3.heap[w2.heap.size]? = some (Obj.cells #[.int .i64 c.epoch, .bool false, .int .i64 c.cut, v] 42 (0, 0)) := block_grown (w := w4) hgrow (own_ne hown1 (by omega)) h31
            have hG3 : Grow w w3 := grow_grown (w2 := w4) (hG.drew.trans g1) hown1 (by omega) hgrow
            have cb3 := cell_of_block (o := 3) hb3 rfl
            have fb3 := free_of_block hb3 3
            have hsz3 := hgrow.size
            clear HK K
            refine parts_cut fun K HK => ?_
            go_wp2_with fail
            refine HK.out _ _ ?_
            clear HK K
            refine parts_step fun K HK => ?_
            go_wp2_with fail
            refine HK.out _ _ (Grow.refl _) ?_
            clear HK K
            refine parts_done ?_
            go_wp2
            have HSZ := hs1
            have b4 := block_set (o := 3) (v := .slice (some ⟨g, 0, none⟩) (k + 1) cap') hb3
            simp only [List.setIfInBounds_toArray, List.set_cons_zero, List.set_cons_succ] at b4
            go_roundw
            case rel =>
              refine ⟨k + 1, _, by go_num, by omega, hG3.setCell (by simp <;> omega) _, ?_, block_far (by simp <;> omega) hb0, block_far (by simp <;> omega) hb1, block_far (by simp <;> omega) hb2, b4, ownsRow_far ?_ (by simp) _⟩
              · simp at hsz3 HSZ ⊢; omega
              · rw [HV.out]; exact hown3
            case measure => simp [intOf]; omega
      · have hkl : k = max c.cells.length (n + 1) := by omega
        have hA : decide (c.cut + (k : Int) ≤ p) = false := by have := HP.out; simp; omega
        have hB : decide (c.cut + (k : Int) < c.cut + (c.cells.length : Int)) = false := by simp; omega
        have hpl : (putCells c.cells n x).length = k := by rw [putCells_length, hkl]
        rw [List.take_of_length_le (by omega), ← hpl] at hown
        obtain ⟨a', cap', rfl, C1, hnew⟩ := row_cells (by rw [hpl]; omega) (putCells_sizes HC.out.sizes hxs) hown
        have CN := silent C1
        rw [hpl] at h3
        have HPL := silent hpl
        have hge : c.cells.length ≤ k := by omega
        have hge2 : (c.cells.length : Int) ≤ (k : Int) := by omega
        clear C1 hown hkl hpl hlt hk
        have q0 := cell_of_block (o := 0) h0 rfl; simp at q0
        have q1 := cell_of_block (o := 1) h0 rfl; simp at q1
        have q2 := cell_of_block (o := 2) h0 rfl; simp at q2
        have q3 := cell_of_block (o := 3) h0 rfl; simp at q3
        have p0 := cell_of_block (o := 0) h3 rfl; simp at p0
        have p1 := cell_of_block (o := 1) h3 rfl; simp at p1
        have p2 := cell_of_block (o := 2) h3 rfl; simp at p2
        have p3 := cell_of_block (o := 3) h3 rfl; simp at p3
        have d0 := cell_of_block (o := 0) h2 rfl; simp at d0
        have d1 := cell_of_block (o := 1) h2 rfl; simp at d1
        have d2 := cell_of_block (o := 2) h2 rfl; simp at d2
        have d3 := cell_of_block (o := 3) h2 rfl; simp at d3
        have f0 := free_of_block h2 0
        have f1 := free_of_block h2 1
        have f2 := free_of_block h2 2
        have f3 := free_of_block h2 3
        go_wp2_with fail
        have aW := lay_block h2 (.int .i64 c.epoch) (.bool false) (.int .i64 c.cut) ((.slice a' k cap'))
        have GW := lay_grow (b := w.heap.size + 1 + 1) hG (by omega) (.int .i64 c.epoch) (.bool false) (.int .i64 c.cut) ((.slice a' k cap'))
        have CW := lay_cells (b := w.heap.size + 1 + 1) CN.out (fun y hy => by have := hnew y hy; omega) (.int .i64 c.epoch) (.bool false) (.int .i64 c.cut) ((.slice a' k cap'))
        clear q0 q1 q2 q3 p0 p1 p2 p3 d0 d1 d2 d3 f0 f1 f2 f3
        generalize ((((wr.setCell ⟨w.heap.size + 1 + 1, 0, none⟩ (.int .i64 c.epoch)).setCell ⟨w.heap.size + 1 + 1, 1, none⟩ (.bool false)).setCell ⟨w.heap.size + 1 + 1, 2, none⟩ (.int .i64 c.cut)).setCell ⟨w.heap.size + 1 + 1, 3, none⟩ ((.slice a' k cap'))) = W at *
        have y0 := cell_of_block (o := 0) aW rfl; simp at y0
        have y1 := cell_of_block (o := 1) aW rfl; simp at y1
        have y2 := cell_of_block (o := 2) aW rfl; simp at y2
        have y3 := cell_of_block (o := 3) aW rfl; simp at y3
        exact bodyPost_ret (v := .tuple #[.agg #[.int .i64 c.epoch, .bool false, .int .i64 c.cut, (.slice a' k cap')], .int .i64 0]) (by simp [results, Try.results27, go_sem, y0, y1, y2, y3]) rfl ⟨a', cap', by rw [H.out, ← HPL.out], GW, by rw [H.out]; exact CW⟩
end Go.Proofs.Ytikdncgjaomlcaa
