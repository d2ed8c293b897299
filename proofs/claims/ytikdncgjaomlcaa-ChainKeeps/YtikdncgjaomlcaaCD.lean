/- cutwaterlaw.ChainKeeps answers true. -/
import Derived.Test.YtikdncgjaomlcaaCA
import Derived.Test.YtikdncgjaomlcaaCC
namespace Go.Proofs.Ytikdncgjaomlcaa
open Go.RowKit

section
variable {w : World} {b : Nat} {t : TypeId} {v0 v1 v2 v3 : Value}
/-- A chain's block is written over. -/
theorem over_block {u0 u1 u2 u3 : Value} (h : w.heap[b]? = some (.cells #[u0, u1, u2, u3] t (0, 0))) (v0 v1 v2 v3 : Value) :
    ((((w.setCell ⟨b, 0, none⟩ v0).setCell ⟨b, 1, none⟩ v1).setCell ⟨b, 2, none⟩ v2).setCell ⟨b, 3, none⟩ v3).heap[b]? = some (.cells #[v0, v1, v2, v3] t (0, 0)) := by
  have := block_set (o := 3) (v := v3) (block_set (o := 2) (v := v2) (block_set (o := 1) (v := v1) (block_set (o := 0) (v := v0) h)))
  simpa only [List.setIfInBounds_toArray, List.set_cons_zero, List.set_cons_succ] using this
theorem over_far {k : Nat} {o : Obj} (h : w.heap[k]? = some o) (hk : k ≠ b) (v0 v1 v2 v3 : Value) :
    ((((w.setCell ⟨b, 0, none⟩ v0).setCell ⟨b, 1, none⟩ v1).setCell ⟨b, 2, none⟩ v2).setCell ⟨b, 3, none⟩ v3).heap[k]? = some o :=
  block_far hk (block_far hk (block_far hk (block_far hk h)))
theorem over_grow {w0 : World} (h : Grow w0 w) (hb : w0.heap.size ≤ b) (v0 v1 v2 v3 : Value) :
    Grow w0 ((((w.setCell ⟨b, 0, none⟩ v0).setCell ⟨b, 1, none⟩ v1).setCell ⟨b, 2, none⟩ v2).setCell ⟨b, 3, none⟩ v3) :=
  (((h.setCell (p := ⟨b, 0, none⟩) hb _).setCell (p := ⟨b, 1, none⟩) hb _).setCell (p := ⟨b, 2, none⟩) hb _).setCell (p := ⟨b, 3, none⟩) hb _
theorem over_cells {a : Option Addr} {cap : Nat} {cs : List Cl} (h : CellsAt w a cap cs) {i : Int} {f : Bool} {j : Int} {x : Option Addr} {y z : Nat} (hb : w.heap[b]? = some (.cells #[.int .i64 i, .bool f, .int .i64 j, .slice x y z] t (0, 0))) (v0 v1 v2 v3 : Value) :
    CellsAt ((((w.setCell ⟨b, 0, none⟩ v0).setCell ⟨b, 1, none⟩ v1).setCell ⟨b, 2, none⟩ v2).setCell ⟨b, 3, none⟩ v3) a cap cs := by
  by_cases hn : cs = []
  · exact ⟨h.1, h.2.1, .inl hn⟩
  have hfar : ∀ x, a = some x → b ≠ x.block := by
    rcases h.2.2 with h0 | ⟨b', off, ha, hc⟩
    · exact absurd h0 hn
    intro y hy he
    rw [ha] at hy
    cases hy
    have hb' : b = b' := he
    subst hb'
    obtain ⟨c, cs', rfl⟩ : ∃ c cs', cs = c :: cs' := by cases cs with
      | nil => exact absurd rfl hn
      | cons c cs' => exact ⟨c, cs', rfl⟩
    have h2 := (hc 0 c rfl).2.2.1
    simp [World.cell?, hb] at h2
    match off, h2 with
    | 0, h2 => simp at h2
    | 1, h2 => simp at h2
    | n + 2, h2 => simp at h2
  exact CellsAt.far (CellsAt.far (CellsAt.far (CellsAt.far h (p := ⟨b, 0, none⟩) hfar _) (p := ⟨b, 1, none⟩) hfar _) (p := ⟨b, 2, none⟩) hfar _) (p := ⟨b, 3, none⟩) hfar _
end
theorem hid_mk {p : Prop} (h : p) : Hid p := h
set_option maxHeartbeats 16000000 in
theorem chainKeeps_walk (c : Ch) (a : Option Addr) (cap : Nat) (ep p q to : Int) (s m : ByteArray) (w : World) (hc : CellsAt w a cap c.cells) (hs : s.size ≤ 9223372036854775807) (hm : m.size ≤ 9223372036854775807) :
    Calls Try.prog 8 #[c.val a cap, .int .i64 ep, .int .i64 p, .int .i64 q, .int .i64 to, .string s, .string m] w fun e w' => e = .returned (.bool true) ∧ Grow w w' := by
  have HC : Hid (CellsAt w a cap c.cells) := hc
  clear hc
  have HS : Hid (s.size ≤ 9223372036854775807) := hs
  have HM : Hid (m.size ≤ 9223372036854775807) := hm
  clear hs hm
  have g0 : Grow w (w.alloc (Obj.cells #[.int .i64 c.epoch, .bool c.sealed, .int .i64 c.cut, .slice a c.cells.length cap] 42)) := (Grow.refl w).alloc _
  have qb := heap_alloc_new w (Obj.cells #[.int .i64 c.epoch, .bool c.sealed, .int .i64 c.cut, .slice a c.cells.length cap] 42)
  unfold Ch.val
  go_enter Try.func8, Try.ntmps8
  go_wp2_with fail
  refine (chainBegun_any _).mono ?_
  rintro e w1 ⟨rfl, g1⟩
  replace qb := grow_block g1 qb
  have G := g0.trans g1
  clear g0 g1
  have q0 := cell_of_block (o := 0) qb rfl; simp at q0
  have q1 := cell_of_block (o := 1) qb rfl; simp at q1
  have q2 := cell_of_block (o := 2) qb rfl; simp at q2
  have q3 := cell_of_block (o := 3) qb rfl; simp at q3
  go_wp2_with fail
  clear q0 q1 q2 q3
  refine (cwrite_any c a cap ep p s _ (HC.out.grow G) HS.out).mono ?_
  generalize hr : c.write ep p (textCl s) Cl.empty = r
  obtain ⟨d, er⟩ := r
  have HR : Hid (c.write ep p (textCl s) Cl.empty = (d, er)) := hr
  clear hr
  rintro e w2 ⟨a2, cap2, rfl, g2, C2⟩
  replace qb := grow_block g2 qb
  replace G := G.trans g2
  clear g2
  unfold Ch.val
  simp only at C2 ⊢
  have gx : Grow w2 (w2.alloc (Obj.cells #[.int .i64 d.epoch, .bool d.sealed, .int .i64 d.cut, .slice a2 d.cells.length cap2] 42)) := (Grow.refl _).alloc _
  have pb := heap_alloc_new w2 (Obj.cells #[.int .i64 d.epoch, .bool d.sealed, .int .i64 d.cut, .slice a2 d.cells.length cap2] 42)
  replace qb := grow_block gx qb
  have CD : CellsAt _ a2 cap2 d.cells := C2.grow gx
  clear C2
  replace G := G.trans gx
  clear gx
  have CD : Hid (CellsAt (w2.alloc (Obj.cells #[.int .i64 d.epoch, .bool d.sealed, .int .i64 d.cut, .slice a2 d.cells.length cap2] 42)) a2 cap2 d.cells) := CD
  by_cases her : er = 0
  case neg =>
    have hd := write_bad HR.out her
    subst hd
    have her' : decide (er = 0) = false := by simpa using her
    simp only [zeroCh, List.length_nil] at pb ⊢
    have p0 := cell_of_block (o := 0) pb rfl; simp at p0
    have p1 := cell_of_block (o := 1) pb rfl; simp at p1
    have p2 := cell_of_block (o := 2) pb rfl; simp at p2
    have p3 := cell_of_block (o := 3) pb rfl; simp at p3
    go_wp2
    go_ret
    exact ⟨rfl, G⟩
  subst her
  have HF : Hid (d.err = 0 ∧ d.read p = (s, 0)) := write_read HR.out
  have p0 := cell_of_block (o := 0) pb rfl; simp at p0
  have p1 := cell_of_block (o := 1) pb rfl; simp at p1
  have p2 := cell_of_block (o := 2) pb rfl; simp at p2
  have p3 := cell_of_block (o := 3) pb rfl; simp at p3
  go_wp2_with fail
  clear p0 p1 p2 p3
  generalize (w2.alloc (Obj.cells #[.int .i64 d.epoch, .bool d.sealed, .int .i64 d.cut, .slice a2 d.cells.length cap2] 42)) = W at *
  refine (read_any d a2 cap2 p _ CD.out).mono ?_
  rw [HF.out.2]
  rintro e w3 ⟨rfl, g⟩
  replace qb := grow_block g qb
  replace pb := grow_block g pb
  replace CD := hid_mk (CD.out.grow g)
  replace G := G.trans g
  clear g
  have p0 := cell_of_block (o := 0) pb rfl; simp at p0
  have p1 := cell_of_block (o := 1) pb rfl; simp at p1
  have p2 := cell_of_block (o := 2) pb rfl; simp at p2
  have p3 := cell_of_block (o := 3) pb rfl; simp at p3
  go_wp2_with fail
  clear p0 p1 p2 p3
  refine (check_any d a2 cap2 _ CD.out).mono ?_
  rw [HF.out.1]
  rintro e w4 ⟨rfl, g⟩
  replace qb := grow_block g qb
  replace pb := grow_block g pb
  replace CD := hid_mk (CD.out.grow g)
  replace G := G.trans g
  clear g
  by_cases hqp : q = p
  case' neg =>
    have hqp' : decide (q = p) = false := by simpa using hqp
    have q0 := cell_of_block (o := 0) qb rfl; simp at q0
    have q1 := cell_of_block (o := 1) qb rfl; simp at q1
    have q2 := cell_of_block (o := 2) qb rfl; simp at q2
    have q3 := cell_of_block (o := 3) qb rfl; simp at q3
    go_wp2_with fail
    clear q0 q1 q2 q3
    refine (read_any c a cap q _ (HC.out.grow G)).mono ?_
    have HX : Hid (d.read q = c.read q) := write_other HR.out HF.out.1 hqp
    generalize c.read q = r at HX ⊢
    rintro e w5 ⟨rfl, g⟩
    replace qb := grow_block g qb
    replace pb := grow_block g pb
    replace CD := hid_mk (CD.out.grow g)
    replace G := G.trans g
    clear g
    have p0 := cell_of_block (o := 0) pb rfl; simp at p0
    have p1 := cell_of_block (o := 1) pb rfl; simp at p1
    have p2 := cell_of_block (o := 2) pb rfl; simp at p2
    have p3 := cell_of_block (o := 3) pb rfl; simp at p3
    go_wp2_with fail
    clear p0 p1 p2 p3
    refine (read_any d a2 cap2 q _ CD.out).mono ?_
    rw [HX.out]
    rintro e w6 ⟨rfl, g⟩
    replace qb := grow_block g qb
    replace pb := grow_block g pb
    replace CD := hid_mk (CD.out.grow g)
    replace G := G.trans g
    clear g
    have p0 := cell_of_block (o := 0) pb rfl; simp at p0
    have p1 := cell_of_block (o := 1) pb rfl; simp at p1
    have p2 := cell_of_block (o := 2) pb rfl; simp at p2
    have p3 := cell_of_block (o := 3) pb rfl; simp at p3
    go_wp2_with fail
    clear p0 p1 p2 p3
    clear HX
  case' pos =>
    have hqp' : (q == p) = true := by simpa using hqp
    have hqp2 : (q != p) = false := by simpa using hqp
    have HQ : Hid (q = p) := hqp
    clear hqp
    have p0 := cell_of_block (o := 0) pb rfl; simp at p0
    have p1 := cell_of_block (o := 1) pb rfl; simp at p1
    have p2 := cell_of_block (o := 2) pb rfl; simp at p2
    have p3 := cell_of_block (o := 3) pb rfl; simp at p3
    go_wp2_with fail
    clear p0 p1 p2 p3
  all_goals
    clear qb
    refine (cwrite_any d a2 cap2 ep q m _ CD.out HM.out).mono ?_
    generalize hr : d.write ep q (textCl m) Cl.empty = r
    obtain ⟨f, er⟩ := r
    have HW : Hid (d.write ep q (textCl m) Cl.empty = (f, er)) := hr
    clear hr
    rintro e w7 ⟨a3, cap3, rfl, g, C3⟩
    replace pb := grow_block g pb
    replace CD := hid_mk (CD.out.grow g)
    replace G := G.trans g
    clear g
    unfold Ch.val
    simp only at C3 ⊢
    have g : Grow w7 (w7.alloc (Obj.cells #[.int .i64 f.epoch, .bool f.sealed, .int .i64 f.cut, .slice a3 f.cells.length cap3] 42)) := (Grow.refl _).alloc _
    have nb := heap_alloc_new w7 (Obj.cells #[.int .i64 f.epoch, .bool f.sealed, .int .i64 f.cut, .slice a3 f.cells.length cap3] 42)
    have HB7 : Hid (w.heap.size ≤ w7.heap.size) := G.size
    have HNE : Hid (w2.heap.size ≠ w7.heap.size) := by show _ ≠ _; have := lt_of_block pb; omega
    have CN := hid_mk (C3.grow g)
    clear C3
    replace pb := grow_block g pb
    replace CD := hid_mk (CD.out.grow g)
    replace G := G.trans g
    clear g
    by_cases her : er = 0
    case' pos =>
      subst her
      have HB : Hid (f.err = 0 ∧ f.epoch = ep ∧ f.sealed = false ∧ f.read p = (s, 0)) := write_keeps HW.out HF.out.2 text_err rfl empty_there
      have n0 := cell_of_block (o := 0) nb rfl; simp at n0
      have n1 := cell_of_block (o := 1) nb rfl; simp at n1
      have n2 := cell_of_block (o := 2) nb rfl; simp at n2
      have n3 := cell_of_block (o := 3) nb rfl; simp at n3
      go_wp2_with fail
      clear n0 n1 n2 n3
      generalize (w7.alloc (Obj.cells #[.int .i64 f.epoch, .bool f.sealed, .int .i64 f.cut, .slice a3 f.cells.length cap3] 42)) = W7 at *
      have hse : f.seal ep = (⟨ep, true, f.cut, f.cells⟩, 0) := by
        have := seal_fine HB.out.1
        rw [HB.out.2.1] at this
        exact this
      refine (seal_any f a3 cap3 ep _ CN.out).mono ?_
      rw [hse]
      clear hse CD pb HNE
      rintro e w9 ⟨a6, cap6, rfl, g, C6⟩
      replace nb := grow_block g nb
      replace G := G.trans g
      clear g CN
      unfold Ch.val
      simp only at C6 ⊢
      have n0 := cell_of_block (o := 0) nb rfl; simp at n0
      have n1 := cell_of_block (o := 1) nb rfl; simp at n1
      have n2 := cell_of_block (o := 2) nb rfl; simp at n2
      have n3 := cell_of_block (o := 3) nb rfl; simp at n3
      have k0 := free_of_block nb 0
      have k1 := free_of_block nb 1
      have k2 := free_of_block nb 2
      have k3 := free_of_block nb 3
      go_wp2_with fail
      clear n0 n1 n2 n3 k0 k1 k2 k3
      replace C6 := over_cells C6 nb (.int .i64 ep) (.bool true) (.int .i64 f.cut) (.slice a6 f.cells.length cap6)
      replace nb := over_block nb (.int .i64 ep) (.bool true) (.int .i64 f.cut) (.slice a6 f.cells.length cap6)
      replace G := over_grow G HB7.out (.int .i64 ep) (.bool true) (.int .i64 f.cut) (.slice a6 f.cells.length cap6)
      generalize ((((w9.setCell ⟨w7.heap.size, 0, none⟩ (.int .i64 ep)).setCell ⟨w7.heap.size, 1, none⟩ (.bool true)).setCell ⟨w7.heap.size, 2, none⟩ (.int .i64 f.cut)).setCell ⟨w7.heap.size, 3, none⟩ (.slice a6 f.cells.length cap6)) = W9 at *
      have n0 := cell_of_block (o := 0) nb rfl; simp at n0
      have n1 := cell_of_block (o := 1) nb rfl; simp at n1
      have n2 := cell_of_block (o := 2) nb rfl; simp at n2
      have n3 := cell_of_block (o := 3) nb rfl; simp at n3
      go_wp2_with fail
      clear n0 n1 n2 n3
      refine (open_any (⟨ep, true, f.cut, f.cells⟩ : Ch) a6 cap6 _ C6).mono ?_
      by_cases h99 : ep = 99
      case pos =>
        have hop : (⟨ep, true, f.cut, f.cells⟩ : Ch).open = (zeroCh, 2) := by have := open_many HB.out.1 (by rw [HB.out.2.1]; exact h99); rw [HB.out.2.1] at this; exact this
        rw [hop]
        rintro e w10 ⟨a7, cap7, rfl, g, -⟩
        replace nb := grow_block g nb
        replace G := G.trans g
        clear g C6
        unfold Ch.val
        simp only [zeroCh, List.length_nil]
        have n0 := cell_of_block (o := 0) nb rfl; simp at n0
        have n1 := cell_of_block (o := 1) nb rfl; simp at n1
        have n2 := cell_of_block (o := 2) nb rfl; simp at n2
        have n3 := cell_of_block (o := 3) nb rfl; simp at n3
        have k0 := free_of_block nb 0
        have k1 := free_of_block nb 1
        have k2 := free_of_block nb 2
        have k3 := free_of_block nb 3
        go_wp2_with fail
        replace G := over_grow G HB7.out (.int .i64 0) (.bool false) (.int .i64 0) (.slice a7 0 cap7)
        go_wp2
        go_ret
        exact ⟨rfl, G⟩
      have hop : (⟨ep, true, f.cut, f.cells⟩ : Ch).open = ((⟨ep + 1, false, f.cut, f.cells⟩ : Ch), 0) := by have := open_fine HB.out.1 (by rw [HB.out.2.1]; exact h99); rw [HB.out.2.1] at this; exact this
      have HE : Hid ((⟨ep + 1, false, f.cut, f.cells⟩ : Ch).err = 0) := by have := opened_err HB.out.1 (by rw [HB.out.2.1]; exact h99); rw [HB.out.2.1] at this; exact this
      have HK : Hid (∀ D, (⟨ep + 1, false, f.cut, f.cells⟩ : Ch).trim to = (D, 0) → D.read p = if p < to then (⟨#[]⟩, 4) else (s, 0)) := by intro D hD; refine keeps_cut (b := f) HB.out.2.2.2 (by rw [HB.out.2.1]; exact h99) ?_; rw [HB.out.2.1]; exact hD
      rw [hop]
      clear hop h99 HB
      rintro e w10 ⟨a7, cap7, rfl, g, C7⟩
      replace nb := grow_block g nb
      replace G := G.trans g
      clear g C6
      unfold Ch.val
      simp only at C7 ⊢
      have n0 := cell_of_block (o := 0) nb rfl; simp at n0
      have n1 := cell_of_block (o := 1) nb rfl; simp at n1
      have n2 := cell_of_block (o := 2) nb rfl; simp at n2
      have n3 := cell_of_block (o := 3) nb rfl; simp at n3
      have k0 := free_of_block nb 0
      have k1 := free_of_block nb 1
      have k2 := free_of_block nb 2
      have k3 := free_of_block nb 3
      go_wp2_with fail
      clear n0 n1 n2 n3 k0 k1 k2 k3
      replace C7 := over_cells C7 nb (.int .i64 (ep + 1)) (.bool false) (.int .i64 f.cut) (.slice a7 f.cells.length cap7)
      replace nb := over_block nb (.int .i64 (ep + 1)) (.bool false) (.int .i64 f.cut) (.slice a7 f.cells.length cap7)
      replace G := over_grow G HB7.out (.int .i64 (ep + 1)) (.bool false) (.int .i64 f.cut) (.slice a7 f.cells.length cap7)
      generalize ((((w10.setCell ⟨w7.heap.size, 0, none⟩ (.int .i64 (ep + 1))).setCell ⟨w7.heap.size, 1, none⟩ (.bool false)).setCell ⟨w7.heap.size, 2, none⟩ (.int .i64 f.cut)).setCell ⟨w7.heap.size, 3, none⟩ (.slice a7 f.cells.length cap7)) = W10 at *
      have n0 := cell_of_block (o := 0) nb rfl; simp at n0
      have n1 := cell_of_block (o := 1) nb rfl; simp at n1
      have n2 := cell_of_block (o := 2) nb rfl; simp at n2
      have n3 := cell_of_block (o := 3) nb rfl; simp at n3
      go_wp2_with fail
      clear n0 n1 n2 n3
      clear nb
      refine (trim_any (⟨ep + 1, false, f.cut, f.cells⟩ : Ch) a7 cap7 to _ C7).mono ?_
      by_cases hto : to < 0 ∨ 30 < to
      case pos =>
        rw [trim_bad HE.out hto]
        rintro e w11 ⟨a8, cap8, rfl, g, -⟩
        replace G := G.trans g
        clear g C7
        unfold Ch.val
        simp only [zeroCh, List.length_nil]
        rcases hto with hto | hto
        · have hto' : decide (to < 0) = true := by simpa using hto
          go_wp2
          go_ret
          exact ⟨rfl, G.alloc _⟩
        · have hto' : decide (to < 0) = false := by simp; omega
          have hto2 : decide (30 < to) = true := by simpa using hto
          go_wp2
          go_ret
          exact ⟨rfl, G.alloc _⟩
      obtain ⟨D, hD⟩ : ∃ D, (⟨ep + 1, false, f.cut, f.cells⟩ : Ch).trim to = (D, 0) := ⟨_, trim_fine HE.out hto⟩
      have hk := HK.out D hD
      rw [hD]
      clear hD HK HE hto
      have HK : Hid (D.read p = if p < to then (⟨#[]⟩, 4) else (s, 0)) := hk
      clear hk
      rintro e w11 ⟨a8, cap8, rfl, g, C8⟩
      replace G := G.trans g
      clear g C7
      unfold Ch.val
      simp only at C8 ⊢
      have g : Grow w11 (w11.alloc (Obj.cells #[.int .i64 D.epoch, .bool D.sealed, .int .i64 D.cut, .slice a8 D.cells.length cap8] 42)) := (Grow.refl _).alloc _
      have nb := heap_alloc_new w11 (Obj.cells #[.int .i64 D.epoch, .bool D.sealed, .int .i64 D.cut, .slice a8 D.cells.length cap8] 42)
      have CN := hid_mk (C8.grow g)
      replace G := G.trans g
      clear g C8
      have n0 := cell_of_block (o := 0) nb rfl; simp at n0
      have n1 := cell_of_block (o := 1) nb rfl; simp at n1
      have n2 := cell_of_block (o := 2) nb rfl; simp at n2
      have n3 := cell_of_block (o := 3) nb rfl; simp at n3
      go_wp2_with fail
      clear n0 n1 n2 n3
      generalize (w11.alloc (Obj.cells #[.int .i64 D.epoch, .bool D.sealed, .int .i64 D.cut, .slice a8 D.cells.length cap8] 42)) = W11 at *
      refine (read_any D a8 cap8 p _ CN.out).mono ?_
      rw [HK.out]
      clear HK CN nb
      by_cases hpt : p < to
      case pos =>
        have hpt' : decide (p < to) = true := by simpa using hpt
        rw [if_pos hpt]
        rintro e w12 ⟨rfl, g⟩
        replace G := G.trans g
        clear g
        go_wp2
        go_ret
        exact ⟨rfl, G⟩
      have hpt' : decide (p < to) = false := by simpa using hpt
      rw [if_neg hpt]
      rintro e w12 ⟨rfl, g⟩
      replace G := G.trans g
      clear g
      go_wp2
      go_ret
      exact ⟨rfl, G⟩
    case' neg =>
      have her' : decide (er = 0) = false := by simpa using her
      have hf := write_bad HW.out her
      subst hf
      clear CN
      simp only [zeroCh, List.length_nil] at nb ⊢
      simp only [zeroCh, List.length_nil] at G CD pb
      have p0 := cell_of_block (o := 0) pb rfl; simp at p0
      have p1 := cell_of_block (o := 1) pb rfl; simp at p1
      have p2 := cell_of_block (o := 2) pb rfl; simp at p2
      have p3 := cell_of_block (o := 3) pb rfl; simp at p3
      go_wp2_with fail
      clear p0 p1 p2 p3
      generalize (w7.alloc (Obj.cells #[.int .i64 0, .bool false, .int .i64 0, .slice a3 0 cap3] 42)) = W7 at *
      refine (cfill_any d a2 cap2 ep q _ CD.out).mono ?_
      generalize hr : d.write ep q junkCl notThere = r
      obtain ⟨f, e2⟩ := r
      have HV : Hid (d.write ep q junkCl notThere = (f, e2)) := hr
      clear hr
      rintro e w8 ⟨a4, cap4, rfl, g, C4⟩
      replace pb := grow_block g pb
      replace nb := grow_block g nb
      replace CD := hid_mk (CD.out.grow g)
      replace G := G.trans g
      clear g
      unfold Ch.val
      simp only at C4 ⊢
      have n0 := cell_of_block (o := 0) nb rfl; simp at n0
      have n1 := cell_of_block (o := 1) nb rfl; simp at n1
      have n2 := cell_of_block (o := 2) nb rfl; simp at n2
      have n3 := cell_of_block (o := 3) nb rfl; simp at n3
      have k0 := free_of_block nb 0
      have k1 := free_of_block nb 1
      have k2 := free_of_block nb 2
      have k3 := free_of_block nb 3
      by_cases he2 : e2 = 0
      case pos =>
        subst he2
        go_wp2_with fail
        clear n0 n1 n2 n3 k0 k1 k2 k3
        replace C4 := over_cells C4 nb (.int .i64 f.epoch) (.bool f.sealed) (.int .i64 f.cut) (.slice a4 f.cells.length cap4)
        replace CD := hid_mk (over_cells CD.out nb (.int .i64 f.epoch) (.bool f.sealed) (.int .i64 f.cut) (.slice a4 f.cells.length cap4))
        replace nb := over_block nb (.int .i64 f.epoch) (.bool f.sealed) (.int .i64 f.cut) (.slice a4 f.cells.length cap4)
        replace G := over_grow G HB7.out (.int .i64 f.epoch) (.bool f.sealed) (.int .i64 f.cut) (.slice a4 f.cells.length cap4)
        replace pb := over_far pb HNE.out (.int .i64 f.epoch) (.bool f.sealed) (.int .i64 f.cut) (.slice a4 f.cells.length cap4)
        generalize ((((w8.setCell ⟨w7.heap.size, 0, none⟩ (.int .i64 f.epoch)).setCell ⟨w7.heap.size, 1, none⟩ (.bool f.sealed)).setCell ⟨w7.heap.size, 2, none⟩ (.int .i64 f.cut)).setCell ⟨w7.heap.size, 3, none⟩ (.slice a4 f.cells.length cap4)) = W8 at *
        have HB : Hid (f.err = 0 ∧ f.epoch = ep ∧ f.sealed = false ∧ f.read p = (s, 0)) := write_keeps HV.out HF.out.2 (fun _ => junk_err) rfl notThere_there
        have CN := hid_mk C4
        clear C4
        have n0 := cell_of_block (o := 0) nb rfl; simp at n0
        have n1 := cell_of_block (o := 1) nb rfl; simp at n1
        have n2 := cell_of_block (o := 2) nb rfl; simp at n2
        have n3 := cell_of_block (o := 3) nb rfl; simp at n3
        go_wp2_with fail
        clear n0 n1 n2 n3
        have hse : f.seal ep = (⟨ep, true, f.cut, f.cells⟩, 0) := by
          have := seal_fine HB.out.1
          rw [HB.out.2.1] at this
          exact this
        refine (seal_any f a4 cap4 ep _ CN.out).mono ?_
        rw [hse]
        clear hse CD pb HNE
        rintro e w9 ⟨a6, cap6, rfl, g, C6⟩
        replace nb := grow_block g nb
        replace G := G.trans g
        clear g CN
        unfold Ch.val
        simp only at C6 ⊢
        have n0 := cell_of_block (o := 0) nb rfl; simp at n0
        have n1 := cell_of_block (o := 1) nb rfl; simp at n1
        have n2 := cell_of_block (o := 2) nb rfl; simp at n2
        have n3 := cell_of_block (o := 3) nb rfl; simp at n3
        have k0 := free_of_block nb 0
        have k1 := free_of_block nb 1
        have k2 := free_of_block nb 2
        have k3 := free_of_block nb 3
        go_wp2_with fail
        clear n0 n1 n2 n3 k0 k1 k2 k3
        replace C6 := over_cells C6 nb (.int .i64 ep) (.bool true) (.int .i64 f.cut) (.slice a6 f.cells.length cap6)
        replace nb := over_block nb (.int .i64 ep) (.bool true) (.int .i64 f.cut) (.slice a6 f.cells.length cap6)
        replace G := over_grow G HB7.out (.int .i64 ep) (.bool true) (.int .i64 f.cut) (.slice a6 f.cells.length cap6)
        generalize ((((w9.setCell ⟨w7.heap.size, 0, none⟩ (.int .i64 ep)).setCell ⟨w7.heap.size, 1, none⟩ (.bool true)).setCell ⟨w7.heap.size, 2, none⟩ (.int .i64 f.cut)).setCell ⟨w7.heap.size, 3, none⟩ (.slice a6 f.cells.length cap6)) = W9 at *
        have n0 := cell_of_block (o := 0) nb rfl; simp at n0
        have n1 := cell_of_block (o := 1) nb rfl; simp at n1
        have n2 := cell_of_block (o := 2) nb rfl; simp at n2
        have n3 := cell_of_block (o := 3) nb rfl; simp at n3
        go_wp2_with fail
        clear n0 n1 n2 n3
        refine (open_any (⟨ep, true, f.cut, f.cells⟩ : Ch) a6 cap6 _ C6).mono ?_
        by_cases h99 : ep = 99
        case pos =>
          have hop : (⟨ep, true, f.cut, f.cells⟩ : Ch).open = (zeroCh, 2) := by have := open_many HB.out.1 (by rw [HB.out.2.1]; exact h99); rw [HB.out.2.1] at this; exact this
          rw [hop]
          rintro e w10 ⟨a7, cap7, rfl, g, -⟩
          replace nb := grow_block g nb
          replace G := G.trans g
          clear g C6
          unfold Ch.val
          simp only [zeroCh, List.length_nil]
          have n0 := cell_of_block (o := 0) nb rfl; simp at n0
          have n1 := cell_of_block (o := 1) nb rfl; simp at n1
          have n2 := cell_of_block (o := 2) nb rfl; simp at n2
          have n3 := cell_of_block (o := 3) nb rfl; simp at n3
          have k0 := free_of_block nb 0
          have k1 := free_of_block nb 1
          have k2 := free_of_block nb 2
          have k3 := free_of_block nb 3
          go_wp2_with fail
          replace G := over_grow G HB7.out (.int .i64 0) (.bool false) (.int .i64 0) (.slice a7 0 cap7)
          go_wp2
          go_ret
          exact ⟨rfl, G⟩
        have hop : (⟨ep, true, f.cut, f.cells⟩ : Ch).open = ((⟨ep + 1, false, f.cut, f.cells⟩ : Ch), 0) := by have := open_fine HB.out.1 (by rw [HB.out.2.1]; exact h99); rw [HB.out.2.1] at this; exact this
        have HE : Hid ((⟨ep + 1, false, f.cut, f.cells⟩ : Ch).err = 0) := by have := opened_err HB.out.1 (by rw [HB.out.2.1]; exact h99); rw [HB.out.2.1] at this; exact this
        have HK : Hid (∀ D, (⟨ep + 1, false, f.cut, f.cells⟩ : Ch).trim to = (D, 0) → D.read p = if p < to then (⟨#[]⟩, 4) else (s, 0)) := by intro D hD; refine keeps_cut (b := f) HB.out.2.2.2 (by rw [HB.out.2.1]; exact h99) ?_; rw [HB.out.2.1]; exact hD
        rw [hop]
        clear hop h99 HB
        rintro e w10 ⟨a7, cap7, rfl, g, C7⟩
        replace nb := grow_block g nb
        replace G := G.trans g
        clear g C6
        unfold Ch.val
        simp only at C7 ⊢
        have n0 := cell_of_block (o := 0) nb rfl; simp at n0
        have n1 := cell_of_block (o := 1) nb rfl; simp at n1
        have n2 := cell_of_block (o := 2) nb rfl; simp at n2
        have n3 := cell_of_block (o := 3) nb rfl; simp at n3
        have k0 := free_of_block nb 0
        have k1 := free_of_block nb 1
        have k2 := free_of_block nb 2
        have k3 := free_of_block nb 3
        go_wp2_with fail
        clear n0 n1 n2 n3 k0 k1 k2 k3
        replace C7 := over_cells C7 nb (.int .i64 (ep + 1)) (.bool false) (.int .i64 f.cut) (.slice a7 f.cells.length cap7)
        replace nb := over_block nb (.int .i64 (ep + 1)) (.bool false) (.int .i64 f.cut) (.slice a7 f.cells.length cap7)
        replace G := over_grow G HB7.out (.int .i64 (ep + 1)) (.bool false) (.int .i64 f.cut) (.slice a7 f.cells.length cap7)
        generalize ((((w10.setCell ⟨w7.heap.size, 0, none⟩ (.int .i64 (ep + 1))).setCell ⟨w7.heap.size, 1, none⟩ (.bool false)).setCell ⟨w7.heap.size, 2, none⟩ (.int .i64 f.cut)).setCell ⟨w7.heap.size, 3, none⟩ (.slice a7 f.cells.length cap7)) = W10 at *
        have n0 := cell_of_block (o := 0) nb rfl; simp at n0
        have n1 := cell_of_block (o := 1) nb rfl; simp at n1
        have n2 := cell_of_block (o := 2) nb rfl; simp at n2
        have n3 := cell_of_block (o := 3) nb rfl; simp at n3
        go_wp2_with fail
        clear n0 n1 n2 n3
        clear nb
        refine (trim_any (⟨ep + 1, false, f.cut, f.cells⟩ : Ch) a7 cap7 to _ C7).mono ?_
        by_cases hto : to < 0 ∨ 30 < to
        case pos =>
          rw [trim_bad HE.out hto]
          rintro e w11 ⟨a8, cap8, rfl, g, -⟩
          replace G := G.trans g
          clear g C7
          unfold Ch.val
          simp only [zeroCh, List.length_nil]
          rcases hto with hto | hto
          · have hto' : decide (to < 0) = true := by simpa using hto
            go_wp2
            go_ret
            exact ⟨rfl, G.alloc _⟩
          · have hto' : decide (to < 0) = false := by simp; omega
            have hto2 : decide (30 < to) = true := by simpa using hto
            go_wp2
            go_ret
            exact ⟨rfl, G.alloc _⟩
        obtain ⟨D, hD⟩ : ∃ D, (⟨ep + 1, false, f.cut, f.cells⟩ : Ch).trim to = (D, 0) := ⟨_, trim_fine HE.out hto⟩
        have hk := HK.out D hD
        rw [hD]
        clear hD HK HE hto
        have HK : Hid (D.read p = if p < to then (⟨#[]⟩, 4) else (s, 0)) := hk
        clear hk
        rintro e w11 ⟨a8, cap8, rfl, g, C8⟩
        replace G := G.trans g
        clear g C7
        unfold Ch.val
        simp only at C8 ⊢
        have g : Grow w11 (w11.alloc (Obj.cells #[.int .i64 D.epoch, .bool D.sealed, .int .i64 D.cut, .slice a8 D.cells.length cap8] 42)) := (Grow.refl _).alloc _
        have nb := heap_alloc_new w11 (Obj.cells #[.int .i64 D.epoch, .bool D.sealed, .int .i64 D.cut, .slice a8 D.cells.length cap8] 42)
        have CN := hid_mk (C8.grow g)
        replace G := G.trans g
        clear g C8
        have n0 := cell_of_block (o := 0) nb rfl; simp at n0
        have n1 := cell_of_block (o := 1) nb rfl; simp at n1
        have n2 := cell_of_block (o := 2) nb rfl; simp at n2
        have n3 := cell_of_block (o := 3) nb rfl; simp at n3
        go_wp2_with fail
        clear n0 n1 n2 n3
        generalize (w11.alloc (Obj.cells #[.int .i64 D.epoch, .bool D.sealed, .int .i64 D.cut, .slice a8 D.cells.length cap8] 42)) = W11 at *
        refine (read_any D a8 cap8 p _ CN.out).mono ?_
        rw [HK.out]
        clear HK CN nb
        by_cases hpt : p < to
        case pos =>
          have hpt' : decide (p < to) = true := by simpa using hpt
          rw [if_pos hpt]
          rintro e w12 ⟨rfl, g⟩
          replace G := G.trans g
          clear g
          go_wp2
          go_ret
          exact ⟨rfl, G⟩
        have hpt' : decide (p < to) = false := by simpa using hpt
        rw [if_neg hpt]
        rintro e w12 ⟨rfl, g⟩
        replace G := G.trans g
        clear g
        go_wp2
        go_ret
        exact ⟨rfl, G⟩
      case neg =>
        have he2' : decide (e2 = 0) = false := by simpa using he2
        have hf := write_bad HV.out he2
        subst hf
        simp only [zeroCh, List.length_nil] at C4 ⊢
        iterate 14 (first | go_skip | go_guarded | go_step | go_upon)
        clear n0 n1 n2 n3 k0 k1 k2 k3
        replace CD := hid_mk (over_cells CD.out nb (.int .i64 0) (.bool false) (.int .i64 0) (.slice a4 0 cap4))
        replace nb := over_block nb (.int .i64 0) (.bool false) (.int .i64 0) (.slice a4 0 cap4)
        replace G := over_grow G HB7.out (.int .i64 0) (.bool false) (.int .i64 0) (.slice a4 0 cap4)
        replace pb := over_far pb HNE.out (.int .i64 0) (.bool false) (.int .i64 0) (.slice a4 0 cap4)
        clear C4
        generalize ((((w8.setCell ⟨w7.heap.size, 0, none⟩ (.int .i64 0)).setCell ⟨w7.heap.size, 1, none⟩ (.bool false)).setCell ⟨w7.heap.size, 2, none⟩ (.int .i64 0)).setCell ⟨w7.heap.size, 3, none⟩ (.slice a4 0 cap4)) = W8 at *
        have p0 := cell_of_block (o := 0) pb rfl; simp at p0
        have p1 := cell_of_block (o := 1) pb rfl; simp at p1
        have p2 := cell_of_block (o := 2) pb rfl; simp at p2
        have p3 := cell_of_block (o := 3) pb rfl; simp at p3
        have n0 := cell_of_block (o := 0) nb rfl; simp at n0
        have n1 := cell_of_block (o := 1) nb rfl; simp at n1
        have n2 := cell_of_block (o := 2) nb rfl; simp at n2
        have n3 := cell_of_block (o := 3) nb rfl; simp at n3
        have k0 := free_of_block nb 0
        have k1 := free_of_block nb 1
        have k2 := free_of_block nb 2
        have k3 := free_of_block nb 3
        go_wp2_with fail
        clear p0 p1 p2 p3 n0 n1 n2 n3 k0 k1 k2 k3
        have CN := hid_mk (over_cells CD.out nb (.int .i64 d.epoch) (.bool d.sealed) (.int .i64 d.cut) (.slice a2 d.cells.length cap2))
        replace CD := hid_mk (over_cells CD.out nb (.int .i64 d.epoch) (.bool d.sealed) (.int .i64 d.cut) (.slice a2 d.cells.length cap2))
        replace nb := over_block nb (.int .i64 d.epoch) (.bool d.sealed) (.int .i64 d.cut) (.slice a2 d.cells.length cap2)
        replace G := over_grow G HB7.out (.int .i64 d.epoch) (.bool d.sealed) (.int .i64 d.cut) (.slice a2 d.cells.length cap2)
        replace pb := over_far pb HNE.out (.int .i64 d.epoch) (.bool d.sealed) (.int .i64 d.cut) (.slice a2 d.cells.length cap2)
        generalize ((((W8.setCell ⟨w7.heap.size, 0, none⟩ (.int .i64 d.epoch)).setCell ⟨w7.heap.size, 1, none⟩ (.bool d.sealed)).setCell ⟨w7.heap.size, 2, none⟩ (.int .i64 d.cut)).setCell ⟨w7.heap.size, 3, none⟩ (.slice a2 d.cells.length cap2)) = W8b at *
        have HB : Hid (d.err = 0 ∧ d.epoch = ep ∧ d.sealed = false ∧ d.read p = (s, 0)) := by obtain ⟨_, _, _, rfl, e5, i, _, _, hd⟩ := write_ok HR.out; exact ⟨HF.out.1, by rw [hd], by rw [hd]; exact e5, HF.out.2⟩
        have n0 := cell_of_block (o := 0) nb rfl; simp at n0
        have n1 := cell_of_block (o := 1) nb rfl; simp at n1
        have n2 := cell_of_block (o := 2) nb rfl; simp at n2
        have n3 := cell_of_block (o := 3) nb rfl; simp at n3
        go_wp2_with fail
        clear n0 n1 n2 n3
        have hse : d.seal ep = (⟨ep, true, d.cut, d.cells⟩, 0) := by
          have := seal_fine HB.out.1
          rw [HB.out.2.1] at this
          exact this
        refine (seal_any d a2 cap2 ep _ CN.out).mono ?_
        rw [hse]
        clear hse CD pb HNE
        rintro e w9 ⟨a6, cap6, rfl, g, C6⟩
        replace nb := grow_block g nb
        replace G := G.trans g
        clear g CN
        unfold Ch.val
        simp only at C6 ⊢
        have n0 := cell_of_block (o := 0) nb rfl; simp at n0
        have n1 := cell_of_block (o := 1) nb rfl; simp at n1
        have n2 := cell_of_block (o := 2) nb rfl; simp at n2
        have n3 := cell_of_block (o := 3) nb rfl; simp at n3
        have k0 := free_of_block nb 0
        have k1 := free_of_block nb 1
        have k2 := free_of_block nb 2
        have k3 := free_of_block nb 3
        go_wp2_with fail
        clear n0 n1 n2 n3 k0 k1 k2 k3
        replace C6 := over_cells C6 nb (.int .i64 ep) (.bool true) (.int .i64 d.cut) (.slice a6 d.cells.length cap6)
        replace nb := over_block nb (.int .i64 ep) (.bool true) (.int .i64 d.cut) (.slice a6 d.cells.length cap6)
        replace G := over_grow G HB7.out (.int .i64 ep) (.bool true) (.int .i64 d.cut) (.slice a6 d.cells.length cap6)
        generalize ((((w9.setCell ⟨w7.heap.size, 0, none⟩ (.int .i64 ep)).setCell ⟨w7.heap.size, 1, none⟩ (.bool true)).setCell ⟨w7.heap.size, 2, none⟩ (.int .i64 d.cut)).setCell ⟨w7.heap.size, 3, none⟩ (.slice a6 d.cells.length cap6)) = W9 at *
        have n0 := cell_of_block (o := 0) nb rfl; simp at n0
        have n1 := cell_of_block (o := 1) nb rfl; simp at n1
        have n2 := cell_of_block (o := 2) nb rfl; simp at n2
        have n3 := cell_of_block (o := 3) nb rfl; simp at n3
        go_wp2_with fail
        clear n0 n1 n2 n3
        refine (open_any (⟨ep, true, d.cut, d.cells⟩ : Ch) a6 cap6 _ C6).mono ?_
        by_cases h99 : ep = 99
        case pos =>
          have hop : (⟨ep, true, d.cut, d.cells⟩ : Ch).open = (zeroCh, 2) := by have := open_many HB.out.1 (by rw [HB.out.2.1]; exact h99); rw [HB.out.2.1] at this; exact this
          rw [hop]
          rintro e w10 ⟨a7, cap7, rfl, g, -⟩
          replace nb := grow_block g nb
          replace G := G.trans g
          clear g C6
          unfold Ch.val
          simp only [zeroCh, List.length_nil]
          have n0 := cell_of_block (o := 0) nb rfl; simp at n0
          have n1 := cell_of_block (o := 1) nb rfl; simp at n1
          have n2 := cell_of_block (o := 2) nb rfl; simp at n2
          have n3 := cell_of_block (o := 3) nb rfl; simp at n3
          have k0 := free_of_block nb 0
          have k1 := free_of_block nb 1
          have k2 := free_of_block nb 2
          have k3 := free_of_block nb 3
          go_wp2_with fail
          replace G := over_grow G HB7.out (.int .i64 0) (.bool false) (.int .i64 0) (.slice a7 0 cap7)
          go_wp2
          go_ret
          exact ⟨rfl, G⟩
        have hop : (⟨ep, true, d.cut, d.cells⟩ : Ch).open = ((⟨ep + 1, false, d.cut, d.cells⟩ : Ch), 0) := by have := open_fine HB.out.1 (by rw [HB.out.2.1]; exact h99); rw [HB.out.2.1] at this; exact this
        have HE : Hid ((⟨ep + 1, false, d.cut, d.cells⟩ : Ch).err = 0) := by have := opened_err HB.out.1 (by rw [HB.out.2.1]; exact h99); rw [HB.out.2.1] at this; exact this
        have HK : Hid (∀ D, (⟨ep + 1, false, d.cut, d.cells⟩ : Ch).trim to = (D, 0) → D.read p = if p < to then (⟨#[]⟩, 4) else (s, 0)) := by intro D hD; refine keeps_cut (b := d) HB.out.2.2.2 (by rw [HB.out.2.1]; exact h99) ?_; rw [HB.out.2.1]; exact hD
        rw [hop]
        clear hop h99 HB
        rintro e w10 ⟨a7, cap7, rfl, g, C7⟩
        replace nb := grow_block g nb
        replace G := G.trans g
        clear g C6
        unfold Ch.val
        simp only at C7 ⊢
        have n0 := cell_of_block (o := 0) nb rfl; simp at n0
        have n1 := cell_of_block (o := 1) nb rfl; simp at n1
        have n2 := cell_of_block (o := 2) nb rfl; simp at n2
        have n3 := cell_of_block (o := 3) nb rfl; simp at n3
        have k0 := free_of_block nb 0
        have k1 := free_of_block nb 1
        have k2 := free_of_block nb 2
        have k3 := free_of_block nb 3
        go_wp2_with fail
        clear n0 n1 n2 n3 k0 k1 k2 k3
        replace C7 := over_cells C7 nb (.int .i64 (ep + 1)) (.bool false) (.int .i64 d.cut) (.slice a7 d.cells.length cap7)
        replace nb := over_block nb (.int .i64 (ep + 1)) (.bool false) (.int .i64 d.cut) (.slice a7 d.cells.length cap7)
        replace G := over_grow G HB7.out (.int .i64 (ep + 1)) (.bool false) (.int .i64 d.cut) (.slice a7 d.cells.length cap7)
        generalize ((((w10.setCell ⟨w7.heap.size, 0, none⟩ (.int .i64 (ep + 1))).setCell ⟨w7.heap.size, 1, none⟩ (.bool false)).setCell ⟨w7.heap.size, 2, none⟩ (.int .i64 d.cut)).setCell ⟨w7.heap.size, 3, none⟩ (.slice a7 d.cells.length cap7)) = W10 at *
        have n0 := cell_of_block (o := 0) nb rfl; simp at n0
        have n1 := cell_of_block (o := 1) nb rfl; simp at n1
        have n2 := cell_of_block (o := 2) nb rfl; simp at n2
        have n3 := cell_of_block (o := 3) nb rfl; simp at n3
        go_wp2_with fail
        clear n0 n1 n2 n3
        clear nb
        refine (trim_any (⟨ep + 1, false, d.cut, d.cells⟩ : Ch) a7 cap7 to _ C7).mono ?_
        by_cases hto : to < 0 ∨ 30 < to
        case pos =>
          rw [trim_bad HE.out hto]
          rintro e w11 ⟨a8, cap8, rfl, g, -⟩
          replace G := G.trans g
          clear g C7
          unfold Ch.val
          simp only [zeroCh, List.length_nil]
          rcases hto with hto | hto
          · have hto' : decide (to < 0) = true := by simpa using hto
            go_wp2
            go_ret
            exact ⟨rfl, G.alloc _⟩
          · have hto' : decide (to < 0) = false := by simp; omega
            have hto2 : decide (30 < to) = true := by simpa using hto
            go_wp2
            go_ret
            exact ⟨rfl, G.alloc _⟩
        obtain ⟨D, hD⟩ : ∃ D, (⟨ep + 1, false, d.cut, d.cells⟩ : Ch).trim to = (D, 0) := ⟨_, trim_fine HE.out hto⟩
        have hk := HK.out D hD
        rw [hD]
        clear hD HK HE hto
        have HK : Hid (D.read p = if p < to then (⟨#[]⟩, 4) else (s, 0)) := hk
        clear hk
        rintro e w11 ⟨a8, cap8, rfl, g, C8⟩
        replace G := G.trans g
        clear g C7
        unfold Ch.val
        simp only at C8 ⊢
        have g : Grow w11 (w11.alloc (Obj.cells #[.int .i64 D.epoch, .bool D.sealed, .int .i64 D.cut, .slice a8 D.cells.length cap8] 42)) := (Grow.refl _).alloc _
        have nb := heap_alloc_new w11 (Obj.cells #[.int .i64 D.epoch, .bool D.sealed, .int .i64 D.cut, .slice a8 D.cells.length cap8] 42)
        have CN := hid_mk (C8.grow g)
        replace G := G.trans g
        clear g C8
        have n0 := cell_of_block (o := 0) nb rfl; simp at n0
        have n1 := cell_of_block (o := 1) nb rfl; simp at n1
        have n2 := cell_of_block (o := 2) nb rfl; simp at n2
        have n3 := cell_of_block (o := 3) nb rfl; simp at n3
        go_wp2_with fail
        clear n0 n1 n2 n3
        generalize (w11.alloc (Obj.cells #[.int .i64 D.epoch, .bool D.sealed, .int .i64 D.cut, .slice a8 D.cells.length cap8] 42)) = W11 at *
        refine (read_any D a8 cap8 p _ CN.out).mono ?_
        rw [HK.out]
        clear HK CN nb
        by_cases hpt : p < to
        case pos =>
          have hpt' : decide (p < to) = true := by simpa using hpt
          rw [if_pos hpt]
          rintro e w12 ⟨rfl, g⟩
          replace G := G.trans g
          clear g
          go_wp2
          go_ret
          exact ⟨rfl, G⟩
        have hpt' : decide (p < to) = false := by simpa using hpt
        rw [if_neg hpt]
        rintro e w12 ⟨rfl, g⟩
        replace G := G.trans g
        clear g
        go_wp2
        go_ret
        exact ⟨rfl, G⟩
end Go.Proofs.Ytikdncgjaomlcaa
