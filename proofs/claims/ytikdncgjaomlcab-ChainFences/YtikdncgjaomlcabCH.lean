/- cutwaterlaw.ChainFences answers true. -/
import Derived.Test.YtikdncgjaomlcabCA
import Derived.Test.YtikdncgjaomlcabCC
import Derived.Test.YtikdncgjaomlcabCS
namespace Go.Proofs.Ytikdncgjaomlcab
open Go.RowKit

/-- Where a chain's block is written, no cell is. -/
theorem cells_past {w : World} {b : Nat} {t : TypeId} {a : Option Addr} {cap : Nat} {cs : List Cl} (h : CellsAt w a cap cs) {i : Int} {f : Bool} {j : Int} {x : Option Addr} {y z : Nat} (hb : w.heap[b]? = some (.cells #[.int .i64 i, .bool f, .int .i64 j, .slice x y z] t (0, 0))) (o : Nat) (v : Value) :
    CellsAt (w.setCell ⟨b, o, none⟩ v) a cap cs := by
  by_cases hn : cs = []
  · exact ⟨h.1, h.2.1, .inl hn⟩
  have hfar : ∀ x, a = some x → b ≠ x.block := by
    rcases h.2.2 with h0 | ⟨b', off, ha, hc⟩
    · exact absurd h0 hn
    intro y hy he
    rw [ha] at hy
    cases hy
    have hb' : b = b' := he
    subst hb'
    obtain ⟨c, cs', rfl⟩ : ∃ c cs', cs = c :: cs' := by cases cs with
      | nil => exact absurd rfl hn
      | cons c cs' => exact ⟨c, cs', rfl⟩
    have h2 := (hc 0 c rfl).2.2.1
    simp [World.cell?, hb] at h2
    match off, h2 with
    | 0, h2 => simp at h2
    | 1, h2 => simp at h2
    | n + 2, h2 => simp at h2
  exact CellsAt.far h (p := ⟨b, o, none⟩) hfar _
theorem hush {p : Prop} (h : p) : Hid p := h
theorem write_sealed {c d : Ch} {kn p er : Int} {x : Cl} {may : Cl → Bool} (hs : c.sealed = true) (h : c.write kn p x may = (d, er)) : er ≠ 0 := by
  rintro rfl
  have := (write_ok h).2.2.2.2.1
  rw [hs] at this
  cases this
theorem write_elder {c d : Ch} {kn p er : Int} {x : Cl} {may : Cl → Bool} (hs : kn ≠ c.epoch) (h : c.write kn p x may = (d, er)) : er ≠ 0 := by
  rintro rfl
  exact hs (write_ok h).2.2.2.1
/-- The newer epoch writes where the elder one could. -/
theorem write_newer {c : Ch} (h : c.err = 0) (he : c.epoch ≠ 99) (hs : c.sealed = false) {d f : Ch} {p er e2 : Int} {x : Cl} {may : Cl → Bool}
    (h1 : (⟨c.epoch + 1, false, c.cut, c.cells⟩ : Ch).write (c.epoch + 1) p x may = (d, er)) (h2 : c.write c.epoch p x may = (f, e2)) :
    er = e2 ∧ (er = 0 → d = ⟨c.epoch + 1, f.sealed, f.cut, f.cells⟩ ∧ f.epoch = c.epoch) := by
  have ho := opened_err h he
  have hw : wErr (⟨c.epoch + 1, false, c.cut, c.cells⟩ : Ch) (c.epoch + 1) p x = wErr c c.epoch p x := by
    unfold wErr
    rw [h, ho, hs]
    simp
  unfold Ch.write at h1 h2
  rw [hw] at h1
  by_cases h3 : wErr c c.epoch p x = 0
  · rw [if_neg (by simp [h3])] at h1 h2
    by_cases h4 : p < c.cut ∨ may (c.at (p - c.cut).toNat) = false
    · rw [if_pos h4] at h2
      have h1' : (if p < c.cut ∨ may (c.at (p - c.cut).toNat) = false then (zeroCh, (6 : Int)) else (⟨c.epoch + 1, false, c.cut, putCells c.cells (p - c.cut).toNat x⟩, 0)) = (d, er) := h1
      rw [if_pos h4] at h1'
      cases h1'; cases h2
      exact ⟨rfl, fun h => by cases h⟩
    · rw [if_neg h4] at h2
      have h1' : (if p < c.cut ∨ may (c.at (p - c.cut).toNat) = false then (zeroCh, (6 : Int)) else (⟨c.epoch + 1, false, c.cut, putCells c.cells (p - c.cut).toNat x⟩, 0)) = (d, er) := h1
      rw [if_neg h4] at h1'
      cases h1'; cases h2
      exact ⟨rfl, fun _ => ⟨by rw [hs], rfl⟩⟩
  · rw [if_pos h3] at h1 h2
    cases h1; cases h2
    exact ⟨rfl, fun h => absurd h h3⟩
set_option maxHeartbeats 8000000 in
theorem chainFences_walk (c : Ch) (a : Option Addr) (cap : Nat) (p : Int) (s : ByteArray) (w : World) (hc : CellsAt w a cap c.cells) (hs : s.size ≤ 9223372036854775807) :
    Calls Try.prog 3 #[c.val a cap, .int .i64 p, .string s] w fun e w' => e = .returned (.bool true) ∧ Grow w w' := by
  have HC : Hid (CellsAt w a cap c.cells) := hc
  clear hc
  have HS : Hid (s.size ≤ 9223372036854775807) := hs
  clear hs
  have G : Grow w (w.alloc (Obj.cells #[.int .i64 c.epoch, .bool c.sealed, .int .i64 c.cut, .slice a c.cells.length cap] 24)) := (Grow.refl w).alloc _
  have qb := heap_alloc_new w (Obj.cells #[.int .i64 c.epoch, .bool c.sealed, .int .i64 c.cut, .slice a c.cells.length cap] 24)
  unfold Ch.val
  go_enter Try.func3, Try.ntmps3
  go_wp2_with fail
  refine (chainBegun_any _).mono ?_
  rintro e w1 ⟨rfl, g⟩
  replace qb := grow_block g qb
  replace G := G.trans g
  clear g
  have q0 := cell_of_block (o := 0) qb rfl; simp at q0
  have q1 := cell_of_block (o := 1) qb rfl; simp at q1
  have q2 := cell_of_block (o := 2) qb rfl; simp at q2
  have q3 := cell_of_block (o := 3) qb rfl; simp at q3
  go_wp2_with fail
  clear q0 q1 q2 q3
  refine (check_any c a cap _ (HC.out.grow G)).mono ?_
  by_cases hce : c.err = 0
  case neg =>
    rintro e w2 ⟨rfl, g⟩
    replace qb := grow_block g qb
    replace G := G.trans g
    clear g
    have hx0 : (c.err == 0) = false := by simpa using hce
    have hx1 : (c.err != 0) = true := by simpa using hce
    clear hce
    go_wp2
    go_ret
    exact ⟨rfl, G⟩
  have HE := hush hce
  rw [hce]
  clear hce
  rintro e w2 ⟨rfl, g⟩
  replace qb := grow_block g qb
  replace G := G.trans g
  clear g
  have q0 := cell_of_block (o := 0) qb rfl; simp at q0
  have q1 := cell_of_block (o := 1) qb rfl; simp at q1
  have q2 := cell_of_block (o := 2) qb rfl; simp at q2
  have q3 := cell_of_block (o := 3) qb rfl; simp at q3
  go_wp2_with fail
  clear q0 q1 q2 q3
  refine (seal_any c a cap c.epoch _ (HC.out.grow G)).mono ?_
  rw [seal_fine HE.out]
  rintro e w3 ⟨a1, cap1, rfl, g, C1⟩
  replace qb := grow_block g qb
  replace G := G.trans g
  clear g
  unfold Ch.val
  simp only at C1 ⊢
  have g : Grow w3 (w3.alloc (Obj.cells #[.int .i64 c.epoch, .bool true, .int .i64 c.cut, .slice a1 c.cells.length cap1] 24)) := (Grow.refl _).alloc _
  have sb := heap_alloc_new w3 (Obj.cells #[.int .i64 c.epoch, .bool true, .int .i64 c.cut, .slice a1 c.cells.length cap1] 24)
  have CS := hush (C1.grow g)
  clear C1
  replace qb := grow_block g qb
  replace G := G.trans g
  clear g
  have q0 := cell_of_block (o := 0) qb rfl; simp at q0
  have q1 := cell_of_block (o := 1) qb rfl; simp at q1
  have q2 := cell_of_block (o := 2) qb rfl; simp at q2
  have q3 := cell_of_block (o := 3) qb rfl; simp at q3
  have s0 := cell_of_block (o := 0) sb rfl; simp at s0
  have s1 := cell_of_block (o := 1) sb rfl; simp at s1
  have s2 := cell_of_block (o := 2) sb rfl; simp at s2
  have s3 := cell_of_block (o := 3) sb rfl; simp at s3
  go_wp2_with fail
  clear q0 q1 q2 q3 s0 s1 s2 s3
  generalize (w3.alloc (Obj.cells #[.int .i64 c.epoch, .bool true, .int .i64 c.cut, .slice a1 c.cells.length cap1] 24)) = W3 at *
  refine (cwrite_any (⟨c.epoch, true, c.cut, c.cells⟩ : Ch) a1 cap1 c.epoch p s _ CS.out HS.out).mono ?_
  generalize hr : (⟨c.epoch, true, c.cut, c.cells⟩ : Ch).write c.epoch p (textCl s) Cl.empty = r
  obtain ⟨d1, x1⟩ := r
  have n1 : x1 ≠ 0 := write_sealed rfl hr
  have n10 : (x1 == 0) = false := by simpa using n1
  have n11 : (x1 != 0) = true := by simpa using n1
  clear hr n1
  rintro e w4 ⟨b1, k1, rfl, g, -⟩
  replace qb := grow_block g qb
  replace sb := grow_block g sb
  replace CS := hush (CS.out.grow g)
  replace G := G.trans g
  clear g
  unfold Ch.val
  simp only
  have g : Grow w4 (w4.alloc (Obj.cells #[.int .i64 d1.epoch, .bool d1.sealed, .int .i64 d1.cut, .slice b1 d1.cells.length k1] 24)) := (Grow.refl _).alloc _
  replace qb := grow_block g qb
  replace sb := grow_block g sb
  replace CS := hush (CS.out.grow g)
  replace G := G.trans g
  clear g
  have q0 := cell_of_block (o := 0) qb rfl; simp at q0
  have q1 := cell_of_block (o := 1) qb rfl; simp at q1
  have q2 := cell_of_block (o := 2) qb rfl; simp at q2
  have q3 := cell_of_block (o := 3) qb rfl; simp at q3
  have s0 := cell_of_block (o := 0) sb rfl; simp at s0
  have s1 := cell_of_block (o := 1) sb rfl; simp at s1
  have s2 := cell_of_block (o := 2) sb rfl; simp at s2
  have s3 := cell_of_block (o := 3) sb rfl; simp at s3
  go_wp2_with fail
  clear q0 q1 q2 q3 s0 s1 s2 s3
  generalize (w4.alloc (Obj.cells #[.int .i64 d1.epoch, .bool d1.sealed, .int .i64 d1.cut, .slice b1 d1.cells.length k1] 24)) = W4 at *
  refine (cfill_any (⟨c.epoch, true, c.cut, c.cells⟩ : Ch) a1 cap1 c.epoch p _ CS.out).mono ?_
  generalize hr : (⟨c.epoch, true, c.cut, c.cells⟩ : Ch).write c.epoch p junkCl notThere = r
  obtain ⟨d2, x2⟩ := r
  have n2 : x2 ≠ 0 := write_sealed rfl hr
  have n20 : (x2 == 0) = false := by simpa using n2
  have n21 : (x2 != 0) = true := by simpa using n2
  clear hr n2
  rintro e w5 ⟨b2, k2, rfl, g, -⟩
  replace qb := grow_block g qb
  replace sb := grow_block g sb
  replace CS := hush (CS.out.grow g)
  replace G := G.trans g
  clear g
  unfold Ch.val
  simp only
  have g : Grow w5 (w5.alloc (Obj.cells #[.int .i64 d2.epoch, .bool d2.sealed, .int .i64 d2.cut, .slice b2 d2.cells.length k2] 24)) := (Grow.refl _).alloc _
  replace qb := grow_block g qb
  replace sb := grow_block g sb
  replace CS := hush (CS.out.grow g)
  replace G := G.trans g
  clear g
  have q0 := cell_of_block (o := 0) qb rfl; simp at q0
  have q1 := cell_of_block (o := 1) qb rfl; simp at q1
  have q2 := cell_of_block (o := 2) qb rfl; simp at q2
  have q3 := cell_of_block (o := 3) qb rfl; simp at q3
  have s0 := cell_of_block (o := 0) sb rfl; simp at s0
  have s1 := cell_of_block (o := 1) sb rfl; simp at s1
  have s2 := cell_of_block (o := 2) sb rfl; simp at s2
  have s3 := cell_of_block (o := 3) sb rfl; simp at s3
  go_wp2_with fail
  clear q0 q1 q2 q3 s0 s1 s2 s3
  generalize (w5.alloc (Obj.cells #[.int .i64 d2.epoch, .bool d2.sealed, .int .i64 d2.cut, .slice b2 d2.cells.length k2] 24)) = W5 at *
  clear n10 n11 n20 n21 sb
  refine (open_any (⟨c.epoch, true, c.cut, c.cells⟩ : Ch) a1 cap1 _ CS.out).mono ?_
  by_cases h99 : c.epoch = 99
  case pos =>
    rw [open_many HE.out h99]
    rintro e w6 ⟨a2, cap2, rfl, g, -⟩
    replace qb := grow_block g qb
    replace G := G.trans g
    clear g
    unfold Ch.val
    simp only [zeroCh, List.length_nil]
    have g : Grow w6 (w6.alloc (Obj.cells #[.int .i64 0, .bool false, .int .i64 0, .slice a2 0 cap2] 24)) := (Grow.refl _).alloc _
    replace qb := grow_block g qb
    replace G := G.trans g
    clear g
    have q0 := cell_of_block (o := 0) qb rfl; simp at q0
    have q1 := cell_of_block (o := 1) qb rfl; simp at q1
    have q2 := cell_of_block (o := 2) qb rfl; simp at q2
    have q3 := cell_of_block (o := 3) qb rfl; simp at q3
    go_wp2
    go_ret
    exact ⟨rfl, G⟩
  rw [open_fine HE.out h99]
  have HX := hush h99
  clear h99 CS
  rintro e w6 ⟨a2, cap2, rfl, g, C2⟩
  replace qb := grow_block g qb
  replace G := G.trans g
  clear g
  unfold Ch.val
  simp only at C2 ⊢
  have g : Grow w6 (w6.alloc (Obj.cells #[.int .i64 (c.epoch + 1), .bool false, .int .i64 c.cut, .slice a2 c.cells.length cap2] 24)) := (Grow.refl _).alloc _
  have ob := heap_alloc_new w6 (Obj.cells #[.int .i64 (c.epoch + 1), .bool false, .int .i64 c.cut, .slice a2 c.cells.length cap2] 24)
  have CO := hush (C2.grow g)
  clear C2
  replace qb := grow_block g qb
  replace G := G.trans g
  clear g
  have q0 := cell_of_block (o := 0) qb rfl; simp at q0
  have q1 := cell_of_block (o := 1) qb rfl; simp at q1
  have q2 := cell_of_block (o := 2) qb rfl; simp at q2
  have q3 := cell_of_block (o := 3) qb rfl; simp at q3
  have o0 := cell_of_block (o := 0) ob rfl; simp at o0
  have o1 := cell_of_block (o := 1) ob rfl; simp at o1
  have o2 := cell_of_block (o := 2) ob rfl; simp at o2
  have o3 := cell_of_block (o := 3) ob rfl; simp at o3
  go_wp2_with fail
  clear q0 q1 q2 q3 o0 o1 o2 o3
  generalize (w6.alloc (Obj.cells #[.int .i64 (c.epoch + 1), .bool false, .int .i64 c.cut, .slice a2 c.cells.length cap2] 24)) = W6 at *
  refine (cwrite_any (⟨c.epoch + 1, false, c.cut, c.cells⟩ : Ch) a2 cap2 c.epoch p s _ CO.out HS.out).mono ?_
  generalize hr : (⟨c.epoch + 1, false, c.cut, c.cells⟩ : Ch).write c.epoch p (textCl s) Cl.empty = r
  obtain ⟨d3, x3⟩ := r
  have n3 : x3 ≠ 0 := write_elder (by show c.epoch ≠ c.epoch + 1; omega) hr
  have n30 : (x3 == 0) = false := by simpa using n3
  have n31 : (x3 != 0) = true := by simpa using n3
  clear hr n3
  rintro e w7 ⟨b3, k3, rfl, g, -⟩
  replace qb := grow_block g qb
  replace ob := grow_block g ob
  replace CO := hush (CO.out.grow g)
  replace G := G.trans g
  clear g
  unfold Ch.val
  simp only
  have q0 := cell_of_block (o := 0) qb rfl; simp at q0
  have q1 := cell_of_block (o := 1) qb rfl; simp at q1
  have q2 := cell_of_block (o := 2) qb rfl; simp at q2
  have q3 := cell_of_block (o := 3) qb rfl; simp at q3
  have o0 := cell_of_block (o := 0) ob rfl; simp at o0
  have o1 := cell_of_block (o := 1) ob rfl; simp at o1
  have o2 := cell_of_block (o := 2) ob rfl; simp at o2
  have o3 := cell_of_block (o := 3) ob rfl; simp at o3
  go_wp2_with fail
  clear q0 q1 q2 q3 o0 o1 o2 o3
  refine (cwrite_any (⟨c.epoch + 1, false, c.cut, c.cells⟩ : Ch) a2 cap2 (c.epoch + 1) p s _ CO.out HS.out).mono ?_
  generalize hr : (⟨c.epoch + 1, false, c.cut, c.cells⟩ : Ch).write (c.epoch + 1) p (textCl s) Cl.empty = r
  obtain ⟨d, er⟩ := r
  have HD := hush hr
  clear hr
  rintro e w8 ⟨a4, cap4, rfl, g, C4⟩
  replace qb := grow_block g qb
  replace G := G.trans g
  clear g
  have hb8 : w.heap.size ≤ w8.heap.size := G.size
  have HB8 := hush hb8
  clear ob CO hb8
  unfold Ch.val
  simp only at C4 ⊢
  have g : Grow w8 (w8.alloc (Obj.cells #[.int .i64 d.epoch, .bool d.sealed, .int .i64 d.cut, .slice a4 d.cells.length cap4] 24)) := (Grow.refl _).alloc _
  have pb := heap_alloc_new w8 (Obj.cells #[.int .i64 d.epoch, .bool d.sealed, .int .i64 d.cut, .slice a4 d.cells.length cap4] 24)
  have CD := hush (C4.grow g)
  clear C4
  replace qb := grow_block g qb
  replace G := G.trans g
  clear g
  have q0 := cell_of_block (o := 0) qb rfl; simp at q0
  have q1 := cell_of_block (o := 1) qb rfl; simp at q1
  have q2 := cell_of_block (o := 2) qb rfl; simp at q2
  have q3 := cell_of_block (o := 3) qb rfl; simp at q3
  go_wp2_with fail
  clear q0 q1 q2 q3
  generalize (w8.alloc (Obj.cells #[.int .i64 d.epoch, .bool d.sealed, .int .i64 d.cut, .slice a4 d.cells.length cap4] 24)) = W8 at *
  have h8 := lt_of_block pb
  refine (cwrite_any c a cap c.epoch p s _ (HC.out.grow G) HS.out).mono ?_
  generalize hr : c.write c.epoch p (textCl s) Cl.empty = r
  obtain ⟨f, e2⟩ := r
  have HF := hush hr
  clear hr
  rintro e w9 ⟨a5, cap5, rfl, g, C5⟩
  have h9 := g.size
  replace qb := grow_block g qb
  replace pb := grow_block g pb
  replace CD := hush (CD.out.grow g)
  replace G := G.trans g
  clear g
  unfold Ch.val
  simp only at C5 ⊢
  have HNE : Hid (w9.heap.size ≠ w8.heap.size) := by show _ ≠ _; omega
  clear h8 h9
  have g : Grow w9 (w9.alloc (Obj.cells #[.int .i64 f.epoch, .bool f.sealed, .int .i64 f.cut, .slice a5 f.cells.length cap5] 24)) := (Grow.refl _).alloc _
  have nb := heap_alloc_new w9 (Obj.cells #[.int .i64 f.epoch, .bool f.sealed, .int .i64 f.cut, .slice a5 f.cells.length cap5] 24)
  have CF := hush (C5.grow g)
  clear C5
  replace qb := grow_block g qb
  replace pb := grow_block g pb
  replace CD := hush (CD.out.grow g)
  replace G := G.trans g
  clear g
  have q0 := cell_of_block (o := 0) qb rfl; simp at q0
  have q1 := cell_of_block (o := 1) qb rfl; simp at q1
  have q2 := cell_of_block (o := 2) qb rfl; simp at q2
  have q3 := cell_of_block (o := 3) qb rfl; simp at q3
  by_cases hse : c.sealed = true
  case pos =>
    rw [hse] at q1
    go_wp2
    go_ret
    exact ⟨rfl, G⟩
  have hse : c.sealed = false := by simpa using hse
  rw [hse] at q1
  obtain ⟨hee, hok⟩ := write_newer HE.out HX.out hse HD.out HF.out
  subst hee
  by_cases her : er = 0
  case neg =>
    have h0 : (er == 0) = false := by simpa using her
    have h1 : (er != 0) = true := by simpa using her
    clear hok her
    go_wp2
    go_ret
    exact ⟨rfl, G⟩
  obtain ⟨hd, hfe⟩ := hok her
  clear hok
  subst her
  subst hd
  have HFE := hush hfe
  clear hfe hse
  simp only at pb CD ⊢
  have p0 := cell_of_block (o := 0) pb rfl; simp at p0
  have p1 := cell_of_block (o := 1) pb rfl; simp at p1
  have p2 := cell_of_block (o := 2) pb rfl; simp at p2
  have p3 := cell_of_block (o := 3) pb rfl; simp at p3
  have k0 := free_of_block pb 0
  have k1 := free_of_block pb 1
  have k2 := free_of_block pb 2
  have k3 := free_of_block pb 3
  have n0 := cell_of_block (o := 0) nb rfl; simp at n0
  have n1 := cell_of_block (o := 1) nb rfl; simp at n1
  have n2 := cell_of_block (o := 2) nb rfl; simp at n2
  have n3 := cell_of_block (o := 3) nb rfl; simp at n3
  have hne := HNE.out
  have hne' := hne.symm
  go_wp2_with fail
  clear q0 q1 q2 q3 p0 p1 p2 p3 k0 k1 k2 k3 n0 n1 n2 n3
  clear hne hne'
  refine (sameChain_any f a4 a5 cap4 cap5 _ (cells_past CD.out pb 0 _) (cells_past CF.out pb 0 _)).mono ?_
  rintro e w10 ⟨rfl, g⟩
  have GW := (G.setCell (p := ⟨w8.heap.size, 0, none⟩) HB8.out (.int .i64 f.epoch)).trans g
  go_wp2
  go_ret
  exact ⟨rfl, GW⟩
end Go.Proofs.Ytikdncgjaomlcab
