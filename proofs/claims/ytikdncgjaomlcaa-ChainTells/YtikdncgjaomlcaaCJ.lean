/- cutwaterlaw.ChainTells answers true. -/
import Derived.Test.YtikdncgjaomlcaaCA
import Derived.Test.YtikdncgjaomlcaaD2
import Derived.Test.YtikdncgjaomlcaaD3
import Derived.Test.YtikdncgjaomlcaaD5
namespace Go.Proofs.Ytikdncgjaomlcaa
open Go.RowKit

/-- Where a chain's block is written over, no cell is. -/
theorem chain_cells {w : World} {b : Nat} {t : TypeId} {a : Option Addr} {cap : Nat} {cs : List Cl} (h : CellsAt w a cap cs) {i : Int} {f : Bool} {j : Int} {x : Option Addr} {y z : Nat} (hb : w.heap[b]? = some (.cells #[.int .i64 i, .bool f, .int .i64 j, .slice x y z] t (0, 0))) (v0 v1 v2 v3 : Value) :
    CellsAt ((((w.setCell ⟨b, 0, none⟩ v0).setCell ⟨b, 1, none⟩ v1).setCell ⟨b, 2, none⟩ v2).setCell ⟨b, 3, none⟩ v3) a cap cs := by
  by_cases hn : cs = []
  · exact ⟨h.1, h.2.1, .inl hn⟩
  have hfar : ∀ x, a = some x → b ≠ x.block := by
    rcases h.2.2 with h0 | ⟨b', off, ha, hc⟩
    · exact absurd h0 hn
    intro y hy he
    rw [ha] at hy
    cases hy
    have hb' : b = b' := he
    subst hb'
    obtain ⟨c, cs', rfl⟩ : ∃ c cs', cs = c :: cs' := by cases cs with
      | nil => exact absurd rfl hn
      | cons c cs' => exact ⟨c, cs', rfl⟩
    have h2 := (hc 0 c rfl).2.2.1
    simp [World.cell?, hb] at h2
    match off, h2 with
    | 0, h2 => simp at h2
    | 1, h2 => simp at h2
    | n + 2, h2 => simp at h2
  exact lay_cells h hfar v0 v1 v2 v3
theorem chain_cell {w : World} {b : Nat} {t : TypeId} {a : Option Addr} {cap : Nat} {cs : List Cl} (h : CellsAt w a cap cs) {i : Int} {f : Bool} {j : Int} {x : Option Addr} {y z : Nat} (hb : w.heap[b]? = some (.cells #[.int .i64 i, .bool f, .int .i64 j, .slice x y z] t (0, 0))) (o : Nat) (v : Value) :
    CellsAt (w.setCell ⟨b, o, none⟩ v) a cap cs := by
  by_cases hn : cs = []
  · exact ⟨h.1, h.2.1, .inl hn⟩
  have hfar : ∀ x, a = some x → b ≠ x.block := by
    rcases h.2.2 with h0 | ⟨b', off, ha, hc⟩
    · exact absurd h0 hn
    intro y hy he
    rw [ha] at hy
    cases hy
    have hb' : b = b' := he
    subst hb'
    obtain ⟨c, cs', rfl⟩ : ∃ c cs', cs = c :: cs' := by cases cs with
      | nil => exact absurd rfl hn
      | cons c cs' => exact ⟨c, cs', rfl⟩
    have h2 := (hc 0 c rfl).2.2.1
    simp [World.cell?, hb] at h2
    match off, h2 with
    | 0, h2 => simp at h2
    | 1, h2 => simp at h2
    | n + 2, h2 => simp at h2
  exact CellsAt.far h (p := ⟨b, o, none⟩) hfar _
theorem five_blocks (w : World) (o : Obj) (k : Nat) (hk : k < 5) : (((((w.alloc o).alloc o).alloc o).alloc o).alloc o).heap[w.heap.size + k]? = some o := by
  have h : ∀ (u : World), (u.alloc o).heap[u.heap.size]? = some o := fun u => heap_alloc_new u o
  have hs : ∀ (u : World), (u.alloc o).heap.size = u.heap.size + 1 := fun u => by simp
  have hk5 : k = 0 ∨ k = 1 ∨ k = 2 ∨ k = 3 ∨ k = 4 := by omega
  have s1 := hs w
  have s2 := hs (w.alloc o)
  have s3 := hs ((w.alloc o).alloc o)
  have s4 := hs (((w.alloc o).alloc o).alloc o)
  have n0 := h w
  have n1 := h (w.alloc o)
  have n2 := h ((w.alloc o).alloc o)
  have n3 := h (((w.alloc o).alloc o).alloc o)
  have n4 := h ((((w.alloc o).alloc o).alloc o).alloc o)
  rw [s4, s3, s2, s1] at n4
  rw [s3, s2, s1] at n3
  rw [s2, s1] at n2
  rw [s1] at n1
  rcases hk5 with rfl | rfl | rfl | rfl | rfl
  · exact (Below.heap_alloc _ _ _ (by omega)).trans ((Below.heap_alloc _ _ _ (by omega)).trans ((Below.heap_alloc _ _ _ (by omega)).trans ((Below.heap_alloc _ _ _ (by omega)).trans n0)))
  · exact (Below.heap_alloc _ _ _ (by omega)).trans ((Below.heap_alloc _ _ _ (by omega)).trans ((Below.heap_alloc _ _ _ (by omega)).trans n1))
  · exact (Below.heap_alloc _ _ _ (by omega)).trans ((Below.heap_alloc _ _ _ (by omega)).trans n2)
  · exact (Below.heap_alloc _ _ _ (by omega)).trans n3
  · exact n4
/-- A chain is what it must be beside an errno. -/
structure Fits (x : Int) (c d : Ch) : Prop where
  same : x = 0 → c = d
  none : x ≠ 0 → c = zeroCh
theorem hold {p : Prop} (h : p) : Hid p := h
theorem empty_may (y : Cl) (s : ByteArray) : Cl.empty y = !(y.there || (y.junk && !(textCl s).junk)) := by unfold Cl.empty textCl; cases y.there <;> cases y.junk <;> rfl
theorem notThere_may (y : Cl) : notThere y = !(y.there || (y.junk && !junkCl.junk)) := by unfold notThere junkCl; cases y.there <;> cases y.junk <;> rfl
theorem write_wrong {c : Ch} (h : c.err ≠ 0) (kn p : Int) (x : Cl) (may : Cl → Bool) : c.write kn p x may = (zeroCh, c.err) := by
  have hw : wErr c kn p x = c.err := by unfold wErr; rw [if_pos h]
  unfold Ch.write
  rw [hw, if_pos h]
set_option maxRecDepth 100000 in
set_option maxHeartbeats 32000000 in
theorem chainTells_walk (c : Ch) (a : Option Addr) (cap : Nat) (ep p : Int) (s : ByteArray) (w : World) (hc : CellsAt w a cap c.cells) (hs : s.size ≤ 9223372036854775807) (hn : c.cells.length ≤ 9223372036854775777) :
    Calls Try.prog 7 #[c.val a cap, .int .i64 ep, .int .i64 p, .string s] w fun e w' => e = .returned (.bool true) ∧ Grow w w' := by
  have HC := hold hc
  have HS := hold hs
  have HN := hold hn
  clear hc hs hn
  have G : Grow w (w.alloc (Obj.cells #[.int .i64 c.epoch, .bool c.sealed, .int .i64 c.cut, .slice a c.cells.length cap] 42)) := (Grow.refl w).alloc _
  have qb := heap_alloc_new w (Obj.cells #[.int .i64 c.epoch, .bool c.sealed, .int .i64 c.cut, .slice a c.cells.length cap] 42)
  unfold Ch.val
  go_enter Try.func7, Try.ntmps7
  have q0 := cell_of_block (o := 0) qb rfl; simp at q0
  have q1 := cell_of_block (o := 1) qb rfl; simp at q1
  have q2 := cell_of_block (o := 2) qb rfl; simp at q2
  have q3 := cell_of_block (o := 3) qb rfl; simp at q3
  go_wp2_with fail
  clear q0 q1 q2 q3
  refine (cwrite_any c a cap ep p s _ (HC.out.grow G) HS.out).mono ?_
  generalize hr : c.write ep p (textCl s) Cl.empty = r
  obtain ⟨A, eA⟩ := r
  have HA := hold hr
  clear hr
  rintro e w1 ⟨aA, capA, rfl, g, C⟩
  replace qb := grow_block g qb
  replace G := G.trans g
  clear g
  unfold Ch.val
  simp only at C ⊢
  have g : Grow w1 (w1.alloc (Obj.cells #[.int .i64 A.epoch, .bool A.sealed, .int .i64 A.cut, .slice aA A.cells.length capA] 42)) := (Grow.refl _).alloc _
  have bA := heap_alloc_new w1 (Obj.cells #[.int .i64 A.epoch, .bool A.sealed, .int .i64 A.cut, .slice aA A.cells.length capA] 42)
  have CA := hold (C.grow g)
  clear C
  replace qb := grow_block g qb
  replace G := G.trans g
  clear g
  have q0 := cell_of_block (o := 0) qb rfl; simp at q0
  have q1 := cell_of_block (o := 1) qb rfl; simp at q1
  have q2 := cell_of_block (o := 2) qb rfl; simp at q2
  have q3 := cell_of_block (o := 3) qb rfl; simp at q3
  go_wp2_with fail
  clear q0 q1 q2 q3
  generalize (w1.alloc (Obj.cells #[.int .i64 A.epoch, .bool A.sealed, .int .i64 A.cut, .slice aA A.cells.length capA] 42)) = W1 at *
  refine (cfill_any c a cap ep p _ (HC.out.grow G)).mono ?_
  generalize hr : c.write ep p junkCl notThere = r
  obtain ⟨B, eB⟩ := r
  have HB := hold hr
  clear hr
  rintro e w2 ⟨aB, capB, rfl, g, C⟩
  replace qb := grow_block g qb
  replace bA := grow_block g bA
  replace CA := hold (CA.out.grow g)
  replace G := G.trans g
  clear g
  unfold Ch.val
  simp only at C ⊢
  have g : Grow w2 (w2.alloc (Obj.cells #[.int .i64 B.epoch, .bool B.sealed, .int .i64 B.cut, .slice aB B.cells.length capB] 42)) := (Grow.refl _).alloc _
  have bB := heap_alloc_new w2 (Obj.cells #[.int .i64 B.epoch, .bool B.sealed, .int .i64 B.cut, .slice aB B.cells.length capB] 42)
  have CB := hold (C.grow g)
  clear C
  replace qb := grow_block g qb
  replace bA := grow_block g bA
  replace CA := hold (CA.out.grow g)
  replace G := G.trans g
  clear g
  have q0 := cell_of_block (o := 0) qb rfl; simp at q0
  have q1 := cell_of_block (o := 1) qb rfl; simp at q1
  have q2 := cell_of_block (o := 2) qb rfl; simp at q2
  have q3 := cell_of_block (o := 3) qb rfl; simp at q3
  go_wp2_with fail
  clear q0 q1 q2 q3
  generalize (w2.alloc (Obj.cells #[.int .i64 B.epoch, .bool B.sealed, .int .i64 B.cut, .slice aB B.cells.length capB] 42)) = W2 at *
  refine (read_any c a cap p _ (HC.out.grow G)).mono ?_
  generalize hr : c.read p = r
  obtain ⟨rs, re⟩ := r
  have Hrs := hold hr
  clear hr
  rintro e w3 ⟨rfl, g⟩
  replace qb := grow_block g qb
  replace bA := grow_block g bA
  replace bB := grow_block g bB
  replace CA := hold (CA.out.grow g)
  replace CB := hold (CB.out.grow g)
  replace G := G.trans g
  clear g
  simp only
  have q0 := cell_of_block (o := 0) qb rfl; simp at q0
  have q1 := cell_of_block (o := 1) qb rfl; simp at q1
  have q2 := cell_of_block (o := 2) qb rfl; simp at q2
  have q3 := cell_of_block (o := 3) qb rfl; simp at q3
  go_wp2_with fail
  clear q0 q1 q2 q3
  refine (tail_any c a cap _ (HC.out.grow G)).mono ?_
  generalize hr : c.tail = r
  obtain ⟨tn, te⟩ := r
  have Htn := hold hr
  clear hr
  rintro e w4 ⟨rfl, g⟩
  replace qb := grow_block g qb
  replace bA := grow_block g bA
  replace bB := grow_block g bB
  replace CA := hold (CA.out.grow g)
  replace CB := hold (CB.out.grow g)
  replace G := G.trans g
  clear g
  simp only
  have q0 := cell_of_block (o := 0) qb rfl; simp at q0
  have q1 := cell_of_block (o := 1) qb rfl; simp at q1
  have q2 := cell_of_block (o := 2) qb rfl; simp at q2
  have q3 := cell_of_block (o := 3) qb rfl; simp at q3
  go_wp2_with fail
  clear q0 q1 q2 q3
  refine (seal_any c a cap ep _ (HC.out.grow G)).mono ?_
  generalize hr : c.seal ep = r
  obtain ⟨D, eD⟩ := r
  have HD := hold hr
  clear hr
  rintro e w5 ⟨aD, capD, rfl, g, C⟩
  replace qb := grow_block g qb
  replace bA := grow_block g bA
  replace bB := grow_block g bB
  replace CA := hold (CA.out.grow g)
  replace CB := hold (CB.out.grow g)
  replace G := G.trans g
  clear g
  unfold Ch.val
  simp only at C ⊢
  have g : Grow w5 (w5.alloc (Obj.cells #[.int .i64 D.epoch, .bool D.sealed, .int .i64 D.cut, .slice aD D.cells.length capD] 42)) := (Grow.refl _).alloc _
  have bD := heap_alloc_new w5 (Obj.cells #[.int .i64 D.epoch, .bool D.sealed, .int .i64 D.cut, .slice aD D.cells.length capD] 42)
  have CD := hold (C.grow g)
  clear C
  replace qb := grow_block g qb
  replace bA := grow_block g bA
  replace bB := grow_block g bB
  replace CA := hold (CA.out.grow g)
  replace CB := hold (CB.out.grow g)
  replace G := G.trans g
  clear g
  have q0 := cell_of_block (o := 0) qb rfl; simp at q0
  have q1 := cell_of_block (o := 1) qb rfl; simp at q1
  have q2 := cell_of_block (o := 2) qb rfl; simp at q2
  have q3 := cell_of_block (o := 3) qb rfl; simp at q3
  go_wp2_with fail
  clear q0 q1 q2 q3
  generalize (w5.alloc (Obj.cells #[.int .i64 D.epoch, .bool D.sealed, .int .i64 D.cut, .slice aD D.cells.length capD] 42)) = W5 at *
  refine (open_any c a cap _ (HC.out.grow G)).mono ?_
  generalize hr : c.open = r
  obtain ⟨O, eO⟩ := r
  have HO := hold hr
  clear hr
  rintro e w6 ⟨aO, capO, rfl, g, C⟩
  replace qb := grow_block g qb
  replace bA := grow_block g bA
  replace bB := grow_block g bB
  replace bD := grow_block g bD
  replace CA := hold (CA.out.grow g)
  replace CB := hold (CB.out.grow g)
  replace CD := hold (CD.out.grow g)
  replace G := G.trans g
  clear g
  unfold Ch.val
  simp only at C ⊢
  have g : Grow w6 (w6.alloc (Obj.cells #[.int .i64 O.epoch, .bool O.sealed, .int .i64 O.cut, .slice aO O.cells.length capO] 42)) := (Grow.refl _).alloc _
  have bO := heap_alloc_new w6 (Obj.cells #[.int .i64 O.epoch, .bool O.sealed, .int .i64 O.cut, .slice aO O.cells.length capO] 42)
  have CO := hold (C.grow g)
  clear C
  replace qb := grow_block g qb
  replace bA := grow_block g bA
  replace bB := grow_block g bB
  replace bD := grow_block g bD
  replace CA := hold (CA.out.grow g)
  replace CB := hold (CB.out.grow g)
  replace CD := hold (CD.out.grow g)
  replace G := G.trans g
  clear g
  have q0 := cell_of_block (o := 0) qb rfl; simp at q0
  have q1 := cell_of_block (o := 1) qb rfl; simp at q1
  have q2 := cell_of_block (o := 2) qb rfl; simp at q2
  have q3 := cell_of_block (o := 3) qb rfl; simp at q3
  go_wp2_with fail
  clear q0 q1 q2 q3
  generalize (w6.alloc (Obj.cells #[.int .i64 O.epoch, .bool O.sealed, .int .i64 O.cut, .slice aO O.cells.length capO] 42)) = W6 at *
  refine (trim_any c a cap p _ (HC.out.grow G)).mono ?_
  generalize hr : c.trim p = r
  obtain ⟨T, eT⟩ := r
  have HT := hold hr
  clear hr
  rintro e w7 ⟨aT, capT, rfl, g, C⟩
  replace qb := grow_block g qb
  replace bA := grow_block g bA
  replace bB := grow_block g bB
  replace bD := grow_block g bD
  replace bO := grow_block g bO
  replace CA := hold (CA.out.grow g)
  replace CB := hold (CB.out.grow g)
  replace CD := hold (CD.out.grow g)
  replace CO := hold (CO.out.grow g)
  replace G := G.trans g
  clear g
  unfold Ch.val
  simp only at C ⊢
  have g : Grow w7 (w7.alloc (Obj.cells #[.int .i64 T.epoch, .bool T.sealed, .int .i64 T.cut, .slice aT T.cells.length capT] 42)) := (Grow.refl _).alloc _
  have bT := heap_alloc_new w7 (Obj.cells #[.int .i64 T.epoch, .bool T.sealed, .int .i64 T.cut, .slice aT T.cells.length capT] 42)
  have CT := hold (C.grow g)
  clear C
  replace qb := grow_block g qb
  replace bA := grow_block g bA
  replace bB := grow_block g bB
  replace bD := grow_block g bD
  replace bO := grow_block g bO
  replace CA := hold (CA.out.grow g)
  replace CB := hold (CB.out.grow g)
  replace CD := hold (CD.out.grow g)
  replace CO := hold (CO.out.grow g)
  replace G := G.trans g
  clear g
  have q0 := cell_of_block (o := 0) qb rfl; simp at q0
  have q1 := cell_of_block (o := 1) qb rfl; simp at q1
  have q2 := cell_of_block (o := 2) qb rfl; simp at q2
  have q3 := cell_of_block (o := 3) qb rfl; simp at q3
  go_wp2_with fail
  clear q0 q1 q2 q3
  generalize (w7.alloc (Obj.cells #[.int .i64 T.epoch, .bool T.sealed, .int .i64 T.cut, .slice aT T.cells.length capT] 42)) = W7 at *
  refine (refCheck_any c a cap _ (HC.out.grow G) HN.out).mono ?_
  rintro e w8 ⟨rfl, g⟩
  replace qb := grow_block g qb
  replace bA := grow_block g bA
  replace bB := grow_block g bB
  replace bD := grow_block g bD
  replace bO := grow_block g bO
  replace bT := grow_block g bT
  replace CA := hold (CA.out.grow g)
  replace CB := hold (CB.out.grow g)
  replace CD := hold (CD.out.grow g)
  replace CO := hold (CO.out.grow g)
  replace CT := hold (CT.out.grow g)
  replace G := G.trans g
  clear g
  have HG8 := hold G
  have q8 := hold qb
  clear qb
  have hsz8 : w.heap.size < w8.heap.size := lt_of_block q8.out
  have HZ8 := hold hsz8
  clear hsz8
  have kA := hold bA
  have kB := hold bB
  have kD := hold bD
  have kO := hold bO
  have kT := hold bT
  clear bA bB bD bO bT
  have G8 : Grow w8 (((((w8.alloc (Obj.cells #[.int .i64 0, .bool false, .int .i64 0, .slice none 0 0] 42)).alloc (Obj.cells #[.int .i64 0, .bool false, .int .i64 0, .slice none 0 0] 42)).alloc (Obj.cells #[.int .i64 0, .bool false, .int .i64 0, .slice none 0 0] 42)).alloc (Obj.cells #[.int .i64 0, .bool false, .int .i64 0, .slice none 0 0] 42)).alloc (Obj.cells #[.int .i64 0, .bool false, .int .i64 0, .slice none 0 0] 42)) := (((((Grow.refl w8).alloc _).alloc _).alloc _).alloc _).alloc _
  have z0 : (((((w8.alloc (Obj.cells #[.int .i64 0, .bool false, .int .i64 0, .slice none 0 0] 42)).alloc (Obj.cells #[.int .i64 0, .bool false, .int .i64 0, .slice none 0 0] 42)).alloc (Obj.cells #[.int .i64 0, .bool false, .int .i64 0, .slice none 0 0] 42)).alloc (Obj.cells #[.int .i64 0, .bool false, .int .i64 0, .slice none 0 0] 42)).alloc (Obj.cells #[.int .i64 0, .bool false, .int .i64 0, .slice none 0 0] 42)).heap[w8.heap.size]? = some (Obj.cells #[.int .i64 0, .bool false, .int .i64 0, .slice none 0 0] 42 (0, 0)) := five_blocks w8 _ 0 (by decide)
  have z1 : (((((w8.alloc (Obj.cells #[.int .i64 0, .bool false, .int .i64 0, .slice none 0 0] 42)).alloc (Obj.cells #[.int .i64 0, .bool false, .int .i64 0, .slice none 0 0] 42)).alloc (Obj.cells #[.int .i64 0, .bool false, .int .i64 0, .slice none 0 0] 42)).alloc (Obj.cells #[.int .i64 0, .bool false, .int .i64 0, .slice none 0 0] 42)).alloc (Obj.cells #[.int .i64 0, .bool false, .int .i64 0, .slice none 0 0] 42)).heap[w8.heap.size + 1]? = some (Obj.cells #[.int .i64 0, .bool false, .int .i64 0, .slice none 0 0] 42 (0, 0)) := five_blocks w8 _ 1 (by decide)
  have z2 : (((((w8.alloc (Obj.cells #[.int .i64 0, .bool false, .int .i64 0, .slice none 0 0] 42)).alloc (Obj.cells #[.int .i64 0, .bool false, .int .i64 0, .slice none 0 0] 42)).alloc (Obj.cells #[.int .i64 0, .bool false, .int .i64 0, .slice none 0 0] 42)).alloc (Obj.cells #[.int .i64 0, .bool false, .int .i64 0, .slice none 0 0] 42)).alloc (Obj.cells #[.int .i64 0, .bool false, .int .i64 0, .slice none 0 0] 42)).heap[w8.heap.size + 1 + 1]? = some (Obj.cells #[.int .i64 0, .bool false, .int .i64 0, .slice none 0 0] 42 (0, 0)) := five_blocks w8 _ 2 (by decide)
  have z3 : (((((w8.alloc (Obj.cells #[.int .i64 0, .bool false, .int .i64 0, .slice none 0 0] 42)).alloc (Obj.cells #[.int .i64 0, .bool false, .int .i64 0, .slice none 0 0] 42)).alloc (Obj.cells #[.int .i64 0, .bool false, .int .i64 0, .slice none 0 0] 42)).alloc (Obj.cells #[.int .i64 0, .bool false, .int .i64 0, .slice none 0 0] 42)).alloc (Obj.cells #[.int .i64 0, .bool false, .int .i64 0, .slice none 0 0] 42)).heap[w8.heap.size + 1 + 1 + 1]? = some (Obj.cells #[.int .i64 0, .bool false, .int .i64 0, .slice none 0 0] 42 (0, 0)) := five_blocks w8 _ 3 (by decide)
  have z4 : (((((w8.alloc (Obj.cells #[.int .i64 0, .bool false, .int .i64 0, .slice none 0 0] 42)).alloc (Obj.cells #[.int .i64 0, .bool false, .int .i64 0, .slice none 0 0] 42)).alloc (Obj.cells #[.int .i64 0, .bool false, .int .i64 0, .slice none 0 0] 42)).alloc (Obj.cells #[.int .i64 0, .bool false, .int .i64 0, .slice none 0 0] 42)).alloc (Obj.cells #[.int .i64 0, .bool false, .int .i64 0, .slice none 0 0] 42)).heap[w8.heap.size + 1 + 1 + 1 + 1]? = some (Obj.cells #[.int .i64 0, .bool false, .int .i64 0, .slice none 0 0] 42 (0, 0)) := five_blocks w8 _ 4 (by decide)
  clear G
  by_cases hce : c.err = 0
  case neg =>
    have hA := HA.out
    rw [write_wrong hce] at hA
    have hB := HB.out
    rw [write_wrong hce] at hB
    have hr := Hrs.out
    rw [Ch.read, if_pos hce] at hr
    have ht := Htn.out
    rw [Ch.tail, if_pos hce] at ht
    have hD := HD.out
    rw [Ch.seal, if_pos hce] at hD
    have hO := HO.out
    rw [Ch.open, if_pos hce] at hO
    have hT := HT.out
    rw [Ch.trim, if_pos hce] at hT
    have HX := hold hce
    have hx0 : (c.err == 0) = false := by simpa using hce
    have hx1 : (c.err != 0) = true := by simpa using hce
    clear HA HB Hrs Htn HD HO HT hce
    cases hA
    cases hB
    cases hr
    cases ht
    cases hD
    cases hO
    cases hT
    simp only [zeroCh, List.length_nil] at kA kB kD kO kT ⊢
    have qb := grow_block G8 q8.out
    have q0 := cell_of_block (o := 0) qb rfl; simp at q0
    have q1 := cell_of_block (o := 1) qb rfl; simp at q1
    have q2 := cell_of_block (o := 2) qb rfl; simp at q2
    have q3 := cell_of_block (o := 3) qb rfl; simp at q3
    go_wp2_with fail
    clear q0 q1 q2 q3
    clear qb
    generalize (((((w8.alloc (Obj.cells #[.int .i64 0, .bool false, .int .i64 0, .slice none 0 0] 42)).alloc (Obj.cells #[.int .i64 0, .bool false, .int .i64 0, .slice none 0 0] 42)).alloc (Obj.cells #[.int .i64 0, .bool false, .int .i64 0, .slice none 0 0] 42)).alloc (Obj.cells #[.int .i64 0, .bool false, .int .i64 0, .slice none 0 0] 42)).alloc (Obj.cells #[.int .i64 0, .bool false, .int .i64 0, .slice none 0 0] 42)) = W8 at *
    refine (chainBegun_any _).mono ?_
    rintro e u1 ⟨rfl, g⟩
    replace G8 := G8.trans g
    replace z0 := grow_block g z0
    replace z1 := grow_block g z1
    replace z2 := grow_block g z2
    replace z3 := grow_block g z3
    replace z4 := grow_block g z4
    clear g
    have qb := grow_block G8 q8.out
    have q0 := cell_of_block (o := 0) qb rfl; simp at q0
    have q1 := cell_of_block (o := 1) qb rfl; simp at q1
    have q2 := cell_of_block (o := 2) qb rfl; simp at q2
    have q3 := cell_of_block (o := 3) qb rfl; simp at q3
    go_wp2_with fail
    clear q0 q1 q2 q3
    clear qb
    refine (check_any c a cap _ (HC.out.grow (HG8.out.trans G8))).mono ?_
    rintro e u2 ⟨rfl, g⟩
    replace G8 := G8.trans g
    replace z0 := grow_block g z0
    replace z1 := grow_block g z1
    replace z2 := grow_block g z2
    replace z3 := grow_block g z3
    replace z4 := grow_block g z4
    clear g
    have bb := grow_block G8 kA.out
    have m0 := cell_of_block (o := 0) bb rfl; simp at m0
    have m1 := cell_of_block (o := 1) bb rfl; simp at m1
    have m2 := cell_of_block (o := 2) bb rfl; simp at m2
    have m3 := cell_of_block (o := 3) bb rfl; simp at m3
    have n0 := cell_of_block (o := 0) z0 rfl; simp at n0
    have n1 := cell_of_block (o := 1) z0 rfl; simp at n1
    have n2 := cell_of_block (o := 2) z0 rfl; simp at n2
    have n3 := cell_of_block (o := 3) z0 rfl; simp at n3
    go_wp2_with fail
    clear m0 m1 m2 m3 n0 n1 n2 n3
    clear bb
    refine (chainIs_any zeroCh zeroCh aA _ capA _ _ _ (CA.out.grow G8) (cellsAt_nil _ _ _) (fun h => absurd h HX.out) (fun _ => rfl)).mono ?_
    rintro e u3 ⟨rfl, g⟩
    replace G8 := G8.trans g
    replace z0 := grow_block g z0
    replace z1 := grow_block g z1
    replace z2 := grow_block g z2
    replace z3 := grow_block g z3
    replace z4 := grow_block g z4
    clear g
    have bb := grow_block G8 kB.out
    have m0 := cell_of_block (o := 0) bb rfl; simp at m0
    have m1 := cell_of_block (o := 1) bb rfl; simp at m1
    have m2 := cell_of_block (o := 2) bb rfl; simp at m2
    have m3 := cell_of_block (o := 3) bb rfl; simp at m3
    have n0 := cell_of_block (o := 0) z1 rfl; simp at n0
    have n1 := cell_of_block (o := 1) z1 rfl; simp at n1
    have n2 := cell_of_block (o := 2) z1 rfl; simp at n2
    have n3 := cell_of_block (o := 3) z1 rfl; simp at n3
    go_wp2_with fail
    clear m0 m1 m2 m3 n0 n1 n2 n3
    clear bb
    refine (chainIs_any zeroCh zeroCh aB _ capB _ _ _ (CB.out.grow G8) (cellsAt_nil _ _ _) (fun h => absurd h HX.out) (fun _ => rfl)).mono ?_
    rintro e u4 ⟨rfl, g⟩
    replace G8 := G8.trans g
    replace z0 := grow_block g z0
    replace z1 := grow_block g z1
    replace z2 := grow_block g z2
    replace z3 := grow_block g z3
    replace z4 := grow_block g z4
    clear g
    have bb := grow_block G8 kD.out
    have m0 := cell_of_block (o := 0) bb rfl; simp at m0
    have m1 := cell_of_block (o := 1) bb rfl; simp at m1
    have m2 := cell_of_block (o := 2) bb rfl; simp at m2
    have m3 := cell_of_block (o := 3) bb rfl; simp at m3
    have n0 := cell_of_block (o := 0) z2 rfl; simp at n0
    have n1 := cell_of_block (o := 1) z2 rfl; simp at n1
    have n2 := cell_of_block (o := 2) z2 rfl; simp at n2
    have n3 := cell_of_block (o := 3) z2 rfl; simp at n3
    go_wp2_with fail
    clear m0 m1 m2 m3 n0 n1 n2 n3
    clear bb
    refine (chainIs_any zeroCh zeroCh aD _ capD _ _ _ (CD.out.grow G8) (cellsAt_nil _ _ _) (fun h => absurd h HX.out) (fun _ => rfl)).mono ?_
    rintro e u5 ⟨rfl, g⟩
    replace G8 := G8.trans g
    replace z0 := grow_block g z0
    replace z1 := grow_block g z1
    replace z2 := grow_block g z2
    replace z3 := grow_block g z3
    replace z4 := grow_block g z4
    clear g
    have bb := grow_block G8 kO.out
    have m0 := cell_of_block (o := 0) bb rfl; simp at m0
    have m1 := cell_of_block (o := 1) bb rfl; simp at m1
    have m2 := cell_of_block (o := 2) bb rfl; simp at m2
    have m3 := cell_of_block (o := 3) bb rfl; simp at m3
    have n0 := cell_of_block (o := 0) z3 rfl; simp at n0
    have n1 := cell_of_block (o := 1) z3 rfl; simp at n1
    have n2 := cell_of_block (o := 2) z3 rfl; simp at n2
    have n3 := cell_of_block (o := 3) z3 rfl; simp at n3
    go_wp2_with fail
    clear m0 m1 m2 m3 n0 n1 n2 n3
    clear bb
    refine (chainIs_any zeroCh zeroCh aO _ capO _ _ _ (CO.out.grow G8) (cellsAt_nil _ _ _) (fun h => absurd h HX.out) (fun _ => rfl)).mono ?_
    rintro e u6 ⟨rfl, g⟩
    replace G8 := G8.trans g
    replace z0 := grow_block g z0
    replace z1 := grow_block g z1
    replace z2 := grow_block g z2
    replace z3 := grow_block g z3
    replace z4 := grow_block g z4
    clear g
    have bb := grow_block G8 kT.out
    have m0 := cell_of_block (o := 0) bb rfl; simp at m0
    have m1 := cell_of_block (o := 1) bb rfl; simp at m1
    have m2 := cell_of_block (o := 2) bb rfl; simp at m2
    have m3 := cell_of_block (o := 3) bb rfl; simp at m3
    have n0 := cell_of_block (o := 0) z4 rfl; simp at n0
    have n1 := cell_of_block (o := 1) z4 rfl; simp at n1
    have n2 := cell_of_block (o := 2) z4 rfl; simp at n2
    have n3 := cell_of_block (o := 3) z4 rfl; simp at n3
    go_wp2_with fail
    clear m0 m1 m2 m3 n0 n1 n2 n3
    clear bb
    refine (chainIs_any zeroCh zeroCh aT _ capT _ _ _ (CT.out.grow G8) (cellsAt_nil _ _ _) (fun h => absurd h HX.out) (fun _ => rfl)).mono ?_
    rintro e u7 ⟨rfl, g⟩
    replace G8 := G8.trans g
    replace z0 := grow_block g z0
    replace z1 := grow_block g z1
    replace z2 := grow_block g z2
    replace z3 := grow_block g z3
    replace z4 := grow_block g z4
    clear g
    have GG := HG8.out.trans G8
    go_wp2
    go_ret
    exact ⟨rfl, GG⟩
  have HE := hold hce
  obtain ⟨hep, hcut, hlen, _⟩ := Ch.fine hce
  have ht := Htn.out
  rw [Ch.tail, if_neg (by simp [hce])] at ht
  rw [hce]
  clear hce Htn
  cases ht
  have hadd : IntKind.i64.wrap (c.cut + (c.cells.length : Int)) = c.cut + (c.cells.length : Int) := by rw [IntKind.wrap_i64]; omega
  have hadd' : wrap64 (c.cut + (c.cells.length : Int)) = c.cut + (c.cells.length : Int) := by unfold wrap64; omega
  have hinc : IntKind.i64.wrap (c.epoch + 1) = c.epoch + 1 := by rw [IntKind.wrap_i64]; omega
  have hinc' : wrap64 (c.epoch + 1) = c.epoch + 1 := by unfold wrap64; omega
  have HEP := hold hep
  have HCU := hold hcut
  have HLE := hold hlen
  clear hep hcut hlen
  have qb := grow_block G8 q8.out
  have q0 := cell_of_block (o := 0) qb rfl; simp at q0
  have q1 := cell_of_block (o := 1) qb rfl; simp at q1
  have q2 := cell_of_block (o := 2) qb rfl; simp at q2
  have q3 := cell_of_block (o := 3) qb rfl; simp at q3
  go_wp2_with fail
  clear q0 q1 q2 q3
  clear qb
  generalize (((((w8.alloc (Obj.cells #[.int .i64 0, .bool false, .int .i64 0, .slice none 0 0] 42)).alloc (Obj.cells #[.int .i64 0, .bool false, .int .i64 0, .slice none 0 0] 42)).alloc (Obj.cells #[.int .i64 0, .bool false, .int .i64 0, .slice none 0 0] 42)).alloc (Obj.cells #[.int .i64 0, .bool false, .int .i64 0, .slice none 0 0] 42)).alloc (Obj.cells #[.int .i64 0, .bool false, .int .i64 0, .slice none 0 0] 42)) = W8 at *
  refine (refWrite_any c a cap ep p (textCl s) Cl.empty _ (HC.out.grow (HG8.out.trans G8)) HE.out HS.out (fun y => empty_may y s)).mono ?_
  rw [HA.out]
  rintro e w9 ⟨a9, cap9, rfl, g, C⟩
  replace G8 := G8.trans g
  replace z0 := grow_block g z0
  replace z1 := grow_block g z1
  replace z2 := grow_block g z2
  replace z3 := grow_block g z3
  replace z4 := grow_block g z4
  clear g
  unfold Ch.val
  simp only at C ⊢
  have d0 := cell_of_block (o := 0) z0 rfl; simp at d0
  have d1 := cell_of_block (o := 1) z0 rfl; simp at d1
  have d2 := cell_of_block (o := 2) z0 rfl; simp at d2
  have d3 := cell_of_block (o := 3) z0 rfl; simp at d3
  have f0 := free_of_block z0 0
  have f1 := free_of_block z0 1
  have f2 := free_of_block z0 2
  have f3 := free_of_block z0 3
  iterate 14 (first | go_skip | go_guarded | go_step | go_upon)
  clear d0 d1 d2 d3 f0 f1 f2 f3
  have RA := hold (chain_cells C z0 (.int .i64 A.epoch) (.bool A.sealed) (.int .i64 A.cut) (.slice a9 A.cells.length cap9))
  clear C
  replace z1 := lay_far (b := w8.heap.size) z1 (by omega) (.int .i64 A.epoch) (.bool A.sealed) (.int .i64 A.cut) (.slice a9 A.cells.length cap9)
  replace z2 := lay_far (b := w8.heap.size) z2 (by omega) (.int .i64 A.epoch) (.bool A.sealed) (.int .i64 A.cut) (.slice a9 A.cells.length cap9)
  replace z3 := lay_far (b := w8.heap.size) z3 (by omega) (.int .i64 A.epoch) (.bool A.sealed) (.int .i64 A.cut) (.slice a9 A.cells.length cap9)
  replace z4 := lay_far (b := w8.heap.size) z4 (by omega) (.int .i64 A.epoch) (.bool A.sealed) (.int .i64 A.cut) (.slice a9 A.cells.length cap9)
  replace z0 := lay_block z0 (.int .i64 A.epoch) (.bool A.sealed) (.int .i64 A.cut) (.slice a9 A.cells.length cap9)
  replace G8 := lay_grow (b := w8.heap.size) G8 (by omega) (.int .i64 A.epoch) (.bool A.sealed) (.int .i64 A.cut) (.slice a9 A.cells.length cap9)
  generalize ((((w9.setCell ⟨w8.heap.size, 0, none⟩ (.int .i64 A.epoch)).setCell ⟨w8.heap.size, 1, none⟩ (.bool A.sealed)).setCell ⟨w8.heap.size, 2, none⟩ (.int .i64 A.cut)).setCell ⟨w8.heap.size, 3, none⟩ (.slice a9 A.cells.length cap9)) = V9 at *
  have qb := grow_block G8 q8.out
  have q0 := cell_of_block (o := 0) qb rfl; simp at q0
  have q1 := cell_of_block (o := 1) qb rfl; simp at q1
  have q2 := cell_of_block (o := 2) qb rfl; simp at q2
  have q3 := cell_of_block (o := 3) qb rfl; simp at q3
  go_wp2_with fail
  clear q0 q1 q2 q3
  clear qb
  refine (refWrite_any c a cap ep p junkCl notThere _ (HC.out.grow (HG8.out.trans G8)) HE.out (by decide) notThere_may).mono ?_
  rw [HB.out]
  rintro e w10 ⟨a10, cap10, rfl, g, C⟩
  replace G8 := G8.trans g
  replace z0 := grow_block g z0
  replace z1 := grow_block g z1
  replace z2 := grow_block g z2
  replace z3 := grow_block g z3
  replace z4 := grow_block g z4
  replace RA := hold (RA.out.grow g)
  clear g
  unfold Ch.val
  simp only at C ⊢
  have d0 := cell_of_block (o := 0) z1 rfl; simp at d0
  have d1 := cell_of_block (o := 1) z1 rfl; simp at d1
  have d2 := cell_of_block (o := 2) z1 rfl; simp at d2
  have d3 := cell_of_block (o := 3) z1 rfl; simp at d3
  have f0 := free_of_block z1 0
  have f1 := free_of_block z1 1
  have f2 := free_of_block z1 2
  have f3 := free_of_block z1 3
  iterate 14 (first | go_skip | go_guarded | go_step | go_upon)
  clear d0 d1 d2 d3 f0 f1 f2 f3
  replace RA := hold (chain_cells RA.out z1 (.int .i64 B.epoch) (.bool B.sealed) (.int .i64 B.cut) (.slice a10 B.cells.length cap10))
  have RB := hold (chain_cells C z1 (.int .i64 B.epoch) (.bool B.sealed) (.int .i64 B.cut) (.slice a10 B.cells.length cap10))
  clear C
  replace z0 := lay_far (b := w8.heap.size + 1) z0 (by omega) (.int .i64 B.epoch) (.bool B.sealed) (.int .i64 B.cut) (.slice a10 B.cells.length cap10)
  replace z2 := lay_far (b := w8.heap.size + 1) z2 (by omega) (.int .i64 B.epoch) (.bool B.sealed) (.int .i64 B.cut) (.slice a10 B.cells.length cap10)
  replace z3 := lay_far (b := w8.heap.size + 1) z3 (by omega) (.int .i64 B.epoch) (.bool B.sealed) (.int .i64 B.cut) (.slice a10 B.cells.length cap10)
  replace z4 := lay_far (b := w8.heap.size + 1) z4 (by omega) (.int .i64 B.epoch) (.bool B.sealed) (.int .i64 B.cut) (.slice a10 B.cells.length cap10)
  replace z1 := lay_block z1 (.int .i64 B.epoch) (.bool B.sealed) (.int .i64 B.cut) (.slice a10 B.cells.length cap10)
  replace G8 := lay_grow (b := w8.heap.size + 1) G8 (by omega) (.int .i64 B.epoch) (.bool B.sealed) (.int .i64 B.cut) (.slice a10 B.cells.length cap10)
  generalize ((((w10.setCell ⟨w8.heap.size + 1, 0, none⟩ (.int .i64 B.epoch)).setCell ⟨w8.heap.size + 1, 1, none⟩ (.bool B.sealed)).setCell ⟨w8.heap.size + 1, 2, none⟩ (.int .i64 B.cut)).setCell ⟨w8.heap.size + 1, 3, none⟩ (.slice a10 B.cells.length cap10)) = V10 at *
  have qb := grow_block G8 q8.out
  have q0 := cell_of_block (o := 0) qb rfl; simp at q0
  have q1 := cell_of_block (o := 1) qb rfl; simp at q1
  have q2 := cell_of_block (o := 2) qb rfl; simp at q2
  have q3 := cell_of_block (o := 3) qb rfl; simp at q3
  go_wp2_with fail
  clear q0 q1 q2 q3
  clear qb
  refine (refRead_any c a cap p _ (HC.out.grow (HG8.out.trans G8)) HE.out).mono ?_
  rw [Hrs.out]
  rintro e w11 ⟨rfl, g⟩
  replace G8 := G8.trans g
  replace z0 := grow_block g z0
  replace z1 := grow_block g z1
  replace z2 := grow_block g z2
  replace z3 := grow_block g z3
  replace z4 := grow_block g z4
  replace RA := hold (RA.out.grow g)
  replace RB := hold (RB.out.grow g)
  clear g
  simp only
  have qb := grow_block G8 q8.out
  have q0 := cell_of_block (o := 0) qb rfl; simp at q0
  have q1 := cell_of_block (o := 1) qb rfl; simp at q1
  have q2 := cell_of_block (o := 2) qb rfl; simp at q2
  have q3 := cell_of_block (o := 3) qb rfl; simp at q3
  have qd0 := cell_grow (Grow.refl w11).drew q0
  have qd1 := cell_grow (Grow.refl w11).drew q1
  have qd2 := cell_grow (Grow.refl w11).drew q2
  have qd3 := cell_grow (Grow.refl w11).drew q3
  go_wp2_with fail
  clear qd0 qd1 qd2 qd3
  have d0 := cell_of_block (o := 0) z2 rfl; simp at d0
  have d1 := cell_of_block (o := 1) z2 rfl; simp at d1
  have d2 := cell_of_block (o := 2) z2 rfl; simp at d2
  have d3 := cell_of_block (o := 3) z2 rfl; simp at d3
  have f0 := free_of_block z2 0
  have f1 := free_of_block z2 1
  have f2 := free_of_block z2 2
  have f3 := free_of_block z2 3
  have e0 := cell_of_block (o := 0) z3 rfl; simp at e0
  have e1 := cell_of_block (o := 1) z3 rfl; simp at e1
  have e2 := cell_of_block (o := 2) z3 rfl; simp at e2
  have e3 := cell_of_block (o := 3) z3 rfl; simp at e3
  have k0 := free_of_block z3 0
  have k1 := free_of_block z3 1
  have k2 := free_of_block z3 2
  have k3 := free_of_block z3 3
  have hne2 : w.heap.size ≠ w8.heap.size + 1 + 1 := by have := HZ8.out; omega
  have hne2' := hne2.symm
  have hne3 : w.heap.size ≠ w8.heap.size + 1 + 1 + 1 := by have := HZ8.out; omega
  have hne3' := hne3.symm
  go_region
  clear q0 q1 q2 q3 d0 d1 d2 d3 e0 e1 e2 e3 f0 f1 f2 f3 k0 k1 k2 k3
  clear hne2 hne2' hne3 hne3' qb
  replace RA := hold (chain_cells RA.out z2 (.int .i64 c.epoch) (.bool c.sealed) (.int .i64 c.cut) (.slice a c.cells.length cap))
  replace RB := hold (chain_cells RB.out z2 (.int .i64 c.epoch) (.bool c.sealed) (.int .i64 c.cut) (.slice a c.cells.length cap))
  replace z0 := lay_far (b := w8.heap.size + 1 + 1) z0 (by omega) (.int .i64 c.epoch) (.bool c.sealed) (.int .i64 c.cut) (.slice a c.cells.length cap)
  replace z1 := lay_far (b := w8.heap.size + 1 + 1) z1 (by omega) (.int .i64 c.epoch) (.bool c.sealed) (.int .i64 c.cut) (.slice a c.cells.length cap)
  replace z3 := lay_far (b := w8.heap.size + 1 + 1) z3 (by omega) (.int .i64 c.epoch) (.bool c.sealed) (.int .i64 c.cut) (.slice a c.cells.length cap)
  replace z4 := lay_far (b := w8.heap.size + 1 + 1) z4 (by omega) (.int .i64 c.epoch) (.bool c.sealed) (.int .i64 c.cut) (.slice a c.cells.length cap)
  replace z2 := lay_block z2 (.int .i64 c.epoch) (.bool c.sealed) (.int .i64 c.cut) (.slice a c.cells.length cap)
  replace G8 := lay_grow (b := w8.heap.size + 1 + 1) G8 (by omega) (.int .i64 c.epoch) (.bool c.sealed) (.int .i64 c.cut) (.slice a c.cells.length cap)
  replace RA := hold (chain_cells RA.out z3 (.int .i64 c.epoch) (.bool c.sealed) (.int .i64 c.cut) (.slice a c.cells.length cap))
  replace RB := hold (chain_cells RB.out z3 (.int .i64 c.epoch) (.bool c.sealed) (.int .i64 c.cut) (.slice a c.cells.length cap))
  replace z0 := lay_far (b := w8.heap.size + 1 + 1 + 1) z0 (by omega) (.int .i64 c.epoch) (.bool c.sealed) (.int .i64 c.cut) (.slice a c.cells.length cap)
  replace z1 := lay_far (b := w8.heap.size + 1 + 1 + 1) z1 (by omega) (.int .i64 c.epoch) (.bool c.sealed) (.int .i64 c.cut) (.slice a c.cells.length cap)
  replace z2 := lay_far (b := w8.heap.size + 1 + 1 + 1) z2 (by omega) (.int .i64 c.epoch) (.bool c.sealed) (.int .i64 c.cut) (.slice a c.cells.length cap)
  replace z4 := lay_far (b := w8.heap.size + 1 + 1 + 1) z4 (by omega) (.int .i64 c.epoch) (.bool c.sealed) (.int .i64 c.cut) (.slice a c.cells.length cap)
  replace z3 := lay_block z3 (.int .i64 c.epoch) (.bool c.sealed) (.int .i64 c.cut) (.slice a c.cells.length cap)
  replace G8 := lay_grow (b := w8.heap.size + 1 + 1 + 1) G8 (by omega) (.int .i64 c.epoch) (.bool c.sealed) (.int .i64 c.cut) (.slice a c.cells.length cap)
  generalize ((((((((w11.setCell ⟨w8.heap.size + 1 + 1, 0, none⟩ (.int .i64 c.epoch)).setCell ⟨w8.heap.size + 1 + 1, 1, none⟩ (.bool c.sealed)).setCell ⟨w8.heap.size + 1 + 1, 2, none⟩ (.int .i64 c.cut)).setCell ⟨w8.heap.size + 1 + 1, 3, none⟩ (.slice a c.cells.length cap)).setCell ⟨w8.heap.size + 1 + 1 + 1, 0, none⟩ (.int .i64 c.epoch)).setCell ⟨w8.heap.size + 1 + 1 + 1, 1, none⟩ (.bool c.sealed)).setCell ⟨w8.heap.size + 1 + 1 + 1, 2, none⟩ (.int .i64 c.cut)).setCell ⟨w8.heap.size + 1 + 1 + 1, 3, none⟩ (.slice a c.cells.length cap)) = V18 at *
  have d0 := cell_of_block (o := 0) z2 rfl; simp at d0
  have d1 := cell_of_block (o := 1) z2 rfl; simp at d1
  have d2 := cell_of_block (o := 2) z2 rfl; simp at d2
  have d3 := cell_of_block (o := 3) z2 rfl; simp at d3
  have f0 := free_of_block z2 0
  have f1 := free_of_block z2 1
  have f2 := free_of_block z2 2
  have f3 := free_of_block z2 3
  have e0 := cell_of_block (o := 0) z3 rfl; simp at e0
  have e1 := cell_of_block (o := 1) z3 rfl; simp at e1
  have e2 := cell_of_block (o := 2) z3 rfl; simp at e2
  have e3 := cell_of_block (o := 3) z3 rfl; simp at e3
  have k0 := free_of_block z3 0
  have k1 := free_of_block z3 1
  have k2 := free_of_block z3 2
  have k3 := free_of_block z3 3
  iterate 22 (first | go_skip | go_guarded | go_step | go_upon)
  clear d0 d1 d2 d3 e0 e1 e2 e3 f0 f1 f2 f3 k0 k1 k2 k3
  replace RA := hold (chain_cell RA.out z2 1 (.bool true))
  replace RB := hold (chain_cell RB.out z2 1 (.bool true))
  replace z0 := block_far (a := ⟨w8.heap.size + 1 + 1, 1, none⟩) (v := .bool true) (by simp <;> omega) z0
  replace z1 := block_far (a := ⟨w8.heap.size + 1 + 1, 1, none⟩) (v := .bool true) (by simp <;> omega) z1
  replace z3 := block_far (a := ⟨w8.heap.size + 1 + 1, 1, none⟩) (v := .bool true) (by simp <;> omega) z3
  replace z4 := block_far (a := ⟨w8.heap.size + 1 + 1, 1, none⟩) (v := .bool true) (by simp <;> omega) z4
  replace z2 := block_set (o := 1) (v := .bool true) z2
  simp only [List.setIfInBounds_toArray, List.set_cons_zero, List.set_cons_succ] at z2
  replace G8 := G8.setCell (p := ⟨w8.heap.size + 1 + 1, 1, none⟩) (by simp <;> omega) (.bool true)
  replace RA := hold (chain_cell RA.out z3 1 (.bool false))
  replace RB := hold (chain_cell RB.out z3 1 (.bool false))
  replace z0 := block_far (a := ⟨w8.heap.size + 1 + 1 + 1, 1, none⟩) (v := .bool false) (by simp <;> omega) z0
  replace z1 := block_far (a := ⟨w8.heap.size + 1 + 1 + 1, 1, none⟩) (v := .bool false) (by simp <;> omega) z1
  replace z2 := block_far (a := ⟨w8.heap.size + 1 + 1 + 1, 1, none⟩) (v := .bool false) (by simp <;> omega) z2
  replace z4 := block_far (a := ⟨w8.heap.size + 1 + 1 + 1, 1, none⟩) (v := .bool false) (by simp <;> omega) z4
  replace z3 := block_set (o := 1) (v := .bool false) z3
  simp only [List.setIfInBounds_toArray, List.set_cons_zero, List.set_cons_succ] at z3
  replace G8 := G8.setCell (p := ⟨w8.heap.size + 1 + 1 + 1, 1, none⟩) (by simp <;> omega) (.bool false)
  generalize ((V18.setCell ⟨w8.heap.size + 1 + 1, 1, none⟩ (.bool true)).setCell ⟨w8.heap.size + 1 + 1 + 1, 1, none⟩ (.bool false)) = V19 at *
  have e0 := cell_of_block (o := 0) z3 rfl; simp at e0
  have e1 := cell_of_block (o := 1) z3 rfl; simp at e1
  have e2 := cell_of_block (o := 2) z3 rfl; simp at e2
  have e3 := cell_of_block (o := 3) z3 rfl; simp at e3
  have k0 := free_of_block z3 0
  have k1 := free_of_block z3 1
  have k2 := free_of_block z3 2
  have k3 := free_of_block z3 3
  iterate 17 (first | go_skip | go_guarded | go_step | go_upon)
  clear e0 e1 e2 e3 k0 k1 k2 k3
  replace RA := hold (chain_cell RA.out z3 0 (.int .i64 (c.epoch + 1)))
  replace RB := hold (chain_cell RB.out z3 0 (.int .i64 (c.epoch + 1)))
  replace z0 := block_far (a := ⟨w8.heap.size + 1 + 1 + 1, 0, none⟩) (v := .int .i64 (c.epoch + 1)) (by simp <;> omega) z0
  replace z1 := block_far (a := ⟨w8.heap.size + 1 + 1 + 1, 0, none⟩) (v := .int .i64 (c.epoch + 1)) (by simp <;> omega) z1
  replace z2 := block_far (a := ⟨w8.heap.size + 1 + 1 + 1, 0, none⟩) (v := .int .i64 (c.epoch + 1)) (by simp <;> omega) z2
  replace z4 := block_far (a := ⟨w8.heap.size + 1 + 1 + 1, 0, none⟩) (v := .int .i64 (c.epoch + 1)) (by simp <;> omega) z4
  replace z3 := block_set (o := 0) (v := .int .i64 (c.epoch + 1)) z3
  simp only [List.setIfInBounds_toArray, List.set_cons_zero] at z3
  replace G8 := G8.setCell (p := ⟨w8.heap.size + 1 + 1 + 1, 0, none⟩) (by simp <;> omega) (.int .i64 (c.epoch + 1))
  generalize (V19.setCell ⟨w8.heap.size + 1 + 1 + 1, 0, none⟩ (.int .i64 (c.epoch + 1))) = V20 at *
  clear hadd hadd' hinc hinc'
  by_cases hy : ep = c.epoch
  case' pos =>
    have hd : c.seal ep = ((⟨c.epoch, true, c.cut, c.cells⟩ : Ch), 0) := by unfold Ch.seal; rw [if_neg (by simp [HE.out]), if_neg (by simp [hy])]
    rw [HD.out] at hd
    injection hd with e1 e2
    subst e2
    have FD : Fits 0 D (⟨c.epoch, true, c.cut, c.cells⟩ : Ch) := ⟨fun _ => e1, fun h => absurd rfl h⟩
    clear e1 HD
    have hy0 : (ep == c.epoch) = true := by simpa using hy
    have hy1 : (ep != c.epoch) = false := by simpa using hy
    clear hy
  case' neg =>
    have hd : c.seal ep = (zeroCh, 4) := by unfold Ch.seal; rw [if_neg (by simp [HE.out]), if_pos (by simpa using hy)]
    rw [HD.out] at hd
    injection hd with e1 e2
    subst e2
    have FD : Fits 4 D (⟨c.epoch, true, c.cut, c.cells⟩ : Ch) := ⟨fun h => absurd h (by decide), fun _ => e1⟩
    clear e1 HD
    have hy0 : (ep == c.epoch) = false := by simpa using hy
    have hy1 : (ep != c.epoch) = true := by simpa using hy
    clear hy
  all_goals
    cases hse : c.sealed
    case' false =>
      have hd : c.open = (zeroCh, 4) := by unfold Ch.open; rw [if_neg (by simp [HE.out]), if_pos hse]
      rw [HO.out] at hd
      injection hd with e1 e2
      subst e2
      have FO : Fits 4 O (⟨c.epoch + 1, false, c.cut, c.cells⟩ : Ch) := ⟨fun h => absurd h (by decide), fun _ => e1⟩
      clear e1 HO
      have hs0 : (!c.sealed) = true := by rw [hse]; rfl
      clear hse
    case' true =>
      by_cases h99 : c.epoch = 99
      case' pos =>
        have hd : c.open = (zeroCh, 2) := by unfold Ch.open; rw [if_neg (by simp [HE.out]), if_neg (by simp [hse]), if_pos h99]
        rw [HO.out] at hd
        injection hd with e1 e2
        subst e2
        have FO : Fits 2 O (⟨c.epoch + 1, false, c.cut, c.cells⟩ : Ch) := ⟨fun h => absurd h (by decide), fun _ => e1⟩
        clear e1 HO
        have hs0 : (!c.sealed) = false := by rw [hse]; rfl
        have h90 : (c.epoch == 99) = true := by simpa using h99
        clear hse h99
      case' neg =>
        have hd : c.open = ((⟨c.epoch + 1, false, c.cut, c.cells⟩ : Ch), 0) := by unfold Ch.open; rw [if_neg (by simp [HE.out]), if_neg (by simp [hse]), if_neg h99]
        rw [HO.out] at hd
        injection hd with e1 e2
        subst e2
        have FO : Fits 0 O (⟨c.epoch + 1, false, c.cut, c.cells⟩ : Ch) := ⟨fun _ => e1, fun h => absurd rfl h⟩
        clear e1 HO
        have hs0 : (!c.sealed) = false := by rw [hse]; rfl
        have h90 : (c.epoch == 99) = false := by simpa using h99
        clear hse h99
    all_goals
      have qb := grow_block G8 q8.out
      have q0 := cell_of_block (o := 0) qb rfl; simp at q0
      have q1 := cell_of_block (o := 1) qb rfl; simp at q1
      have q2 := cell_of_block (o := 2) qb rfl; simp at q2
      have q3 := cell_of_block (o := 3) qb rfl; simp at q3
      go_wp2_with fail
      clear q0 q1 q2 q3
      clear qb hs0 hy0 hy1
      have g : Grow V20 V20.drew := (Grow.refl V20).drew
      replace G8 := G8.trans g
      replace z0 := grow_block g z0
      replace z1 := grow_block g z1
      replace z2 := grow_block g z2
      replace z3 := grow_block g z3
      replace z4 := grow_block g z4
      replace RA := hold (RA.out.grow g)
      replace RB := hold (RB.out.grow g)
      clear g
      obtain ⟨TS, hTS⟩ : ∃ TS : Ch, TS = ⟨c.epoch, c.sealed, max c.cut p, c.cells.drop (max c.cut p - c.cut).toNat⟩ := ⟨_, rfl⟩
      have hcon := refTrim_any c a cap p _ (HC.out.grow (HG8.out.trans G8)) HE.out
      have hcells : c.cells.drop (max c.cut p - c.cut).toNat = TS.cells := by rw [hTS]
      rw [← hTS, hcells] at hcon
      clear hcells
      have HTS := hold hTS
      clear hTS
      refine hcon.mono ?_
      clear hcon
      rintro e w12 ⟨a12, cap12, rfl, g, C⟩
      replace G8 := G8.trans g
      replace z0 := grow_block g z0
      replace z1 := grow_block g z1
      replace z2 := grow_block g z2
      replace z3 := grow_block g z3
      replace z4 := grow_block g z4
      replace RA := hold (RA.out.grow g)
      replace RB := hold (RB.out.grow g)
      clear g
      unfold Ch.val
      simp only
      have d0 := cell_of_block (o := 0) z4 rfl; simp at d0
      have d1 := cell_of_block (o := 1) z4 rfl; simp at d1
      have d2 := cell_of_block (o := 2) z4 rfl; simp at d2
      have d3 := cell_of_block (o := 3) z4 rfl; simp at d3
      have f0 := free_of_block z4 0
      have f1 := free_of_block z4 1
      have f2 := free_of_block z4 2
      have f3 := free_of_block z4 3
      iterate 4 (first | go_skip | go_guarded | go_step | go_upon)
      clear d0 d1 d2 d3 f0 f1 f2 f3
      replace RA := hold (chain_cells RA.out z4 (.int .i64 TS.epoch) (.bool TS.sealed) (.int .i64 TS.cut) (.slice a12 TS.cells.length cap12))
      replace RB := hold (chain_cells RB.out z4 (.int .i64 TS.epoch) (.bool TS.sealed) (.int .i64 TS.cut) (.slice a12 TS.cells.length cap12))
      have RT := hold (chain_cells C z4 (.int .i64 TS.epoch) (.bool TS.sealed) (.int .i64 TS.cut) (.slice a12 TS.cells.length cap12))
      clear C
      replace z0 := lay_far (b := w8.heap.size + 1 + 1 + 1 + 1) z0 (by omega) (.int .i64 TS.epoch) (.bool TS.sealed) (.int .i64 TS.cut) (.slice a12 TS.cells.length cap12)
      replace z1 := lay_far (b := w8.heap.size + 1 + 1 + 1 + 1) z1 (by omega) (.int .i64 TS.epoch) (.bool TS.sealed) (.int .i64 TS.cut) (.slice a12 TS.cells.length cap12)
      replace z2 := lay_far (b := w8.heap.size + 1 + 1 + 1 + 1) z2 (by omega) (.int .i64 TS.epoch) (.bool TS.sealed) (.int .i64 TS.cut) (.slice a12 TS.cells.length cap12)
      replace z3 := lay_far (b := w8.heap.size + 1 + 1 + 1 + 1) z3 (by omega) (.int .i64 TS.epoch) (.bool TS.sealed) (.int .i64 TS.cut) (.slice a12 TS.cells.length cap12)
      replace z4 := lay_block z4 (.int .i64 TS.epoch) (.bool TS.sealed) (.int .i64 TS.cut) (.slice a12 TS.cells.length cap12)
      replace G8 := lay_grow (b := w8.heap.size + 1 + 1 + 1 + 1) G8 (by omega) (.int .i64 TS.epoch) (.bool TS.sealed) (.int .i64 TS.cut) (.slice a12 TS.cells.length cap12)
      generalize ((((w12.setCell ⟨w8.heap.size + 1 + 1 + 1 + 1, 0, none⟩ (.int .i64 TS.epoch)).setCell ⟨w8.heap.size + 1 + 1 + 1 + 1, 1, none⟩ (.bool TS.sealed)).setCell ⟨w8.heap.size + 1 + 1 + 1 + 1, 2, none⟩ (.int .i64 TS.cut)).setCell ⟨w8.heap.size + 1 + 1 + 1 + 1, 3, none⟩ (.slice a12 TS.cells.length cap12)) = V27 at *
      by_cases hq : p < 0 ∨ 30 < p
      case' pos =>
        have hd : c.trim p = (zeroCh, 3) := by exact trim_bad HE.out hq
        rw [HT.out] at hd
        injection hd with e1 e2
        subst e2
        have FT : Fits 3 T TS := ⟨fun h => absurd h (by decide), fun _ => e1⟩
        clear e1 HT
        rcases hq with hq | hq
        case' inl =>
          have hq0 : decide (p < 0) = true := by simpa using hq
          clear hq
        case' inr =>
          have hq0 : decide (p < 0) = false := by simp; omega
          have hq1 : decide (30 < p) = true := by simpa using hq
          clear hq
      case' neg =>
        have hd : c.trim p = (TS, 0) := by rw [trim_fine HE.out hq, HTS.out]
        rw [HT.out] at hd
        injection hd with e1 e2
        subst e2
        have FT : Fits 0 T TS := ⟨fun _ => e1, fun h => absurd rfl h⟩
        clear e1 HT
        have hq0 : decide (p < 0) = false := by simp; omega
        have hq1 : decide (30 < p) = false := by simp; omega
        clear hq
      all_goals
        go_wp2_with fail
        refine (chainBegun_any _).mono ?_
        rintro e u1 ⟨rfl, g⟩
        replace G8 := G8.trans g
        replace z0 := grow_block g z0
        replace z1 := grow_block g z1
        replace z2 := grow_block g z2
        replace z3 := grow_block g z3
        replace z4 := grow_block g z4
        replace RA := hold (RA.out.grow g)
        replace RB := hold (RB.out.grow g)
        replace RT := hold (RT.out.grow g)
        clear g
        have qb := grow_block G8 q8.out
        have q0 := cell_of_block (o := 0) qb rfl; simp at q0
        have q1 := cell_of_block (o := 1) qb rfl; simp at q1
        have q2 := cell_of_block (o := 2) qb rfl; simp at q2
        have q3 := cell_of_block (o := 3) qb rfl; simp at q3
        go_wp2_with fail
        clear q0 q1 q2 q3
        clear qb
        refine (check_any c a cap _ (HC.out.grow (HG8.out.trans G8))).mono ?_
        rw [HE.out]
        rintro e u2 ⟨rfl, g⟩
        replace G8 := G8.trans g
        replace z0 := grow_block g z0
        replace z1 := grow_block g z1
        replace z2 := grow_block g z2
        replace z3 := grow_block g z3
        replace z4 := grow_block g z4
        replace RA := hold (RA.out.grow g)
        replace RB := hold (RB.out.grow g)
        replace RT := hold (RT.out.grow g)
        clear g
        have bb := grow_block G8 kA.out
        have m0 := cell_of_block (o := 0) bb rfl; simp at m0
        have m1 := cell_of_block (o := 1) bb rfl; simp at m1
        have m2 := cell_of_block (o := 2) bb rfl; simp at m2
        have m3 := cell_of_block (o := 3) bb rfl; simp at m3
        have n0 := cell_of_block (o := 0) z0 rfl; simp at n0
        have n1 := cell_of_block (o := 1) z0 rfl; simp at n1
        have n2 := cell_of_block (o := 2) z0 rfl; simp at n2
        have n3 := cell_of_block (o := 3) z0 rfl; simp at n3
        go_wp2_with fail
        clear m0 m1 m2 m3 n0 n1 n2 n3
        clear bb
        refine (chainIs_any A A aA _ capA _ _ _ (CA.out.grow G8) RA.out (fun _ => rfl) (fun h => write_bad HA.out h)).mono ?_
        rintro e u3 ⟨rfl, g⟩
        replace G8 := G8.trans g
        replace z0 := grow_block g z0
        replace z1 := grow_block g z1
        replace z2 := grow_block g z2
        replace z3 := grow_block g z3
        replace z4 := grow_block g z4
        replace RA := hold (RA.out.grow g)
        replace RB := hold (RB.out.grow g)
        replace RT := hold (RT.out.grow g)
        clear g
        have bb := grow_block G8 kB.out
        have m0 := cell_of_block (o := 0) bb rfl; simp at m0
        have m1 := cell_of_block (o := 1) bb rfl; simp at m1
        have m2 := cell_of_block (o := 2) bb rfl; simp at m2
        have m3 := cell_of_block (o := 3) bb rfl; simp at m3
        have n0 := cell_of_block (o := 0) z1 rfl; simp at n0
        have n1 := cell_of_block (o := 1) z1 rfl; simp at n1
        have n2 := cell_of_block (o := 2) z1 rfl; simp at n2
        have n3 := cell_of_block (o := 3) z1 rfl; simp at n3
        go_wp2_with fail
        clear m0 m1 m2 m3 n0 n1 n2 n3
        clear bb
        refine (chainIs_any B B aB _ capB _ _ _ (CB.out.grow G8) RB.out (fun _ => rfl) (fun h => write_bad HB.out h)).mono ?_
        rintro e u4 ⟨rfl, g⟩
        replace G8 := G8.trans g
        replace z0 := grow_block g z0
        replace z1 := grow_block g z1
        replace z2 := grow_block g z2
        replace z3 := grow_block g z3
        replace z4 := grow_block g z4
        replace RA := hold (RA.out.grow g)
        replace RB := hold (RB.out.grow g)
        replace RT := hold (RT.out.grow g)
        clear g
        have bb := grow_block G8 kD.out
        have m0 := cell_of_block (o := 0) bb rfl; simp at m0
        have m1 := cell_of_block (o := 1) bb rfl; simp at m1
        have m2 := cell_of_block (o := 2) bb rfl; simp at m2
        have m3 := cell_of_block (o := 3) bb rfl; simp at m3
        have n0 := cell_of_block (o := 0) z2 rfl; simp at n0
        have n1 := cell_of_block (o := 1) z2 rfl; simp at n1
        have n2 := cell_of_block (o := 2) z2 rfl; simp at n2
        have n3 := cell_of_block (o := 3) z2 rfl; simp at n3
        go_wp2_with fail
        clear m0 m1 m2 m3 n0 n1 n2 n3
        clear bb
        refine (chainIs_any D (⟨c.epoch, true, c.cut, c.cells⟩ : Ch) aD _ capD _ _ _ (CD.out.grow G8) (HC.out.grow (HG8.out.trans G8)) FD.same FD.none).mono ?_
        rintro e u5 ⟨rfl, g⟩
        replace G8 := G8.trans g
        replace z0 := grow_block g z0
        replace z1 := grow_block g z1
        replace z2 := grow_block g z2
        replace z3 := grow_block g z3
        replace z4 := grow_block g z4
        replace RA := hold (RA.out.grow g)
        replace RB := hold (RB.out.grow g)
        replace RT := hold (RT.out.grow g)
        clear g
        have bb := grow_block G8 kO.out
        have m0 := cell_of_block (o := 0) bb rfl; simp at m0
        have m1 := cell_of_block (o := 1) bb rfl; simp at m1
        have m2 := cell_of_block (o := 2) bb rfl; simp at m2
        have m3 := cell_of_block (o := 3) bb rfl; simp at m3
        have n0 := cell_of_block (o := 0) z3 rfl; simp at n0
        have n1 := cell_of_block (o := 1) z3 rfl; simp at n1
        have n2 := cell_of_block (o := 2) z3 rfl; simp at n2
        have n3 := cell_of_block (o := 3) z3 rfl; simp at n3
        go_wp2_with fail
        clear m0 m1 m2 m3 n0 n1 n2 n3
        clear bb
        refine (chainIs_any O (⟨c.epoch + 1, false, c.cut, c.cells⟩ : Ch) aO _ capO _ _ _ (CO.out.grow G8) (HC.out.grow (HG8.out.trans G8)) FO.same FO.none).mono ?_
        rintro e u6 ⟨rfl, g⟩
        replace G8 := G8.trans g
        replace z0 := grow_block g z0
        replace z1 := grow_block g z1
        replace z2 := grow_block g z2
        replace z3 := grow_block g z3
        replace z4 := grow_block g z4
        replace RA := hold (RA.out.grow g)
        replace RB := hold (RB.out.grow g)
        replace RT := hold (RT.out.grow g)
        clear g
        have bb := grow_block G8 kT.out
        have m0 := cell_of_block (o := 0) bb rfl; simp at m0
        have m1 := cell_of_block (o := 1) bb rfl; simp at m1
        have m2 := cell_of_block (o := 2) bb rfl; simp at m2
        have m3 := cell_of_block (o := 3) bb rfl; simp at m3
        have n0 := cell_of_block (o := 0) z4 rfl; simp at n0
        have n1 := cell_of_block (o := 1) z4 rfl; simp at n1
        have n2 := cell_of_block (o := 2) z4 rfl; simp at n2
        have n3 := cell_of_block (o := 3) z4 rfl; simp at n3
        go_wp2_with fail
        clear m0 m1 m2 m3 n0 n1 n2 n3
        clear bb
        refine (chainIs_any T TS aT _ capT _ _ _ (CT.out.grow G8) RT.out FT.same FT.none).mono ?_
        rintro e u7 ⟨rfl, g⟩
        replace G8 := G8.trans g
        replace z0 := grow_block g z0
        replace z1 := grow_block g z1
        replace z2 := grow_block g z2
        replace z3 := grow_block g z3
        replace z4 := grow_block g z4
        replace RA := hold (RA.out.grow g)
        replace RB := hold (RB.out.grow g)
        replace RT := hold (RT.out.grow g)
        clear g
        have GG := HG8.out.trans G8
        go_wp2
        go_ret
        exact ⟨rfl, GG⟩
end Go.Proofs.Ytikdncgjaomlcaa
