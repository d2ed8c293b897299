/- cutwaterlaw.EntryTells answers true, whatever it is handed. -/
import Derived.Test.YtikdncgjaomlcaaR4
import Derived.Test.YtikdncgjaomlcaaK
namespace Go.Proofs.Ytikdncgjaomlcaa
open Go.RowKit

/-- What Encode tells. -/
def encOut (r n c : Int) (s : ByteArray) (len : Nat) (R N : Nat → Int) : ByteArray := if checkErr r n c s.size len R N = 0 then encStr r n c s len R N else ⟨#[]⟩
theorem encode_all (r n c : Int) (s : ByteArray) (a : Option Addr) (len cap : Nat) (R N : Nat → Int) (w : World) (hids : IdsAt w a len R N) (hs : s.size ≤ 9223372036854775807) :
    Calls Try.prog 9 #[.agg #[.int .i64 r, .int .i64 n, .int .i64 c, .string s, .slice a len cap]] w fun e w' => e = .returned (.tuple #[.string (encOut r n c s len R N), .int .i64 (checkErr r n c s.size len R N)]) ∧ Grow w w' := by
  unfold encOut
  by_cases h : checkErr r n c s.size len R N = 0
  · rw [if_pos h, h]; exact encode_ok r n c s a len cap R N w hids h
  · rw [if_neg h]; exact encode_err r n c s a len cap R N w hids hs h
/-- What is decoded, or nothing. -/
def decAt (s : ByteArray) (p : Nat) : Nat := if decErr s = 0 then bAt s p else 0
def decText (s : ByteArray) : ByteArray := if decErr s = 0 then entryText s else ⟨#[]⟩
def decSize (s : ByteArray) : Nat := if decErr s = 0 then entrySize s else 0
theorem decode_all (s : ByteArray) (w : World) (hs : s.size ≤ 1152921504606846976) :
    Calls Try.prog 10 #[.string s] w fun e w' => ∃ a cap, e = .returned (.tuple #[.agg #[.int .i64 (decAt s 0), .int .i64 (decAt s 1), .int .i64 (decAt s 2), .string (decText s), .slice a (decAt s 3) cap], .int .i64 (decSize s), .int .i64 (decErr s)]) ∧ Grow w w' ∧ IdsAt w' a (decAt s 3) (entryR s) (entryN s) := by
  unfold decAt decText decSize
  by_cases h : decErr s = 0
  · simp only [h, if_true]; exact decode_ok s w hs h
  · simp only [h, if_false]
    refine (decode_err s w hs h).mono ?_
    rintro e w1 ⟨rfl, g⟩
    exact ⟨none, 0, rfl, g, by omega, .inl rfl⟩
theorem entryOf_all (s : ByteArray) (w : World) (hs : s.size ≤ 1152921504606846976) :
    Calls Try.prog 13 #[.string s] w fun e w' => ∃ a cap, e = .returned (.tuple #[.agg #[.int .i64 (decAt s 0), .int .i64 (decAt s 1), .int .i64 (decAt s 2), .string (decText s), .slice a (decAt s 3) cap], .int .i64 (decSize s), .int .i64 (decErr s)]) ∧ Grow w w' ∧ IdsAt w' a (decAt s 3) (entryR s) (entryN s) := by
  unfold decAt decText decSize
  refine (entryOf_any s w hs).mono ?_
  rintro e w1 ⟨g, ⟨h, rfl⟩ | ⟨h, a, cap, rfl, hi⟩⟩
  · simp only [h, if_false]
    exact ⟨none, 0, rfl, g, by omega, .inl rfl⟩
  · simp only [h, if_true]
    exact ⟨a, cap, rfl, g, hi⟩

set_option maxHeartbeats 8000000 in
theorem entryTells_walk (r n c : Int) (s : ByteArray) (a : Option Addr) (len cap : Nat) (R N : Nat → Int) (t : ByteArray) (pr pn qr qn : Int) (w : World) (hids : IdsAt w a len R N) (hs : s.size ≤ 9223372036854775807) (ht : t.size ≤ 1152921504606846976) :
    Calls Try.prog 3 #[.agg #[.int .i64 r, .int .i64 n, .int .i64 c, .string s, .slice a len cap], .string t, .agg #[.int .i64 pr, .int .i64 pn], .agg #[.int .i64 qr, .int .i64 qn]] w fun e w' => e = .returned (.bool true) ∧ Grow w w' := by
  have HI : Hid (IdsAt w a len R N) := hids
  clear hids
  go_enter Try.func3, Try.ntmps3
  go_wp2_with fail
  have c0 : (((w.alloc (Obj.cells #[Value.int IntKind.i64 r, Value.int IntKind.i64 n, Value.int IntKind.i64 c, Value.string s, Value.slice a len cap] 26)).alloc (Obj.cells #[Value.int IntKind.i64 pr, Value.int IntKind.i64 pn] 23)).alloc (Obj.cells #[Value.int IntKind.i64 qr, Value.int IntKind.i64 qn] 23)).cell? ⟨w.heap.size, 0, none⟩ = some (.int .i64 r) := by simp [go_sem]
  have c1 : (((w.alloc (Obj.cells #[Value.int IntKind.i64 r, Value.int IntKind.i64 n, Value.int IntKind.i64 c, Value.string s, Value.slice a len cap] 26)).alloc (Obj.cells #[Value.int IntKind.i64 pr, Value.int IntKind.i64 pn] 23)).alloc (Obj.cells #[Value.int IntKind.i64 qr, Value.int IntKind.i64 qn] 23)).cell? ⟨w.heap.size, 1, none⟩ = some (.int .i64 n) := by simp [go_sem]
  have c2 : (((w.alloc (Obj.cells #[Value.int IntKind.i64 r, Value.int IntKind.i64 n, Value.int IntKind.i64 c, Value.string s, Value.slice a len cap] 26)).alloc (Obj.cells #[Value.int IntKind.i64 pr, Value.int IntKind.i64 pn] 23)).alloc (Obj.cells #[Value.int IntKind.i64 qr, Value.int IntKind.i64 qn] 23)).cell? ⟨w.heap.size, 2, none⟩ = some (.int .i64 c) := by simp [go_sem]
  have c3 : (((w.alloc (Obj.cells #[Value.int IntKind.i64 r, Value.int IntKind.i64 n, Value.int IntKind.i64 c, Value.string s, Value.slice a len cap] 26)).alloc (Obj.cells #[Value.int IntKind.i64 pr, Value.int IntKind.i64 pn] 23)).alloc (Obj.cells #[Value.int IntKind.i64 qr, Value.int IntKind.i64 qn] 23)).cell? ⟨w.heap.size, 3, none⟩ = some (.string s) := by simp [go_sem]
  have c4 : (((w.alloc (Obj.cells #[Value.int IntKind.i64 r, Value.int IntKind.i64 n, Value.int IntKind.i64 c, Value.string s, Value.slice a len cap] 26)).alloc (Obj.cells #[Value.int IntKind.i64 pr, Value.int IntKind.i64 pn] 23)).alloc (Obj.cells #[Value.int IntKind.i64 qr, Value.int IntKind.i64 qn] 23)).cell? ⟨w.heap.size, 4, none⟩ = some (.slice a len cap) := by simp [go_sem]
  have a0 : (((w.alloc (Obj.cells #[Value.int IntKind.i64 r, Value.int IntKind.i64 n, Value.int IntKind.i64 c, Value.string s, Value.slice a len cap] 26)).alloc (Obj.cells #[Value.int IntKind.i64 pr, Value.int IntKind.i64 pn] 23)).alloc (Obj.cells #[Value.int IntKind.i64 qr, Value.int IntKind.i64 qn] 23)).cell? ⟨w.heap.size + 1, 0, none⟩ = some (.int .i64 pr) := by simp [go_sem]
  have a1 : (((w.alloc (Obj.cells #[Value.int IntKind.i64 r, Value.int IntKind.i64 n, Value.int IntKind.i64 c, Value.string s, Value.slice a len cap] 26)).alloc (Obj.cells #[Value.int IntKind.i64 pr, Value.int IntKind.i64 pn] 23)).alloc (Obj.cells #[Value.int IntKind.i64 qr, Value.int IntKind.i64 qn] 23)).cell? ⟨w.heap.size + 1, 1, none⟩ = some (.int .i64 pn) := by simp [go_sem]
  have b0 : (((w.alloc (Obj.cells #[Value.int IntKind.i64 r, Value.int IntKind.i64 n, Value.int IntKind.i64 c, Value.string s, Value.slice a len cap] 26)).alloc (Obj.cells #[Value.int IntKind.i64 pr, Value.int IntKind.i64 pn] 23)).alloc (Obj.cells #[Value.int IntKind.i64 qr, Value.int IntKind.i64 qn] 23)).cell? ⟨w.heap.size + 2, 0, none⟩ = some (.int .i64 qr) := by simp [go_sem]
  have b1 : (((w.alloc (Obj.cells #[Value.int IntKind.i64 r, Value.int IntKind.i64 n, Value.int IntKind.i64 c, Value.string s, Value.slice a len cap] 26)).alloc (Obj.cells #[Value.int IntKind.i64 pr, Value.int IntKind.i64 pn] 23)).alloc (Obj.cells #[Value.int IntKind.i64 qr, Value.int IntKind.i64 qn] 23)).cell? ⟨w.heap.size + 2, 1, none⟩ = some (.int .i64 qn) := by simp [go_sem]
  have G : Grow w (((w.alloc (Obj.cells #[Value.int IntKind.i64 r, Value.int IntKind.i64 n, Value.int IntKind.i64 c, Value.string s, Value.slice a len cap] 26)).alloc (Obj.cells #[Value.int IntKind.i64 pr, Value.int IntKind.i64 pn] 23)).alloc (Obj.cells #[Value.int IntKind.i64 qr, Value.int IntKind.i64 qn] 23)) := (((Grow.refl _).alloc _).alloc _).alloc _
  have i0 := HI.out.grow G
  generalize (((w.alloc (Obj.cells #[Value.int IntKind.i64 r, Value.int IntKind.i64 n, Value.int IntKind.i64 c, Value.string s, Value.slice a len cap] 26)).alloc (Obj.cells #[Value.int IntKind.i64 pr, Value.int IntKind.i64 pn] 23)).alloc (Obj.cells #[Value.int IntKind.i64 qr, Value.int IntKind.i64 qn] 23)) = W0 at *
  refine (encode_all r n c s a len cap R N _ i0 hs).mono ?_
  rintro e w1 ⟨rfl, g1⟩
  replace c0 := cell_grow g1 c0; replace c1 := cell_grow g1 c1; replace c2 := cell_grow g1 c2; replace c3 := cell_grow g1 c3; replace c4 := cell_grow g1 c4; replace a0 := cell_grow g1 a0; replace a1 := cell_grow g1 a1; replace b0 := cell_grow g1 b0; replace b1 := cell_grow g1 b1; replace i0 := i0.grow g1; replace G := G.trans g1; clear g1
  go_wp2_with fail
  refine (decode_all t _ ht).mono ?_
  rintro e w2 ⟨ax, capx, rfl, g2, ix⟩
  replace c0 := cell_grow g2 c0; replace c1 := cell_grow g2 c1; replace c2 := cell_grow g2 c2; replace c3 := cell_grow g2 c3; replace c4 := cell_grow g2 c4; replace a0 := cell_grow g2 a0; replace a1 := cell_grow g2 a1; replace b0 := cell_grow g2 b0; replace b1 := cell_grow g2 b1; replace i0 := i0.grow g2; replace G := G.trans g2; clear g2
  have gx : Grow w2 (w2.alloc (Obj.cells #[.int .i64 (decAt t 0), .int .i64 (decAt t 1), .int .i64 (decAt t 2), .string (decText t), .slice ax (decAt t 3) capx] 26)) := (Grow.refl w2).alloc _
  have nb := heap_alloc_new w2 (Obj.cells #[.int .i64 (decAt t 0), .int .i64 (decAt t 1), .int .i64 (decAt t 2), .string (decText t), .slice ax (decAt t 3) capx] 26)
  have x0 := cell_of_block (o := 0) nb rfl
  have x1 := cell_of_block (o := 1) nb rfl
  have x2 := cell_of_block (o := 2) nb rfl
  have x3 := cell_of_block (o := 3) nb rfl
  have x4 := cell_of_block (o := 4) nb rfl
  replace c0 := cell_grow gx c0; replace c1 := cell_grow gx c1; replace c2 := cell_grow gx c2; replace c3 := cell_grow gx c3; replace c4 := cell_grow gx c4; replace a0 := cell_grow gx a0; replace a1 := cell_grow gx a1; replace b0 := cell_grow gx b0; replace b1 := cell_grow gx b1; replace i0 := i0.grow gx; replace ix := ix.grow gx; replace G := G.trans gx; clear gx nb
  go_wp2_with fail
  generalize (w2.alloc (Obj.cells #[.int .i64 (decAt t 0), .int .i64 (decAt t 1), .int .i64 (decAt t 2), .string (decText t), .slice ax (decAt t 3) capx] 26)) = W2 at *
  refine (refCheck_any r n c s a len cap R N _ i0 hs).mono ?_
  rintro e w3 ⟨rfl, g3⟩
  replace c0 := cell_grow g3 c0; replace c1 := cell_grow g3 c1; replace c2 := cell_grow g3 c2; replace c3 := cell_grow g3 c3; replace c4 := cell_grow g3 c4; replace a0 := cell_grow g3 a0; replace a1 := cell_grow g3 a1; replace b0 := cell_grow g3 b0; replace b1 := cell_grow g3 b1; replace x0 := cell_grow g3 x0; replace x1 := cell_grow g3 x1; replace x2 := cell_grow g3 x2; replace x3 := cell_grow g3 x3; replace x4 := cell_grow g3 x4; replace i0 := i0.grow g3; replace ix := ix.grow g3; replace G := G.trans g3; clear g3
  generalize hE : checkErr r n c s.size len R N = E at *
  have HE : Hid (checkErr r n c s.size len R N = E) := hE
  have HO : Hid (encOut r n c s len R N = if E = 0 then encStr r n c s len R N else ⟨#[]⟩) := by rw [← hE]; rfl
  clear hE
  by_cases h0 : E = 0
  · subst h0
    rw [if_pos rfl] at HO
    go_wp2_with fail
    refine (entryBytes_any r n c s a len cap R N _ i0 HE.out).mono ?_
    rintro e w4 ⟨rfl, g4⟩
    replace c0 := cell_grow g4 c0; replace c1 := cell_grow g4 c1; replace c2 := cell_grow g4 c2; replace c3 := cell_grow g4 c3; replace c4 := cell_grow g4 c4; replace a0 := cell_grow g4 a0; replace a1 := cell_grow g4 a1; replace b0 := cell_grow g4 b0; replace b1 := cell_grow g4 b1; replace x0 := cell_grow g4 x0; replace x1 := cell_grow g4 x1; replace x2 := cell_grow g4 x2; replace x3 := cell_grow g4 x3; replace x4 := cell_grow g4 x4; replace i0 := i0.grow g4; replace ix := ix.grow g4; replace G := G.trans g4; clear g4
    rw [HO.out]
    go_wp2_with fail
    refine (entryOf_all t _ ht).mono ?_
    rintro e w5 ⟨ay, capy, rfl, g5, iy⟩
    replace c0 := cell_grow g5 c0; replace c1 := cell_grow g5 c1; replace c2 := cell_grow g5 c2; replace c3 := cell_grow g5 c3; replace c4 := cell_grow g5 c4; replace a0 := cell_grow g5 a0; replace a1 := cell_grow g5 a1; replace b0 := cell_grow g5 b0; replace b1 := cell_grow g5 b1; replace x0 := cell_grow g5 x0; replace x1 := cell_grow g5 x1; replace x2 := cell_grow g5 x2; replace x3 := cell_grow g5 x3; replace x4 := cell_grow g5 x4; replace i0 := i0.grow g5; replace ix := ix.grow g5; replace G := G.trans g5; clear g5
    have gx : Grow w5 (w5.alloc (Obj.cells #[.int .i64 (decAt t 0), .int .i64 (decAt t 1), .int .i64 (decAt t 2), .string (decText t), .slice ay (decAt t 3) capy] 26)) := (Grow.refl w5).alloc _
    have nb := heap_alloc_new w5 (Obj.cells #[.int .i64 (decAt t 0), .int .i64 (decAt t 1), .int .i64 (decAt t 2), .string (decText t), .slice ay (decAt t 3) capy] 26)
    have y0 := cell_of_block (o := 0) nb rfl
    have y1 := cell_of_block (o := 1) nb rfl
    have y2 := cell_of_block (o := 2) nb rfl
    have y3 := cell_of_block (o := 3) nb rfl
    have y4 := cell_of_block (o := 4) nb rfl
    replace c0 := cell_grow gx c0; replace c1 := cell_grow gx c1; replace c2 := cell_grow gx c2; replace c3 := cell_grow gx c3; replace c4 := cell_grow gx c4; replace a0 := cell_grow gx a0; replace a1 := cell_grow gx a1; replace b0 := cell_grow gx b0; replace b1 := cell_grow gx b1; replace x0 := cell_grow gx x0; replace x1 := cell_grow gx x1; replace x2 := cell_grow gx x2; replace x3 := cell_grow gx x3; replace x4 := cell_grow gx x4; replace i0 := i0.grow gx; replace ix := ix.grow gx; replace iy := iy.grow gx; replace G := G.trans gx; clear gx nb
    go_wp2_with fail
    generalize (w5.alloc (Obj.cells #[.int .i64 (decAt t 0), .int .i64 (decAt t 1), .int .i64 (decAt t 2), .string (decText t), .slice ay (decAt t 3) capy] 26)) = W5 at *
    have hgd : Grow W5 W5.drew := (Grow.refl W5).drew
    replace c0 := cell_grow hgd c0; replace c1 := cell_grow hgd c1; replace c2 := cell_grow hgd c2; replace c3 := cell_grow hgd c3; replace c4 := cell_grow hgd c4; replace a0 := cell_grow hgd a0; replace a1 := cell_grow hgd a1; replace b0 := cell_grow hgd b0; replace b1 := cell_grow hgd b1; replace x0 := cell_grow hgd x0; replace x1 := cell_grow hgd x1; replace x2 := cell_grow hgd x2; replace x3 := cell_grow hgd x3; replace x4 := cell_grow hgd x4; replace y0 := cell_grow hgd y0; replace y1 := cell_grow hgd y1; replace y2 := cell_grow hgd y2; replace y3 := cell_grow hgd y3; replace y4 := cell_grow hgd y4; replace i0 := i0.grow hgd; replace ix := ix.grow hgd; replace iy := iy.grow hgd; replace G := G.trans hgd; clear hgd
    refine wp_region_path [(0, 1), (1, 0), (2, 0), (3, 0), (5, 0), (6, 0), (4, 1), (7, 1), (8, 2), (9, 0), (10, 0), (11, 0), (13, 0), (12, 1), (14, 2), (15, 0), (16, 0), (17, 0), (18, 0), (19, 2), (20, 0), (21, 0), (22, 0), (23, 0), (24, 2), (25, 0), (26, 0), (27, 0), (28, 0), (29, 2), (30, 0), (31, 0), (32, 0), (33, 0), (34, 2), (35, 0), (36, 0), (37, 0), (38, 0), (39, 1), (40, 0), (41, 0)] (by kernel_rfl) (by kernel_rfl) (by kernel_rfl) (by kernel_rfl) ?_
    simp only [parts, headed, headed2, List.getElem?_toArray, List.getElem?_cons_zero, List.getElem?_cons_succ]
    refine parts_step fun K HK => ?_
    go_wp2_with fail
    refine (entryBegun_any _).mono ?_
    rintro e w100 ⟨rfl, hg⟩
    replace c0 := cell_grow hg c0
    replace c1 := cell_grow hg c1
    replace c2 := cell_grow hg c2
    replace c3 := cell_grow hg c3
    replace c4 := cell_grow hg c4
    replace a0 := cell_grow hg a0
    replace a1 := cell_grow hg a1
    replace b0 := cell_grow hg b0
    replace b1 := cell_grow hg b1
    replace x0 := cell_grow hg x0
    replace x1 := cell_grow hg x1
    replace x2 := cell_grow hg x2
    replace x3 := cell_grow hg x3
    replace x4 := cell_grow hg x4
    replace y0 := cell_grow hg y0
    replace y1 := cell_grow hg y1
    replace y2 := cell_grow hg y2
    replace y3 := cell_grow hg y3
    replace y4 := cell_grow hg y4
    replace i0 := i0.grow hg
    replace ix := ix.grow hg
    replace iy := iy.grow hg
    replace G := G.trans hg
    go_wp2_with fail
    refine HK.out _ _ hg ?_
    clear HK K
    refine parts_step fun K HK => ?_
    go_wp2_with fail
    refine (less_any _ _ _ _ _).mono ?_
    rintro e w104 ⟨rfl, hg⟩
    replace c0 := cell_grow hg c0
    replace c1 := cell_grow hg c1
    replace c2 := cell_grow hg c2
    replace c3 := cell_grow hg c3
    replace c4 := cell_grow hg c4
    replace a0 := cell_grow hg a0
    replace a1 := cell_grow hg a1
    replace b0 := cell_grow hg b0
    replace b1 := cell_grow hg b1
    replace x0 := cell_grow hg x0
    replace x1 := cell_grow hg x1
    replace x2 := cell_grow hg x2
    replace x3 := cell_grow hg x3
    replace x4 := cell_grow hg x4
    replace y0 := cell_grow hg y0
    replace y1 := cell_grow hg y1
    replace y2 := cell_grow hg y2
    replace y3 := cell_grow hg y3
    replace y4 := cell_grow hg y4
    replace i0 := i0.grow hg
    replace ix := ix.grow hg
    replace iy := iy.grow hg
    replace G := G.trans hg
    go_wp2_with fail
    refine HK.out _ _ hg ?_
    clear HK K
    refine parts_step fun K HK => ?_
    go_wp2_with fail
    refine (refAhead_any _ _ _ _ _).mono ?_
    rintro e w107 ⟨rfl, hg⟩
    replace c0 := cell_grow hg c0
    replace c1 := cell_grow hg c1
    replace c2 := cell_grow hg c2
    replace c3 := cell_grow hg c3
    replace c4 := cell_grow hg c4
    replace a0 := cell_grow hg a0
    replace a1 := cell_grow hg a1
    replace b0 := cell_grow hg b0
    replace b1 := cell_grow hg b1
    replace x0 := cell_grow hg x0
    replace x1 := cell_grow hg x1
    replace x2 := cell_grow hg x2
    replace x3 := cell_grow hg x3
    replace x4 := cell_grow hg x4
    replace y0 := cell_grow hg y0
    replace y1 := cell_grow hg y1
    replace y2 := cell_grow hg y2
    replace y3 := cell_grow hg y3
    replace y4 := cell_grow hg y4
    replace i0 := i0.grow hg
    replace ix := ix.grow hg
    replace iy := iy.grow hg
    replace G := G.trans hg
    go_wp2_with fail
    refine HK.out _ _ hg ?_
    clear HK K
    refine parts_step2 (fun hw => by first | (cases hw; done) | (apply looks_run; intro w'; go_simp; try first | rfl | rw [if_neg (by omega)])) fun K HK => ?_
    go_wp2_with fail
    refine (check_any r n c s a len cap R N _ i0 hs).mono ?_
    rw [HE.out]
    rintro e w112 ⟨rfl, hg⟩
    replace c0 := cell_grow hg c0
    replace c1 := cell_grow hg c1
    replace c2 := cell_grow hg c2
    replace c3 := cell_grow hg c3
    replace c4 := cell_grow hg c4
    replace a0 := cell_grow hg a0
    replace a1 := cell_grow hg a1
    replace b0 := cell_grow hg b0
    replace b1 := cell_grow hg b1
    replace x0 := cell_grow hg x0
    replace x1 := cell_grow hg x1
    replace x2 := cell_grow hg x2
    replace x3 := cell_grow hg x3
    replace x4 := cell_grow hg x4
    replace y0 := cell_grow hg y0
    replace y1 := cell_grow hg y1
    replace y2 := cell_grow hg y2
    replace y3 := cell_grow hg y3
    replace y4 := cell_grow hg y4
    replace i0 := i0.grow hg
    replace ix := ix.grow hg
    replace iy := iy.grow hg
    replace G := G.trans hg
    go_wp2_with fail
    refine HK.out _ _ hg ?_
    clear HK K
    refine parts_step2 (fun hw => by first | (cases hw; done) | (apply looks_run; intro w'; go_simp; try first | rfl | rw [if_neg (by omega)])) fun K HK => ?_
    go_wp2_with fail
    refine HK.out _ _ (Grow.refl _) ?_
    clear HK K
    refine parts_step2 (fun hw => by first | (cases hw; done) | (apply looks_run; intro w'; go_simp; try first | rfl | rw [if_neg (by omega)])) fun K HK => ?_
    go_wp2_with fail
    refine HK.out _ _ (Grow.refl _) ?_
    clear HK K
    refine parts_step2 (fun hw => by first | (cases hw; done) | (apply looks_run; intro w'; go_simp; try first | rfl | rw [if_neg (by omega)])) fun K HK => ?_
    go_wp2_with fail
    refine HK.out _ _ (Grow.refl _) ?_
    clear HK K
    refine parts_step2 (fun hw => by first | (cases hw; done) | (apply looks_run; intro w'; go_simp; try first | rfl | rw [if_neg (by omega)])) fun K HK => ?_
    go_wp2_with fail
    refine HK.out _ _ (Grow.refl _) ?_
    clear HK K
    refine parts_step2 (fun hw => by first | (cases hw; done) | (apply looks_run; intro w'; go_simp; try first | rfl | rw [if_neg (by omega)])) fun K HK => ?_
    go_wp2_with fail
    refine (sameEntry_any _ _ _ _ ax _ capx (entryR t) (entryN t) _ _ _ _ ay _ capy (entryR t) (entryN t) _ ix iy).mono ?_
    rw [sameEntry_self (fun _ _ => ⟨rfl, rfl⟩)]
    rintro e w139 ⟨rfl, hg⟩
    replace c0 := cell_grow hg c0
    replace c1 := cell_grow hg c1
    replace c2 := cell_grow hg c2
    replace c3 := cell_grow hg c3
    replace c4 := cell_grow hg c4
    replace a0 := cell_grow hg a0
    replace a1 := cell_grow hg a1
    replace b0 := cell_grow hg b0
    replace b1 := cell_grow hg b1
    replace x0 := cell_grow hg x0
    replace x1 := cell_grow hg x1
    replace x2 := cell_grow hg x2
    replace x3 := cell_grow hg x3
    replace x4 := cell_grow hg x4
    replace y0 := cell_grow hg y0
    replace y1 := cell_grow hg y1
    replace y2 := cell_grow hg y2
    replace y3 := cell_grow hg y3
    replace y4 := cell_grow hg y4
    replace i0 := i0.grow hg
    replace ix := ix.grow hg
    replace iy := iy.grow hg
    replace G := G.trans hg
    go_wp2_with fail
    refine HK.out _ _ hg ?_
    clear HK K
    refine parts_step fun K HK => ?_
    go_wp2_with fail
    refine HK.out _ _ (Grow.refl _) ?_
    clear HK K
    refine parts_done ?_
    go_wp2
    go_ret
    exact ⟨by simp, G⟩
  · have hx0 : (E == 0) = false := by simpa using h0
    rw [if_neg h0] at HO
    clear h0
    go_wp2_with fail
    rw [HO.out]
    refine (entryOf_all t _ ht).mono ?_
    rintro e w5 ⟨ay, capy, rfl, g5, iy⟩
    replace c0 := cell_grow g5 c0; replace c1 := cell_grow g5 c1; replace c2 := cell_grow g5 c2; replace c3 := cell_grow g5 c3; replace c4 := cell_grow g5 c4; replace a0 := cell_grow g5 a0; replace a1 := cell_grow g5 a1; replace b0 := cell_grow g5 b0; replace b1 := cell_grow g5 b1; replace x0 := cell_grow g5 x0; replace x1 := cell_grow g5 x1; replace x2 := cell_grow g5 x2; replace x3 := cell_grow g5 x3; replace x4 := cell_grow g5 x4; replace i0 := i0.grow g5; replace ix := ix.grow g5; replace G := G.trans g5; clear g5
    have gx : Grow w5 (w5.alloc (Obj.cells #[.int .i64 (decAt t 0), .int .i64 (decAt t 1), .int .i64 (decAt t 2), .string (decText t), .slice ay (decAt t 3) capy] 26)) := (Grow.refl w5).alloc _
    have nb := heap_alloc_new w5 (Obj.cells #[.int .i64 (decAt t 0), .int .i64 (decAt t 1), .int .i64 (decAt t 2), .string (decText t), .slice ay (decAt t 3) capy] 26)
    have y0 := cell_of_block (o := 0) nb rfl
    have y1 := cell_of_block (o := 1) nb rfl
    have y2 := cell_of_block (o := 2) nb rfl
    have y3 := cell_of_block (o := 3) nb rfl
    have y4 := cell_of_block (o := 4) nb rfl
    replace c0 := cell_grow gx c0; replace c1 := cell_grow gx c1; replace c2 := cell_grow gx c2; replace c3 := cell_grow gx c3; replace c4 := cell_grow gx c4; replace a0 := cell_grow gx a0; replace a1 := cell_grow gx a1; replace b0 := cell_grow gx b0; replace b1 := cell_grow gx b1; replace x0 := cell_grow gx x0; replace x1 := cell_grow gx x1; replace x2 := cell_grow gx x2; replace x3 := cell_grow gx x3; replace x4 := cell_grow gx x4; replace i0 := i0.grow gx; replace ix := ix.grow gx; replace iy := iy.grow gx; replace G := G.trans gx; clear gx nb
    go_wp2_with fail
    generalize (w5.alloc (Obj.cells #[.int .i64 (decAt t 0), .int .i64 (decAt t 1), .int .i64 (decAt t 2), .string (decText t), .slice ay (decAt t 3) capy] 26)) = W5 at *
    have hgd : Grow W5 W5.drew := (Grow.refl W5).drew
    replace c0 := cell_grow hgd c0; replace c1 := cell_grow hgd c1; replace c2 := cell_grow hgd c2; replace c3 := cell_grow hgd c3; replace c4 := cell_grow hgd c4; replace a0 := cell_grow hgd a0; replace a1 := cell_grow hgd a1; replace b0 := cell_grow hgd b0; replace b1 := cell_grow hgd b1; replace x0 := cell_grow hgd x0; replace x1 := cell_grow hgd x1; replace x2 := cell_grow hgd x2; replace x3 := cell_grow hgd x3; replace x4 := cell_grow hgd x4; replace y0 := cell_grow hgd y0; replace y1 := cell_grow hgd y1; replace y2 := cell_grow hgd y2; replace y3 := cell_grow hgd y3; replace y4 := cell_grow hgd y4; replace i0 := i0.grow hgd; replace ix := ix.grow hgd; replace iy := iy.grow hgd; replace G := G.trans hgd; clear hgd
    refine wp_region_path [(0, 1), (1, 0), (2, 0), (3, 0), (5, 0), (6, 0), (4, 1), (7, 1), (8, 2), (9, 0), (10, 0), (11, 0), (13, 0), (12, 1), (14, 2), (15, 0), (16, 0), (17, 0), (18, 0), (19, 2), (20, 0), (21, 0), (22, 0), (23, 0), (24, 2), (25, 0), (26, 0), (27, 0), (28, 0), (29, 2), (30, 0), (31, 0), (32, 0), (33, 0), (34, 2), (35, 0), (36, 0), (37, 0), (38, 0), (39, 1), (40, 0), (41, 0)] (by kernel_rfl) (by kernel_rfl) (by kernel_rfl) (by kernel_rfl) ?_
    simp only [parts, headed, headed2, List.getElem?_toArray, List.getElem?_cons_zero, List.getElem?_cons_succ]
    refine parts_step fun K HK => ?_
    go_wp2_with fail
    refine (entryBegun_any _).mono ?_
    rintro e w100 ⟨rfl, hg⟩
    replace c0 := cell_grow hg c0
    replace c1 := cell_grow hg c1
    replace c2 := cell_grow hg c2
    replace c3 := cell_grow hg c3
    replace c4 := cell_grow hg c4
    replace a0 := cell_grow hg a0
    replace a1 := cell_grow hg a1
    replace b0 := cell_grow hg b0
    replace b1 := cell_grow hg b1
    replace x0 := cell_grow hg x0
    replace x1 := cell_grow hg x1
    replace x2 := cell_grow hg x2
    replace x3 := cell_grow hg x3
    replace x4 := cell_grow hg x4
    replace y0 := cell_grow hg y0
    replace y1 := cell_grow hg y1
    replace y2 := cell_grow hg y2
    replace y3 := cell_grow hg y3
    replace y4 := cell_grow hg y4
    replace i0 := i0.grow hg
    replace ix := ix.grow hg
    replace iy := iy.grow hg
    replace G := G.trans hg
    go_wp2_with fail
    refine HK.out _ _ hg ?_
    clear HK K
    refine parts_step fun K HK => ?_
    go_wp2_with fail
    refine (less_any _ _ _ _ _).mono ?_
    rintro e w104 ⟨rfl, hg⟩
    replace c0 := cell_grow hg c0
    replace c1 := cell_grow hg c1
    replace c2 := cell_grow hg c2
    replace c3 := cell_grow hg c3
    replace c4 := cell_grow hg c4
    replace a0 := cell_grow hg a0
    replace a1 := cell_grow hg a1
    replace b0 := cell_grow hg b0
    replace b1 := cell_grow hg b1
    replace x0 := cell_grow hg x0
    replace x1 := cell_grow hg x1
    replace x2 := cell_grow hg x2
    replace x3 := cell_grow hg x3
    replace x4 := cell_grow hg x4
    replace y0 := cell_grow hg y0
    replace y1 := cell_grow hg y1
    replace y2 := cell_grow hg y2
    replace y3 := cell_grow hg y3
    replace y4 := cell_grow hg y4
    replace i0 := i0.grow hg
    replace ix := ix.grow hg
    replace iy := iy.grow hg
    replace G := G.trans hg
    go_wp2_with fail
    refine HK.out _ _ hg ?_
    clear HK K
    refine parts_step fun K HK => ?_
    go_wp2_with fail
    refine (refAhead_any _ _ _ _ _).mono ?_
    rintro e w107 ⟨rfl, hg⟩
    replace c0 := cell_grow hg c0
    replace c1 := cell_grow hg c1
    replace c2 := cell_grow hg c2
    replace c3 := cell_grow hg c3
    replace c4 := cell_grow hg c4
    replace a0 := cell_grow hg a0
    replace a1 := cell_grow hg a1
    replace b0 := cell_grow hg b0
    replace b1 := cell_grow hg b1
    replace x0 := cell_grow hg x0
    replace x1 := cell_grow hg x1
    replace x2 := cell_grow hg x2
    replace x3 := cell_grow hg x3
    replace x4 := cell_grow hg x4
    replace y0 := cell_grow hg y0
    replace y1 := cell_grow hg y1
    replace y2 := cell_grow hg y2
    replace y3 := cell_grow hg y3
    replace y4 := cell_grow hg y4
    replace i0 := i0.grow hg
    replace ix := ix.grow hg
    replace iy := iy.grow hg
    replace G := G.trans hg
    go_wp2_with fail
    refine HK.out _ _ hg ?_
    clear HK K
    refine parts_step2 (fun hw => by first | (cases hw; done) | (apply looks_run; intro w'; go_simp; try first | rfl | rw [if_neg (by omega)])) fun K HK => ?_
    go_wp2_with fail
    refine (check_any r n c s a len cap R N _ i0 hs).mono ?_
    rw [HE.out]
    rintro e w112 ⟨rfl, hg⟩
    replace c0 := cell_grow hg c0
    replace c1 := cell_grow hg c1
    replace c2 := cell_grow hg c2
    replace c3 := cell_grow hg c3
    replace c4 := cell_grow hg c4
    replace a0 := cell_grow hg a0
    replace a1 := cell_grow hg a1
    replace b0 := cell_grow hg b0
    replace b1 := cell_grow hg b1
    replace x0 := cell_grow hg x0
    replace x1 := cell_grow hg x1
    replace x2 := cell_grow hg x2
    replace x3 := cell_grow hg x3
    replace x4 := cell_grow hg x4
    replace y0 := cell_grow hg y0
    replace y1 := cell_grow hg y1
    replace y2 := cell_grow hg y2
    replace y3 := cell_grow hg y3
    replace y4 := cell_grow hg y4
    replace i0 := i0.grow hg
    replace ix := ix.grow hg
    replace iy := iy.grow hg
    replace G := G.trans hg
    go_wp2_with fail
    refine HK.out _ _ hg ?_
    clear HK K
    refine parts_step2 (fun hw => by first | (cases hw; done) | (apply looks_run; intro w'; go_simp; try first | rfl | rw [if_neg (by omega)])) fun K HK => ?_
    go_wp2_with fail
    refine HK.out _ _ (Grow.refl _) ?_
    clear HK K
    refine parts_step2 (fun hw => by first | (cases hw; done) | (apply looks_run; intro w'; go_simp; try first | rfl | rw [if_neg (by omega)])) fun K HK => ?_
    go_wp2_with fail
    refine HK.out _ _ (Grow.refl _) ?_
    clear HK K
    refine parts_step2 (fun hw => by first | (cases hw; done) | (apply looks_run; intro w'; go_simp; try first | rfl | rw [if_neg (by omega)])) fun K HK => ?_
    go_wp2_with fail
    refine HK.out _ _ (Grow.refl _) ?_
    clear HK K
    refine parts_step2 (fun hw => by first | (cases hw; done) | (apply looks_run; intro w'; go_simp; try first | rfl | rw [if_neg (by omega)])) fun K HK => ?_
    go_wp2_with fail
    refine HK.out _ _ (Grow.refl _) ?_
    clear HK K
    refine parts_step2 (fun hw => by first | (cases hw; done) | (apply looks_run; intro w'; go_simp; try first | rfl | rw [if_neg (by omega)])) fun K HK => ?_
    go_wp2_with fail
    refine (sameEntry_any _ _ _ _ ax _ capx (entryR t) (entryN t) _ _ _ _ ay _ capy (entryR t) (entryN t) _ ix iy).mono ?_
    rw [sameEntry_self (fun _ _ => ⟨rfl, rfl⟩)]
    rintro e w139 ⟨rfl, hg⟩
    replace c0 := cell_grow hg c0
    replace c1 := cell_grow hg c1
    replace c2 := cell_grow hg c2
    replace c3 := cell_grow hg c3
    replace c4 := cell_grow hg c4
    replace a0 := cell_grow hg a0
    replace a1 := cell_grow hg a1
    replace b0 := cell_grow hg b0
    replace b1 := cell_grow hg b1
    replace x0 := cell_grow hg x0
    replace x1 := cell_grow hg x1
    replace x2 := cell_grow hg x2
    replace x3 := cell_grow hg x3
    replace x4 := cell_grow hg x4
    replace y0 := cell_grow hg y0
    replace y1 := cell_grow hg y1
    replace y2 := cell_grow hg y2
    replace y3 := cell_grow hg y3
    replace y4 := cell_grow hg y4
    replace i0 := i0.grow hg
    replace ix := ix.grow hg
    replace iy := iy.grow hg
    replace G := G.trans hg
    go_wp2_with fail
    refine HK.out _ _ hg ?_
    clear HK K
    refine parts_step fun K HK => ?_
    go_wp2_with fail
    refine HK.out _ _ (Grow.refl _) ?_
    clear HK K
    refine parts_done ?_
    go_wp2
    go_ret
    exact ⟨by simp, G⟩

end Go.Proofs.Ytikdncgjaomlcaa
