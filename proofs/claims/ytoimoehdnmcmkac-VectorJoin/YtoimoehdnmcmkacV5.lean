/- cutwaterlaw.VectorJoin: the walk. -/
import Derived.Test.YtoimoehdnmcmkacV4
namespace Go.Proofs.Ytoimoehdnmcmkac
open Go.RowKit

theorem hold {p : Prop} (h : p) : Hid p := h
theorem Vc.ok_iff (v : Vc) : v.ok = true ↔ (0 ≤ v.a ∧ v.a ≤ 20) ∧ 0 ≤ v.b ∧ v.b ≤ 20 := by simp [Vc.ok, ok20]
theorem vJoin_ok {v u : Vc} (h : (v.ok && u.ok) = true) : vJoin v u = (⟨max v.a u.a, max v.b u.b⟩, 0) := by simp only [vJoin, h]; rfl
theorem vJoin_no {v u : Vc} (h : (v.ok && u.ok) = false) : vJoin v u = (⟨0, 0⟩, 3) := by simp only [vJoin, h]; rfl
theorem vJoin_okay {v u : Vc} (h : (v.ok && u.ok) = true) : (⟨max v.a u.a, max v.b u.b⟩ : Vc).ok = true := by
  rw [Bool.and_eq_true, Vc.ok_iff, Vc.ok_iff] at h
  rw [Vc.ok_iff]
  simp only
  omega
theorem vJoin_comm (v u : Vc) : vJoin u v = vJoin v u := by
  unfold vJoin
  rw [Bool.and_comm, Int.max_comm u.a, Int.max_comm u.b]
theorem vJoin_self {v : Vc} (h : v.ok = true) : vJoin v v = (v, 0) := by
  rw [vJoin_ok (by rw [h]; rfl), Int.max_self, Int.max_self]
theorem vIn_ok {v u : Vc} (h : (v.ok && u.ok) = true) : vIn v u = (decide (v.a ≤ u.a) && decide (v.b ≤ u.b), 0) := by simp only [vIn, h]; rfl
theorem vIn_no {v u : Vc} (h : (v.ok && u.ok) = false) : vIn v u = (false, 3) := by simp only [vIn, h]; rfl
theorem vIn_join {v u : Vc} (h : (v.ok && u.ok) = true) : vIn v ⟨max v.a u.a, max v.b u.b⟩ = (true, 0) ∧ vIn u ⟨max v.a u.a, max v.b u.b⟩ = (true, 0) := by
  have hj := vJoin_okay h
  rw [Bool.and_eq_true] at h
  rw [vIn_ok (by rw [h.1, hj]; rfl), vIn_ok (by rw [h.2, hj]; rfl)]
  have e1 : v.a ≤ max v.a u.a := by omega
  have e2 : v.b ≤ max v.b u.b := by omega
  have e3 : u.a ≤ max v.a u.a := by omega
  have e4 : u.b ≤ max v.b u.b := by omega
  simp [e1, e2, e3, e4]
theorem vIn_least {v u c : Vc} (h : (v.ok && u.ok) = true) (hc : c.ok = true) : ((vIn v c).1 && (vIn u c).1) = (vIn ⟨max v.a u.a, max v.b u.b⟩ c).1 := by
  have hj := vJoin_okay h
  rw [Bool.and_eq_true] at h
  rw [vIn_ok (by rw [h.1, hc]; rfl), vIn_ok (by rw [h.2, hc]; rfl), vIn_ok (by rw [hj, hc]; rfl)]
  rw [Bool.eq_iff_iff]
  simp
  omega
theorem vHas_join {v u : Vc} (h : (v.ok && u.ok) = true) (r n : Int) : Vc.has ⟨max v.a u.a, max v.b u.b⟩ r n = ((v.has r n).1 || (u.has r n).1, (v.has r n).2) ∧ (u.has r n).2 = (v.has r n).2 := by
  have hj := vJoin_okay h
  rw [Bool.and_eq_true] at h
  unfold Vc.has
  rw [hj, h.1, h.2]
  cases isIdB r n
  · simp
  · simp only [if_true, and_true, Prod.mk.injEq]
    by_cases hr : r = 0
    · simp only [hr, if_true]
      rw [Bool.eq_iff_iff]
      simp
      omega
    · simp only [hr, if_false]
      rw [Bool.eq_iff_iff]
      simp
      omega
theorem vHas_err {v : Vc} (h : v.ok = true) (r n : Int) : (v.has r n).2 = 0 ∨ (v.has r n).2 = 3 := by
  unfold Vc.has
  rw [h]
  cases isIdB r n
  · exact .inr rfl
  · exact .inl rfl

set_option maxRecDepth 100000 in
set_option maxHeartbeats 8000000 in
theorem vectorJoin_walk (a b c : Vc) (r n : Int) (w : World) : Calls Try.prog 3 #[a.val, b.val, c.val, .agg #[.int .i64 r, .int .i64 n]] w fun e w' => e = .returned (.bool true) ∧ Grow w w' := by
  have ha : Hid (∀ w, Calls Try.prog 5 #[a.val, b.val] w fun e w' => e = .returned (.tuple #[(vJoin a b).1.val, .int .i64 (vJoin a b).2]) ∧ Grow w w') := show ∀ w, _ from fun w => vjoin_any a b w
  have hb : Hid (∀ w, Calls Try.prog 5 #[b.val, a.val] w fun e w' => e = .returned (.tuple #[(vJoin a b).1.val, .int .i64 (vJoin a b).2]) ∧ Grow w w') := show ∀ w, _ from fun w => by
    have := vjoin_any b a w
    rwa [vJoin_comm] at this
  unfold Vc.val
  go_enter Try.func3, Try.ntmps3
  go_wp2_with fail
  refine (vbegun_any _).mono ?_
  rintro e w1 ⟨rfl, g1⟩
  have A0 := cell_grow g1 (a := ⟨w.heap.size, 0, none⟩) (v := .int .i64 a.a) (by simp [go_sem])
  have A1 := cell_grow g1 (a := ⟨w.heap.size, 1, none⟩) (v := .int .i64 a.b) (by simp [go_sem])
  have B0 := cell_grow g1 (a := ⟨w.heap.size + 1, 0, none⟩) (v := .int .i64 b.a) (by simp [go_sem])
  have B1 := cell_grow g1 (a := ⟨w.heap.size + 1, 1, none⟩) (v := .int .i64 b.b) (by simp [go_sem])
  have C0 := cell_grow g1 (a := ⟨w.heap.size + 1 + 1, 0, none⟩) (v := .int .i64 c.a) (by simp [go_sem])
  have C1 := cell_grow g1 (a := ⟨w.heap.size + 1 + 1, 1, none⟩) (v := .int .i64 c.b) (by simp [go_sem])
  have X0 := cell_grow g1 (a := ⟨w.heap.size + 1 + 1 + 1, 0, none⟩) (v := .int .i64 r) (by simp [go_sem])
  have X1 := cell_grow g1 (a := ⟨w.heap.size + 1 + 1 + 1, 1, none⟩) (v := .int .i64 n) (by simp [go_sem])
  have G := (((((Grow.refl w).alloc _).alloc _).alloc _).alloc _).trans g1
  clear g1
  go_wp2_with fail
  refine (ha.out _).mono ?_
  rintro e w2 ⟨rfl, g2⟩
  replace A0 := cell_grow g2 A0
  replace A1 := cell_grow g2 A1
  replace B0 := cell_grow g2 B0
  replace B1 := cell_grow g2 B1
  replace C0 := cell_grow g2 C0
  replace C1 := cell_grow g2 C1
  replace X0 := cell_grow g2 X0
  replace X1 := cell_grow g2 X1
  replace G := G.trans g2
  clear g2
  rcases hk : (a.ok && b.ok) with _ | _
  · rw [vJoin_no hk]
    simp only [Vc.val]
    replace A0 := cell_grow ((Grow.refl w2).alloc (Obj.cells #[.int .i64 0, .int .i64 0] 23)) A0
    replace A1 := cell_grow ((Grow.refl w2).alloc (Obj.cells #[.int .i64 0, .int .i64 0] 23)) A1
    replace B0 := cell_grow ((Grow.refl w2).alloc (Obj.cells #[.int .i64 0, .int .i64 0] 23)) B0
    replace B1 := cell_grow ((Grow.refl w2).alloc (Obj.cells #[.int .i64 0, .int .i64 0] 23)) B1
    replace C0 := cell_grow ((Grow.refl w2).alloc (Obj.cells #[.int .i64 0, .int .i64 0] 23)) C0
    replace C1 := cell_grow ((Grow.refl w2).alloc (Obj.cells #[.int .i64 0, .int .i64 0] 23)) C1
    replace X0 := cell_grow ((Grow.refl w2).alloc (Obj.cells #[.int .i64 0, .int .i64 0] 23)) X0
    replace X1 := cell_grow ((Grow.refl w2).alloc (Obj.cells #[.int .i64 0, .int .i64 0] 23)) X1
    have V0 : (w2.alloc (Obj.cells #[.int .i64 0, .int .i64 0] 23)).cell? ⟨w2.heap.size, 0, none⟩ = some (.int .i64 0) := by simp
    have V1 : (w2.alloc (Obj.cells #[.int .i64 0, .int .i64 0] 23)).cell? ⟨w2.heap.size, 1, none⟩ = some (.int .i64 0) := by simp
    replace G := G.alloc (Obj.cells #[.int .i64 0, .int .i64 0] 23)
    go_wp2_with fail
    generalize (w2.alloc (Obj.cells #[.int .i64 0, .int .i64 0] 23)) = W2 at *
    refine (hb.out _).mono ?_
    rw [vJoin_no hk]
    rintro e w3 ⟨rfl, g3⟩
    replace A0 := cell_grow g3 A0
    replace A1 := cell_grow g3 A1
    replace B0 := cell_grow g3 B0
    replace B1 := cell_grow g3 B1
    replace C0 := cell_grow g3 C0
    replace C1 := cell_grow g3 C1
    replace X0 := cell_grow g3 X0
    replace X1 := cell_grow g3 X1
    replace V0 := cell_grow g3 V0
    replace V1 := cell_grow g3 V1
    replace G := G.trans g3
    clear g3
    simp only [Vc.val]
    replace A0 := cell_grow ((Grow.refl w3).alloc (Obj.cells #[.int .i64 0, .int .i64 0] 23)) A0
    replace A1 := cell_grow ((Grow.refl w3).alloc (Obj.cells #[.int .i64 0, .int .i64 0] 23)) A1
    replace B0 := cell_grow ((Grow.refl w3).alloc (Obj.cells #[.int .i64 0, .int .i64 0] 23)) B0
    replace B1 := cell_grow ((Grow.refl w3).alloc (Obj.cells #[.int .i64 0, .int .i64 0] 23)) B1
    replace C0 := cell_grow ((Grow.refl w3).alloc (Obj.cells #[.int .i64 0, .int .i64 0] 23)) C0
    replace C1 := cell_grow ((Grow.refl w3).alloc (Obj.cells #[.int .i64 0, .int .i64 0] 23)) C1
    replace X0 := cell_grow ((Grow.refl w3).alloc (Obj.cells #[.int .i64 0, .int .i64 0] 23)) X0
    replace X1 := cell_grow ((Grow.refl w3).alloc (Obj.cells #[.int .i64 0, .int .i64 0] 23)) X1
    replace V0 := cell_grow ((Grow.refl w3).alloc (Obj.cells #[.int .i64 0, .int .i64 0] 23)) V0
    replace V1 := cell_grow ((Grow.refl w3).alloc (Obj.cells #[.int .i64 0, .int .i64 0] 23)) V1
    have U0 : (w3.alloc (Obj.cells #[.int .i64 0, .int .i64 0] 23)).cell? ⟨w3.heap.size, 0, none⟩ = some (.int .i64 0) := by simp
    have U1 : (w3.alloc (Obj.cells #[.int .i64 0, .int .i64 0] 23)).cell? ⟨w3.heap.size, 1, none⟩ = some (.int .i64 0) := by simp
    replace G := G.alloc (Obj.cells #[.int .i64 0, .int .i64 0] 23)
    have hv := veq
    go_wp2
    go_ret
    exact ⟨rfl, G⟩
  · have hab : a.ok = true ∧ b.ok = true := by simpa using hk
    have K1 := vJoin_ok hk
    have K2 := vJoin_okay hk
    have K3 := vJoin_self hab.1
    have K4 := vIn_join hk
    have K5 := fun hc => vIn_least (c := c) hk hc
    have K6 := vHas_join hk r n
    have K7 := vHas_err hab.1 r n
    generalize hJ : (⟨max a.a b.a, max a.b b.b⟩ : Vc) = J at K1 K2 K4 K5 K6
    clear hJ
    rw [K1]
    have H1 := hold K1
    have H2 := hold K2
    have H3 := hold K3
    have H4 := hold K4
    have H5 := hold K5
    have H6 := hold K6
    have H7 := hold K7
    clear K1 K2 K3 K4 K5 K6 K7
    simp only [Vc.val]
    replace A0 := cell_grow ((Grow.refl w2).alloc (Obj.cells #[.int .i64 J.a, .int .i64 J.b] 23)) A0
    replace A1 := cell_grow ((Grow.refl w2).alloc (Obj.cells #[.int .i64 J.a, .int .i64 J.b] 23)) A1
    replace B0 := cell_grow ((Grow.refl w2).alloc (Obj.cells #[.int .i64 J.a, .int .i64 J.b] 23)) B0
    replace B1 := cell_grow ((Grow.refl w2).alloc (Obj.cells #[.int .i64 J.a, .int .i64 J.b] 23)) B1
    replace C0 := cell_grow ((Grow.refl w2).alloc (Obj.cells #[.int .i64 J.a, .int .i64 J.b] 23)) C0
    replace C1 := cell_grow ((Grow.refl w2).alloc (Obj.cells #[.int .i64 J.a, .int .i64 J.b] 23)) C1
    replace X0 := cell_grow ((Grow.refl w2).alloc (Obj.cells #[.int .i64 J.a, .int .i64 J.b] 23)) X0
    replace X1 := cell_grow ((Grow.refl w2).alloc (Obj.cells #[.int .i64 J.a, .int .i64 J.b] 23)) X1
    have V0 : (w2.alloc (Obj.cells #[.int .i64 J.a, .int .i64 J.b] 23)).cell? ⟨w2.heap.size, 0, none⟩ = some (.int .i64 J.a) := by simp
    have V1 : (w2.alloc (Obj.cells #[.int .i64 J.a, .int .i64 J.b] 23)).cell? ⟨w2.heap.size, 1, none⟩ = some (.int .i64 J.b) := by simp
    replace G := G.alloc (Obj.cells #[.int .i64 J.a, .int .i64 J.b] 23)
    go_wp2_with fail
    generalize (w2.alloc (Obj.cells #[.int .i64 J.a, .int .i64 J.b] 23)) = W2 at *
    refine (hb.out _).mono ?_
    rw [H1.out]
    rintro e w3 ⟨rfl, g3⟩
    replace A0 := cell_grow g3 A0
    replace A1 := cell_grow g3 A1
    replace B0 := cell_grow g3 B0
    replace B1 := cell_grow g3 B1
    replace C0 := cell_grow g3 C0
    replace C1 := cell_grow g3 C1
    replace X0 := cell_grow g3 X0
    replace X1 := cell_grow g3 X1
    replace V0 := cell_grow g3 V0
    replace V1 := cell_grow g3 V1
    replace G := G.trans g3
    clear g3
    simp only [Vc.val]
    replace A0 := cell_grow ((Grow.refl w3).alloc (Obj.cells #[.int .i64 J.a, .int .i64 J.b] 23)) A0
    replace A1 := cell_grow ((Grow.refl w3).alloc (Obj.cells #[.int .i64 J.a, .int .i64 J.b] 23)) A1
    replace B0 := cell_grow ((Grow.refl w3).alloc (Obj.cells #[.int .i64 J.a, .int .i64 J.b] 23)) B0
    replace B1 := cell_grow ((Grow.refl w3).alloc (Obj.cells #[.int .i64 J.a, .int .i64 J.b] 23)) B1
    replace C0 := cell_grow ((Grow.refl w3).alloc (Obj.cells #[.int .i64 J.a, .int .i64 J.b] 23)) C0
    replace C1 := cell_grow ((Grow.refl w3).alloc (Obj.cells #[.int .i64 J.a, .int .i64 J.b] 23)) C1
    replace X0 := cell_grow ((Grow.refl w3).alloc (Obj.cells #[.int .i64 J.a, .int .i64 J.b] 23)) X0
    replace X1 := cell_grow ((Grow.refl w3).alloc (Obj.cells #[.int .i64 J.a, .int .i64 J.b] 23)) X1
    replace V0 := cell_grow ((Grow.refl w3).alloc (Obj.cells #[.int .i64 J.a, .int .i64 J.b] 23)) V0
    replace V1 := cell_grow ((Grow.refl w3).alloc (Obj.cells #[.int .i64 J.a, .int .i64 J.b] 23)) V1
    have U0 : (w3.alloc (Obj.cells #[.int .i64 J.a, .int .i64 J.b] 23)).cell? ⟨w3.heap.size, 0, none⟩ = some (.int .i64 J.a) := by simp
    have U1 : (w3.alloc (Obj.cells #[.int .i64 J.a, .int .i64 J.b] 23)).cell? ⟨w3.heap.size, 1, none⟩ = some (.int .i64 J.b) := by simp
    replace G := G.alloc (Obj.cells #[.int .i64 J.a, .int .i64 J.b] 23)
    go_wp2_with fail
    generalize (w3.alloc (Obj.cells #[.int .i64 J.a, .int .i64 J.b] 23)) = W3 at *
    refine (vjoin_any a a _).mono ?_
    rw [H3.out]
    rintro e w4 ⟨rfl, g4⟩
    replace A0 := cell_grow g4 A0
    replace A1 := cell_grow g4 A1
    replace B0 := cell_grow g4 B0
    replace B1 := cell_grow g4 B1
    replace C0 := cell_grow g4 C0
    replace C1 := cell_grow g4 C1
    replace X0 := cell_grow g4 X0
    replace X1 := cell_grow g4 X1
    replace V0 := cell_grow g4 V0
    replace V1 := cell_grow g4 V1
    replace U0 := cell_grow g4 U0
    replace U1 := cell_grow g4 U1
    replace G := G.trans g4
    clear g4
    simp only [Vc.val]
    replace A0 := cell_grow ((Grow.refl w4).alloc (Obj.cells #[.int .i64 a.a, .int .i64 a.b] 23)) A0
    replace A1 := cell_grow ((Grow.refl w4).alloc (Obj.cells #[.int .i64 a.a, .int .i64 a.b] 23)) A1
    replace B0 := cell_grow ((Grow.refl w4).alloc (Obj.cells #[.int .i64 a.a, .int .i64 a.b] 23)) B0
    replace B1 := cell_grow ((Grow.refl w4).alloc (Obj.cells #[.int .i64 a.a, .int .i64 a.b] 23)) B1
    replace C0 := cell_grow ((Grow.refl w4).alloc (Obj.cells #[.int .i64 a.a, .int .i64 a.b] 23)) C0
    replace C1 := cell_grow ((Grow.refl w4).alloc (Obj.cells #[.int .i64 a.a, .int .i64 a.b] 23)) C1
    replace X0 := cell_grow ((Grow.refl w4).alloc (Obj.cells #[.int .i64 a.a, .int .i64 a.b] 23)) X0
    replace X1 := cell_grow ((Grow.refl w4).alloc (Obj.cells #[.int .i64 a.a, .int .i64 a.b] 23)) X1
    replace V0 := cell_grow ((Grow.refl w4).alloc (Obj.cells #[.int .i64 a.a, .int .i64 a.b] 23)) V0
    replace V1 := cell_grow ((Grow.refl w4).alloc (Obj.cells #[.int .i64 a.a, .int .i64 a.b] 23)) V1
    replace U0 := cell_grow ((Grow.refl w4).alloc (Obj.cells #[.int .i64 a.a, .int .i64 a.b] 23)) U0
    replace U1 := cell_grow ((Grow.refl w4).alloc (Obj.cells #[.int .i64 a.a, .int .i64 a.b] 23)) U1
    have S0 : (w4.alloc (Obj.cells #[.int .i64 a.a, .int .i64 a.b] 23)).cell? ⟨w4.heap.size, 0, none⟩ = some (.int .i64 a.a) := by simp
    have S1 : (w4.alloc (Obj.cells #[.int .i64 a.a, .int .i64 a.b] 23)).cell? ⟨w4.heap.size, 1, none⟩ = some (.int .i64 a.b) := by simp
    replace G := G.alloc (Obj.cells #[.int .i64 a.a, .int .i64 a.b] 23)
    go_wp2_with fail
    generalize (w4.alloc (Obj.cells #[.int .i64 a.a, .int .i64 a.b] 23)) = W4 at *
    refine (vwithin_any a J _).mono ?_
    rw [H4.out.1]
    rintro e w5 ⟨rfl, g5⟩
    replace A0 := cell_grow g5 A0
    replace A1 := cell_grow g5 A1
    replace B0 := cell_grow g5 B0
    replace B1 := cell_grow g5 B1
    replace C0 := cell_grow g5 C0
    replace C1 := cell_grow g5 C1
    replace X0 := cell_grow g5 X0
    replace X1 := cell_grow g5 X1
    replace V0 := cell_grow g5 V0
    replace V1 := cell_grow g5 V1
    replace U0 := cell_grow g5 U0
    replace U1 := cell_grow g5 U1
    replace S0 := cell_grow g5 S0
    replace S1 := cell_grow g5 S1
    replace G := G.trans g5
    clear g5
    go_wp2_with fail
    refine (vwithin_any b J _).mono ?_
    rw [H4.out.2]
    rintro e w6 ⟨rfl, g6⟩
    replace A0 := cell_grow g6 A0
    replace A1 := cell_grow g6 A1
    replace B0 := cell_grow g6 B0
    replace B1 := cell_grow g6 B1
    replace C0 := cell_grow g6 C0
    replace C1 := cell_grow g6 C1
    replace X0 := cell_grow g6 X0
    replace X1 := cell_grow g6 X1
    replace V0 := cell_grow g6 V0
    replace V1 := cell_grow g6 V1
    replace U0 := cell_grow g6 U0
    replace U1 := cell_grow g6 U1
    replace S0 := cell_grow g6 S0
    replace S1 := cell_grow g6 S1
    replace G := G.trans g6
    clear g6
    have hv := veq
    go_wp2_with fail
    clear hv
    refine (vwithin_any a c _).mono ?_
    rintro e w7 ⟨rfl, g7⟩
    replace A0 := cell_grow g7 A0
    replace A1 := cell_grow g7 A1
    replace B0 := cell_grow g7 B0
    replace B1 := cell_grow g7 B1
    replace C0 := cell_grow g7 C0
    replace C1 := cell_grow g7 C1
    replace X0 := cell_grow g7 X0
    replace X1 := cell_grow g7 X1
    replace V0 := cell_grow g7 V0
    replace V1 := cell_grow g7 V1
    replace U0 := cell_grow g7 U0
    replace U1 := cell_grow g7 U1
    replace S0 := cell_grow g7 S0
    replace S1 := cell_grow g7 S1
    replace G := G.trans g7
    clear g7
    go_wp2_with fail
    refine (vwithin_any b c _).mono ?_
    rintro e w8 ⟨rfl, g8⟩
    replace A0 := cell_grow g8 A0
    replace A1 := cell_grow g8 A1
    replace B0 := cell_grow g8 B0
    replace B1 := cell_grow g8 B1
    replace C0 := cell_grow g8 C0
    replace C1 := cell_grow g8 C1
    replace X0 := cell_grow g8 X0
    replace X1 := cell_grow g8 X1
    replace V0 := cell_grow g8 V0
    replace V1 := cell_grow g8 V1
    replace U0 := cell_grow g8 U0
    replace U1 := cell_grow g8 U1
    replace S0 := cell_grow g8 S0
    replace S1 := cell_grow g8 S1
    replace G := G.trans g8
    clear g8
    go_wp2_with fail
    refine (vwithin_any J c _).mono ?_
    rintro e w9 ⟨rfl, g9⟩
    replace A0 := cell_grow g9 A0
    replace A1 := cell_grow g9 A1
    replace B0 := cell_grow g9 B0
    replace B1 := cell_grow g9 B1
    replace C0 := cell_grow g9 C0
    replace C1 := cell_grow g9 C1
    replace X0 := cell_grow g9 X0
    replace X1 := cell_grow g9 X1
    replace V0 := cell_grow g9 V0
    replace V1 := cell_grow g9 V1
    replace U0 := cell_grow g9 U0
    replace U1 := cell_grow g9 U1
    replace S0 := cell_grow g9 S0
    replace S1 := cell_grow g9 S1
    replace G := G.trans g9
    clear g9
    have key : (∃ x y : Bool, vIn a c = (x, 0) ∧ vIn b c = (y, 0) ∧ vIn J c = (x && y, 0)) ∨ (vIn a c = (false, 3) ∧ vIn b c = (false, 3) ∧ vIn J c = (false, 3)) := by
      cases hc : c.ok
      · exact .inr ⟨vIn_no (by simp [hc]), vIn_no (by simp [hc]), vIn_no (by simp [hc])⟩
      · refine .inl ⟨(vIn a c).1, (vIn b c).1, ?_, ?_, ?_⟩
        · rw [vIn_ok (by rw [hab.1, hc]; rfl)]
        · rw [vIn_ok (by rw [hab.2, hc]; rfl)]
        · rw [H5.out hc, vIn_ok (by rw [H2.out, hc]; rfl)]
    have key2 : (∃ x y : Bool, a.has r n = (x, 0) ∧ b.has r n = (y, 0) ∧ J.has r n = (x || y, 0)) ∨ ∃ x y z : Bool, a.has r n = (x, 3) ∧ b.has r n = (y, 3) ∧ J.has r n = (z, 3) := by
      have h6 := H6.out
      rcases H7.out with h | h
      · exact .inl ⟨(a.has r n).1, (b.has r n).1, Prod.ext rfl h, Prod.ext rfl (by rw [h6.2, h]), by rw [h6.1, h]⟩
      · exact .inr ⟨(a.has r n).1, (b.has r n).1, (J.has r n).1, Prod.ext rfl h, Prod.ext rfl (by rw [h6.2, h]), Prod.ext rfl (by rw [h6.1]; exact h)⟩
    have KEY2 := hold key2
    clear key2 H1 H2 H3 H4 H5 H6 H7 hb ha hk hab
    have fin : ∀ (x y : Bool), (x && y) = (x && y) := fun _ _ => rfl
    clear fin
    rcases key with ⟨x, y, e1, e2, e3⟩ | ⟨e1, e2, e3⟩
    all_goals
      rw [e1, e2, e3]
      clear e1 e2 e3
      try cases x
      all_goals
        try cases y
        all_goals
          go_wp2_with fail
          refine (vhas_any a r n _).mono ?_
          rintro e w10 ⟨rfl, g10⟩
          replace A0 := cell_grow g10 A0
          replace A1 := cell_grow g10 A1
          replace B0 := cell_grow g10 B0
          replace B1 := cell_grow g10 B1
          replace C0 := cell_grow g10 C0
          replace C1 := cell_grow g10 C1
          replace X0 := cell_grow g10 X0
          replace X1 := cell_grow g10 X1
          replace V0 := cell_grow g10 V0
          replace V1 := cell_grow g10 V1
          replace U0 := cell_grow g10 U0
          replace U1 := cell_grow g10 U1
          replace S0 := cell_grow g10 S0
          replace S1 := cell_grow g10 S1
          replace G := G.trans g10
          clear g10
          go_wp2_with fail
          refine (vhas_any b r n _).mono ?_
          rintro e w11 ⟨rfl, g11⟩
          replace A0 := cell_grow g11 A0
          replace A1 := cell_grow g11 A1
          replace B0 := cell_grow g11 B0
          replace B1 := cell_grow g11 B1
          replace C0 := cell_grow g11 C0
          replace C1 := cell_grow g11 C1
          replace X0 := cell_grow g11 X0
          replace X1 := cell_grow g11 X1
          replace V0 := cell_grow g11 V0
          replace V1 := cell_grow g11 V1
          replace U0 := cell_grow g11 U0
          replace U1 := cell_grow g11 U1
          replace S0 := cell_grow g11 S0
          replace S1 := cell_grow g11 S1
          replace G := G.trans g11
          clear g11
          go_wp2_with fail
          refine (vhas_any J r n _).mono ?_
          rintro e w12 ⟨rfl, g12⟩
          replace G := G.trans g12
          clear g12 A0 A1 B0 B1 C0 C1 X0 X1 V0 V1 U0 U1 S0 S1
          rcases KEY2.out with ⟨x, y, e1, e2, e3⟩ | ⟨x, y, z, e1, e2, e3⟩
          all_goals
            rw [e1, e2, e3]
            clear e1 e2 e3 KEY2
            cases x
            all_goals
              go_wp2
              go_ret
              exact ⟨by first | rfl | simp, G⟩
end Go.Proofs.Ytoimoehdnmcmkac
