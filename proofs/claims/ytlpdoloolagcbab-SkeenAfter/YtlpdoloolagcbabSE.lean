/- Who keeps a server: commit. -/
import Derived.Test.YtlpdoloolagcbabSD
import Derived.Test.YtlpdoloolagcbabSEa
namespace Go.Proofs.Ytlpdoloolagcbab
open Go.RowKit

set_option maxHeartbeats 4000000 in
theorem kcommit_any (base bk : Nat) (s : Sv) (n t : Int) (w : World) (hK : KeepAt base bk w s) (hl : s.waits.length ≤ 8) (hl2 : s.done.length ≤ 30) :
    Calls Try.prog 51 #[.pointer (some ⟨bk, 0, none⟩), .int .i64 n, .int .i64 t] w fun e w' => e = .returned (.int .i64 (commErr s n t)) ∧ Below base w w' ∧ (commErr s n t = 0 → ∀ i, findAt s.waits n = some i → KeepAt base bk w' (commSv s n t i)) := by
  have HK := hid hK
  have hlt := hK.lt
  obtain ⟨aW, cW, aD, cD, k0, hbase, own, ap1, ap2⟩ := hK
  obtain ⟨hw, hd⟩ := own.at (by omega) (by omega)
  obtain ⟨oW, oD, ap3⟩ := own
  obtain ⟨clock, ws, ds⟩ := s
  simp only at k0 hl hl2 hw hd oW oD ⊢
  have HW := hid hw
  have K0 := hid k0
  have OW := hid oW
  have OD := hid oD
  have AP1 := hid ap1
  have AP2 := hid ap2
  have AP3 := hid ap3
  clear hw hd k0 oW oD ap1 ap2 ap3
  have HE : Hid (commErr ⟨clock, ws, ds⟩ n t = if isNum n = false ∨ t < 1 ∨ 999 < t then 3 else match findAt ws n with
    | none => 5
    | some i => match ws[i]? with
      | none => 5
      | some x => if x.final = true ∨ t < x.time then 4 else if 30 < (commSv ⟨clock, ws, ds⟩ n t i).done.length then 2 else 0) := rfl
  generalize commErr ⟨clock, ws, ds⟩ n t = er at *
  have e0 := cell_of_block (o := 0) K0.out rfl; simp at e0
  have e1 := cell_of_block (o := 1) K0.out rfl; simp at e1
  have e2 := cell_of_block (o := 2) K0.out rfl; simp at e2
  have three : isNum n = false ∨ t < 1 ∨ 999 < t → Hid (er = 3) := fun h => by show er = 3; rw [HE.out, if_pos h]
  cases hn : isNum n
  · have E := three (.inl hn)
    clear three
    go_enter Try.func51, Try.ntmps51
    go_wp2_with (go_at_call 70; refine (isNumber_any _ _).mono ?_; rw [hn]; rintro e w ⟨rfl, rfl⟩)
    go_ret
    exact ⟨by rw [E.out]; rfl, Below.refl _ _, fun h => by rw [E.out] at h; cases h⟩
  by_cases h1 : t < 1
  · have h1' : decide (t < 1) = true := by simpa using h1
    have E := three (.inr (.inl h1))
    clear three
    go_enter Try.func51, Try.ntmps51
    go_wp2_with (go_at_call 70; refine (isNumber_any _ _).mono ?_; rw [hn]; rintro e w ⟨rfl, rfl⟩)
    go_ret
    exact ⟨by rw [E.out]; rfl, Below.refl _ _, fun h => by rw [E.out] at h; cases h⟩
  have h1' : decide (t < 1) = false := by simpa using h1
  by_cases h2 : 999 < t
  · have h2' : decide (999 < t) = true := by simpa using h2
    have E := three (.inr (.inr h2))
    clear three
    go_enter Try.func51, Try.ntmps51
    go_wp2_with (go_at_call 70; refine (isNumber_any _ _).mono ?_; rw [hn]; rintro e w ⟨rfl, rfl⟩)
    go_ret
    exact ⟨by rw [E.out]; rfl, Below.refl _ _, fun h => by rw [E.out] at h; cases h⟩
  have h2' : decide (999 < t) = false := by simpa using h2
  have HE1 : Hid (er = match findAt ws n with
    | none => 5
    | some i => match ws[i]? with
      | none => 5
      | some x => if x.final = true ∨ t < x.time then 4 else if 30 < (commSv ⟨clock, ws, ds⟩ n t i).done.length then 2 else 0) := by
    show er = _
    rw [HE.out, if_neg (by rw [hn]; rintro (h | h | h); cases h; exact h1 h; exact h2 h)]
  clear three HE
  go_enter Try.func51, Try.ntmps51
  go_wp2_with (first | (go_at_call 70; refine (isNumber_any _ _).mono ?_; rw [hn]; rintro e w ⟨rfl, rfl⟩) | fail)
  refine (find_any ws n aW cW _ HW.out).mono ?_
  rintro e w1 ⟨rfl, g1⟩
  have hB1 : Hid (Below base w w1) := Below.mono g1 (by omega)
  clear e0 e1 e2
  cases hf : findAt ws n with
  | none =>
    have E : Hid (er = 5) := by show er = 5; rw [HE1.out, hf]
    simp only [optInt]
    go_wp2
    go_ret
    exact ⟨by rw [E.out]; rfl, hB1.out, fun h => by rw [E.out] at h; cases h⟩
  | some i =>
    obtain ⟨x, hx, hxn⟩ := findAt_is hf
    have HE2 : Hid (er = if x.final = true ∨ t < x.time then 4 else if 30 < (commSv ⟨clock, ws, ds⟩ n t i).done.length then 2 else 0) := by show er = _; rw [HE1.out, hf]; simp only; rw [hx]
    have hilt := (List.getElem?_eq_some_iff.1 hx).1
    have hilt' : (i : Int) < (ws.length : Int) := by omega
    have hi0 : decide ((i : Int) < 0) = false := by simp
    simp only [optInt]
    have HFI := hid hf
    clear HE1 hf
    obtain ⟨g, hg⟩ : ∃ g, aW = some ⟨g, 0, none⟩ := by
      rcases OW.out.2 with ⟨h, h0⟩ | ⟨g, cap, cur, h, _⟩
      · omega
      · cases h; exact ⟨g, rfl⟩
    subst hg
    obtain ⟨b', off', eq, d0, d1, d2⟩ := (HW.out.grow g1).at3 hx
    cases eq
    simp only [Nat.zero_add] at d0 d1 d2
    rw [hxn] at d0
    clear hxn
    have k1 := hid (grow_block g1 K0.out)
    have e0 := cell_of_block (o := 0) k1.out rfl; simp at e0
    have e1 := cell_of_block (o := 1) k1.out rfl; simp at e1
    clear hx
    have g2 : Grow w1 (w1.alloc (Obj.cells #[.int .i64 n, .int .i64 x.time, .bool x.final] 64)) := (Grow.refl w1).alloc _
    have hB2 : Hid (Below base w (w1.alloc (Obj.cells #[.int .i64 n, .int .i64 x.time, .bool x.final] 64))) := hB1.out.trans (Below.mono g2 (by have := g1.size; omega))
    cases hxf : x.final
    case true =>
      have E : Hid (er = 4) := by show er = 4; rw [HE2.out, if_pos (.inl hxf)]
      rw [hxf] at d2 g2 hB2
      go_wp2
      go_ret
      exact ⟨by rw [E.out]; rfl, hB2.out, fun h => by rw [E.out] at h; cases h⟩
    case false =>
      by_cases h3 : t < x.time
      · have h3' : decide (t < x.time) = true := by simpa using h3
        have E : Hid (er = 4) := by show er = 4; rw [HE2.out, if_pos (.inr h3)]
        rw [hxf] at d2 g2 hB2
        go_wp2
        go_ret
        exact ⟨by rw [E.out]; rfl, hB2.out, fun h => by rw [E.out] at h; cases h⟩
      have h3' : decide (t < x.time) = false := by simpa using h3
      have HE3 : Hid (er = if 30 < (commSv ⟨clock, ws, ds⟩ n t i).done.length then 2 else 0) := by
        show er = _
        rw [HE2.out, if_neg]
        rw [hxf]
        rintro (h | h)
        · cases h
        · exact h3 h
      rw [hxf] at d2 g2 hB2
      clear h1 h2 h3 HE2
      have hgl : g < w1.heap.size := by have := cell_lt d0; simpa using this
      have hgne : g ≠ w1.heap.size := by omega
      have hbne : bk ≠ w1.heap.size := by have := g1.size; omega
      have oW1 := hid (ownsRow_grow OW.out g1)
      have oD1 := hid (ownsRow_grow OD.out g1)
      have y0 := oW1.out.frozenAt (i * 3)
      have y1 := oW1.out.frozenAt (i * 3 + 1)
      have y2 := oW1.out.frozenAt (i * 3 + 2)
      have hgbk : g ≠ bk := AP1.out _ rfl
      have hbkg : bk ≠ g := Ne.symm hgbk
      have zf := free_of_block k1.out 0
      have x0 := cell_grow g2 d0
      have x1 := cell_grow g2 d1
      have x2 := cell_grow g2 d2
      have z0 := cell_grow g2 e0
      have z1 := cell_grow g2 e1
      have zz0 : ((((w1.setCell ⟨g, i * 3, none⟩ (.int .i64 n)).setCell ⟨g, i * 3 + 1, none⟩ (.int .i64 t)).setCell ⟨g, i * 3 + 2, none⟩ (.bool true)).alloc (Obj.cells #[.int .i64 n, .int .i64 x.time, .bool false] 64)).cell? ⟨bk, 0, none⟩ = some (.int .i64 clock) :=
        cell_grow ((Grow.refl _).alloc _) (cell_of_block (block_far (a := ⟨g, i * 3 + 2, none⟩) hbkg (block_far (a := ⟨g, i * 3 + 1, none⟩) hbkg (block_far (a := ⟨g, i * 3, none⟩) hbkg k1.out))) rfl)
      have zzf : ((((w1.setCell ⟨g, i * 3, none⟩ (.int .i64 n)).setCell ⟨g, i * 3 + 1, none⟩ (.int .i64 t)).setCell ⟨g, i * 3 + 2, none⟩ (.bool true)).alloc (Obj.cells #[.int .i64 n, .int .i64 x.time, .bool false] 64)).frozen? ⟨bk, 0, none⟩ = false :=
        free_of_block (grow_block ((Grow.refl _).alloc _) (block_far (a := ⟨g, i * 3 + 2, none⟩) hbkg (block_far (a := ⟨g, i * 3 + 1, none⟩) hbkg (block_far (a := ⟨g, i * 3, none⟩) hbkg k1.out)))) 0
      by_cases hmx : clock < t
      · have hmx' : decide (clock < t) = true := by simpa using hmx
        have KW := hid (((KeepAt.write k1.out hbase oW1.out oD1.out hgbk AP2.out (fun y hy => AP3.out _ y rfl hy) i ⟨n, t, true⟩).grow ((Grow.refl _).alloc (Obj.cells #[.int .i64 n, .int .i64 x.time, .bool false] 64))).tick t)
        have HMX : Hid (max clock t = t) := by show max clock t = t; omega
        go_wp2_with fail
        refine (settle_any base bk _ _ KW.out (by simpa using hl) hl2).mono ?_
        rintro e w5 ⟨rfl, K5, B5, hd38⟩
        simp only [List.length_set] at K5 hd38
        have BW : Hid (Below base w w5) := Below.trans ((Below.alloc (((hB1.out.setCell (p := ⟨g, i * 3, none⟩) (oW1.out.lt g rfl).1 (.int .i64 n)).setCell (p := ⟨g, i * 3 + 1, none⟩) (oW1.out.lt g rfl).1 (.int .i64 t)).setCell (p := ⟨g, i * 3 + 2, none⟩) (oW1.out.lt g rfl).1 (.bool true)) (by have := g1.size; simp [World.setCell]; omega) _).setCell (p := ⟨bk, 0, none⟩) (by simpa using hbase) (.int .i64 t)) B5
        have K5' : Hid (KeepAt base bk w5 (commSv ⟨clock, ws, ds⟩ n t i)) := by
          show KeepAt base bk w5 ⟨max clock t, _, _⟩
          rw [HMX.out]
          exact K5
        have HLD : Hid ((commSv ⟨clock, ws, ds⟩ n t i).done.length ≤ 38) := hd38
        clear K5 B5 hd38 KW x0 x1 x2 z0 z1 zz0 zzf y0 y1 y2 zf d0 d1 d2 e0 e1
        generalize hr : commSv ⟨clock, ws, ds⟩ n t i = r at *
        have HR := hid hr
        clear hr
        obtain ⟨bW, dW, bD, dD, k5, _⟩ := K5'.out
        have c2 := cell_of_block (o := 2) k5 rfl; simp at c2
        by_cases h30 : (30 : Int) < (r.done.length : Int)
        · have h30' : decide ((30 : Int) < (r.done.length : Int)) = true := by simpa using h30
          have E : Hid (er = 2) := by show er = 2; rw [HE3.out, if_pos (by omega)]
          clear h30
          go_wp2
          go_ret
          exact ⟨by rw [E.out]; rfl, BW.out, fun h => by rw [E.out] at h; cases h⟩
        · have h30' : decide ((30 : Int) < (r.done.length : Int)) = false := by simpa using h30
          have E : Hid (er = 0) := by show er = 0; rw [HE3.out, if_neg (by omega)]
          clear h30
          go_wp2
          go_ret
          exact ⟨by rw [E.out]; rfl, BW.out, fun _ j hj => by rw [HFI.out] at hj; cases hj; rw [HR.out]; exact K5'.out⟩
      · have hmx' : decide (clock < t) = false := by simpa using hmx
        have KW := hid (((KeepAt.write k1.out hbase oW1.out oD1.out hgbk AP2.out (fun y hy => AP3.out _ y rfl hy) i ⟨n, t, true⟩).grow ((Grow.refl _).alloc (Obj.cells #[.int .i64 n, .int .i64 x.time, .bool false] 64))).tick clock)
        have HMX : Hid (max clock t = clock) := by show max clock t = clock; omega
        go_wp2_with fail
        refine (settle_any base bk _ _ KW.out (by simpa using hl) hl2).mono ?_
        rintro e w5 ⟨rfl, K5, B5, hd38⟩
        simp only [List.length_set] at K5 hd38
        have BW : Hid (Below base w w5) := Below.trans ((Below.alloc (((hB1.out.setCell (p := ⟨g, i * 3, none⟩) (oW1.out.lt g rfl).1 (.int .i64 n)).setCell (p := ⟨g, i * 3 + 1, none⟩) (oW1.out.lt g rfl).1 (.int .i64 t)).setCell (p := ⟨g, i * 3 + 2, none⟩) (oW1.out.lt g rfl).1 (.bool true)) (by have := g1.size; simp [World.setCell]; omega) _).setCell (p := ⟨bk, 0, none⟩) (by simpa using hbase) (.int .i64 clock)) B5
        have K5' : Hid (KeepAt base bk w5 (commSv ⟨clock, ws, ds⟩ n t i)) := by
          show KeepAt base bk w5 ⟨max clock t, _, _⟩
          rw [HMX.out]
          exact K5
        have HLD : Hid ((commSv ⟨clock, ws, ds⟩ n t i).done.length ≤ 38) := hd38
        clear K5 B5 hd38 KW x0 x1 x2 z0 z1 zz0 zzf y0 y1 y2 zf d0 d1 d2 e0 e1
        generalize hr : commSv ⟨clock, ws, ds⟩ n t i = r at *
        have HR := hid hr
        clear hr
        obtain ⟨bW, dW, bD, dD, k5, _⟩ := K5'.out
        have c2 := cell_of_block (o := 2) k5 rfl; simp at c2
        by_cases h30 : (30 : Int) < (r.done.length : Int)
        · have h30' : decide ((30 : Int) < (r.done.length : Int)) = true := by simpa using h30
          have E : Hid (er = 2) := by show er = 2; rw [HE3.out, if_pos (by omega)]
          clear h30
          go_wp2
          go_ret
          exact ⟨by rw [E.out]; rfl, BW.out, fun h => by rw [E.out] at h; cases h⟩
        · have h30' : decide ((30 : Int) < (r.done.length : Int)) = false := by simpa using h30
          have E : Hid (er = 0) := by show er = 0; rw [HE3.out, if_neg (by omega)]
          clear h30
          go_wp2
          go_ret
          exact ⟨by rw [E.out]; rfl, BW.out, fun _ j hj => by rw [HFI.out] at hj; cases hj; rw [HR.out]; exact K5'.out⟩
end Go.Proofs.Ytlpdoloolagcbab
