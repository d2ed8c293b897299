/- SkeenAfter: the walk. -/
import Derived.Test.YtlpdoloolagcbabSM
import Derived.Test.YtlpdoloolagcbabSR
namespace Go.Proofs.Ytlpdoloolagcbab
open Go.RowKit

set_option maxHeartbeats 8000000 in
set_option maxRecDepth 100000 in
theorem skeenAfter_walk (s : Sv) (v : Value) (n t : Int) (w : World) (hs : SvAt w s v) :
    Calls Try.prog 7 #[v, .int .i64 n, .int .i64 t] w fun e w' => e = .returned (.bool true) ∧ Grow w w' := by
  have HS := hid hs
  obtain ⟨aW, cW, aD, cD, rfl, hws, hds⟩ := hs
  have hWs := hid hws
  have hDs := hid hds
  have hlw := hws.1
  have hld := hds.1
  clear hws hds
  have g0 : Grow w (w.alloc (Obj.cells #[.int .i64 s.clock, .slice aW s.waits.length cW, .slice aD s.done.length cD] 43)) := (Grow.refl w).alloc _
  have k0 := hid (heap_alloc_new w (Obj.cells #[.int .i64 s.clock, .slice aW s.waits.length cW, .slice aD s.done.length cD] 43 (0, 0)))
  go_enter Try.func7, Try.ntmps7
  go_wp2_with fail
  refine (skeenBegun_any _).mono ?_
  rintro e w1 ⟨rfl, g1⟩
  have k1 := hid (grow_block g1 k0.out)
  have G1 := hid (g0.trans g1)
  have S1 := hid (HS.out.grow G1.out)
  clear g0 g1 k0
  have d0 := cell_of_block (o := 0) k1.out rfl; simp at d0
  have d1 := cell_of_block (o := 1) k1.out rfl; simp at d1
  have d2 := cell_of_block (o := 2) k1.out rfl; simp at d2
  go_wp2_with fail
  refine (sprop_any s _ n _ S1.out).mono ?_
  rintro e w2 ⟨v2, rfl, s2, g2, _⟩
  obtain ⟨r2, rfl, s2⟩ := s2.raw
  have HPF := hid (@prop_facts s n)
  generalize s.propE n = er2 at *
  generalize s.propR n = R2 at *
  have S2 := hid s2
  clear s2 d0 d1 d2
  unfold Rs.val
  have g3 : Grow w2 (w2.alloc (Obj.cells #[.int .i64 r2.clock, .slice r2.aW r2.nW r2.cW, .slice r2.aD r2.nD r2.cD] 43)) := (Grow.refl w2).alloc _
  have k3 := hid (heap_alloc_new w2 (Obj.cells #[.int .i64 r2.clock, .slice r2.aW r2.nW r2.cW, .slice r2.aD r2.nD r2.cD] 43 (0, 0)))
  have KB := hid (grow_block (g2.trans g3) k1.out)
  have SB := hid (S1.out.grow (g2.trans g3))
  have GT := hid (G1.out.trans (g2.trans g3))
  have S3 := hid (S2.out.grow g3)
  have hBA : w.heap.size ≠ w2.heap.size := by have := lt_of_block (grow_block g2 k1.out); omega
  clear k1 G1 S1 g2 S2
  by_cases h0 : er2 = 0
  case neg =>
    have hx0 : (er2 == 0) = false := by simpa using h0
    have hx1 : (er2 != 0) = true := by simpa using h0
    clear h0 HPF k3 S3 g3
-- the last part: Commit of what was handed in
    have d0 : _ = some (Value.int .i64 s.clock) := cell_of_block (o := 0) KB.out rfl
    have d1 : _ = some (Value.slice aW s.waits.length cW) := cell_of_block (o := 1) KB.out rfl
    have d2 : _ = some (Value.slice aD s.done.length cD) := cell_of_block (o := 2) KB.out rfl
    go_wp2_with fail
    refine (scomm_any s _ n t _ SB.out).mono ?_
    rintro e w7 ⟨v7, rfl, s7, g7, _⟩
    obtain ⟨r7, rfl, s7⟩ := s7.raw
    have HF7 := hid (@comm_facts s n t)
    have HZ7 := hid (@commR_zero s n t)
    generalize s.commE n t = er7 at *
    generalize s.commR n t = R7 at *
    obtain ⟨q1, q2, q3⟩ := s7.vals
    obtain ⟨c7, aW7, nW7, cW7, aD7, nD7, cD7⟩ := r7
    simp only at q1 q2 q3
    subst q1
    subst q2
    subst q3
    have S7 := hid s7
    clear s7 d0 d1 d2
    unfold Rs.val
    simp only
    have g8 : Grow w7 (w7.alloc (Obj.cells #[.int .i64 R7.clock, .slice aW7 R7.waits.length cW7, .slice aD7 R7.done.length cD7] 43)) := (Grow.refl w7).alloc _
    have k8 := hid (heap_alloc_new w7 (Obj.cells #[.int .i64 R7.clock, .slice aW7 R7.waits.length cW7, .slice aD7 R7.done.length cD7] 43 (0, 0)))
    have B8 := hid (grow_block (g7.trans g8) KB.out)
    have S8 := hid (S7.out.grow g8)
    have SB8 := hid (SB.out.grow (g7.trans g8))
    have G8 := hid (GT.out.trans (g7.trans g8))
    have hB7 : w.heap.size < w7.heap.size := lt_of_block (grow_block g7 KB.out)
    clear g7 KB SB GT S7
    by_cases h0 : er7 = 0
    case neg =>
      have hx0 : (er7 == 0) = false := by simpa using h0
      have hx1 : (er7 != 0) = true := by simpa using h0
      have ER := HZ7.out h0
      subst ER
      clear h0 HF7 HZ7
      simp only [zeroSv, List.length_nil] at *
      go_wp2
      go_ret
      exact ⟨rfl, G8.out⟩
    case pos =>
      subst h0
      obtain ⟨f1, f2, f3, ⟨l7, f4⟩, f5⟩ := HF7.out rfl
      obtain ⟨_, fl1, fl2, _, _, _⟩ := Sv.fine f1
      obtain ⟨_, gl1, gl2, _, _, _⟩ := Sv.fine f2
      have F4 := hid f4
      have F5 := hid f5
      have F2 := hid f2
      have hlen : s.done.length ≤ R7.done.length := by rw [f4]; simp
      have hlen' : decide ((R7.done.length : Int) < (s.done.length : Int)) = false := by simp; omega
      have hclk' : decide (R7.clock < s.clock) = false := by simp; omega
      clear HF7 HZ7 f1 f2 f4 f5
      obtain ⟨hW8s, hW8d⟩ : WaitsAt (w7.alloc (Obj.cells #[.int .i64 R7.clock, .slice aW7 R7.waits.length cW7, .slice aD7 R7.done.length cD7] 43)) aW7 cW7 R7.waits ∧ IntsAt (w7.alloc (Obj.cells #[.int .i64 R7.clock, .slice aW7 R7.waits.length cW7, .slice aD7 R7.done.length cD7] 43)) aD7 cD7 R7.done := by
        obtain ⟨_, _, _, _, e, h1, h2⟩ := S8.out
        cases e
        exact ⟨h1, h2⟩
      have HD8 := hid hW8d
      clear hW8s hW8d g8
      have b0 : _ = some (Value.int .i64 s.clock) := cell_of_block (o := 0) B8.out rfl
      have b1 : _ = some (Value.slice aW s.waits.length cW) := cell_of_block (o := 1) B8.out rfl
      have b2 : _ = some (Value.slice aD s.done.length cD) := cell_of_block (o := 2) B8.out rfl
      have c0 : _ = some (Value.int .i64 R7.clock) := cell_of_block (o := 0) k8.out rfl
      have c1 : _ = some (Value.slice aW7 R7.waits.length cW7) := cell_of_block (o := 1) k8.out rfl
      have c2 : _ = some (Value.slice aD7 R7.done.length cD7) := cell_of_block (o := 2) k8.out rfl
      go_wp2_with fail
      refine (scheck_any R7 _ _ S8.out).mono ?_
      rw [F2.out]
      rintro e w9 ⟨rfl, g9⟩
      have B9 := hid (grow_block g9 B8.out)
      have k9 := hid (grow_block g9 k8.out)
      have HD9 := hid (HD8.out.grow g9)
      have SB9 : Hid (IntsAt w9 aD cD s.done) := (hDs.out.grow (G8.out.trans g9))
      have G9 := hid (G8.out.trans g9)
      clear b0 b1 b2 c0 c1 c2 g9 B8 k8 HD8 SB8 S8 G8
      go_wp2_with fail
      go_loopw [14] (fun i wr => ∃ k : Nat, k ≤ s.done.length ∧ i = .int .i64 k ∧ Grow w9 wr) (fun i _ => s.done.length - (intOf i).toNat)
      case atStart => exact ⟨0, Nat.zero_le _, rfl, Grow.refl _⟩
      case round =>
        obtain ⟨k, hk, rfl, hGr⟩ := hrel
        have Bd := hid (grow_block hGr.drew B9.out)
        have kd := hid (grow_block hGr.drew k9.out)
        by_cases hlt : k < s.done.length
        · have hx : s.done[k]? = some s.done[k] := List.getElem?_eq_getElem hlt
          generalize s.done[k] = x at hx
          have hy : R7.done[k]? = some x := by rw [F4.out, List.getElem?_append_left hlt]; exact hx
          obtain ⟨bs, os, ea, m0⟩ := (SB9.out.grow hGr.drew).at1 hx
          obtain ⟨bc, oc, eb, m1⟩ := (HD9.out.grow hGr.drew).at1 hy
          subst ea
          subst eb
          clear hx hy
          have hlt' : (k : Int) < (s.done.length : Int) := by omega
          have hlt2 : (k : Int) < (R7.done.length : Int) := by omega
          have n0 := cell_of_block (o := 2) (grow_block hGr B9.out) rfl; simp at n0
          have hGD : Grow w9 wr.drew := hGr.drew
          go_wp2_with fail
          refine wp_region_path [(0, 0), (1, 0), (2, 0), (3, 0), (4, 0), (5, 0), (6, 0), (7, 0), (8, 0), (9, 0), (10, 2)] (by kernel_rfl) (by kernel_rfl) (by kernel_rfl) (by kernel_rfl) ?_
          simp only [parts, headed, headed2, List.getElem?_toArray, List.getElem?_cons_zero, List.getElem?_cons_succ]
          generalize wr.drew = Wd at *
          have b2 := cell_of_block (o := 2) Bd.out rfl; simp at b2
          have c2 := cell_of_block (o := 2) kd.out rfl; simp at c2
          refine parts_step fun K HK => ?_
          go_wp2_with fail
          refine HK.out _ _ (Grow.refl _) ?_
          clear HK K
          refine parts_step2 (fun hw => by first | (cases hw; done) | (apply looks_run; intro w'; go_simp; try first | rfl | rw [if_neg (by omega)] | rw [if_pos (by omega)])) fun K HK => ?_
          go_wp2_with fail
          refine HK.out _ _ (Grow.refl _) ?_
          clear HK K
          refine parts_done ?_
          go_wp2
          go_roundw
          case rel => exact ⟨k + 1, by omega, by go_num, hGD⟩
          case measure => simp [intOf]; omega
        · obtain rfl : k = s.done.length := by omega
          have Br := hid (grow_block hGr B9.out)
          have kr := hid (grow_block hGr k9.out)
          have b1 := cell_of_block (o := 1) Br.out rfl; simp at b1
          have b2 := cell_of_block (o := 2) Br.out rfl; simp at b2
          have c1 := cell_of_block (o := 1) kr.out rfl; simp at c1
          have c2 := cell_of_block (o := 2) kr.out rfl; simp at c2
          have hw1 : IntKind.i64.wrap ((R7.done.length : Int) + (R7.waits.length : Int)) = (R7.done.length : Int) + (R7.waits.length : Int) := by rw [IntKind.wrap_i64]; omega
          have hw2 : IntKind.i64.wrap ((s.done.length : Int) + (s.waits.length : Int)) = (s.done.length : Int) + (s.waits.length : Int) := by rw [IntKind.wrap_i64]; omega
          have hsum : Hid ((R7.done.length : Int) + (R7.waits.length : Int) = (s.done.length : Int) + (s.waits.length : Int)) := by show _ = _; have := F5.out; omega
          go_wp2
          go_ret
          exact ⟨by simp [hsum.out], G9.out.trans hGr⟩
  case pos =>
    subst h0
    obtain ⟨p1, pc, pt, pe, pw⟩ := HPF.out rfl
    obtain ⟨⟨pk1, pk2⟩, pl1, pl2, _, _, _⟩ := Sv.fine p1
    have PT := hid pt
    have PE := hid pe
    have PW := hid pw
    have hrc : Hid (r2.clock = R2.clock) := S3.out.vals.1
    clear HPF p1 pc pt pe pw
    have d0 : _ = some (Value.int .i64 s.clock) := cell_of_block (o := 0) KB.out rfl
    have d1 : _ = some (Value.slice aW s.waits.length cW) := cell_of_block (o := 1) KB.out rfl
    have d2 : _ = some (Value.slice aD s.done.length cD) := cell_of_block (o := 2) KB.out rfl
    go_wp2_with fail
    go_loopw [10] (fun i wr => ∃ k : Nat, k ≤ s.waits.length ∧ i = .int .i64 k ∧ Grow (w2.alloc (Obj.cells #[.int .i64 r2.clock, .slice r2.aW r2.nW r2.cW, .slice r2.aD r2.nD r2.cD] 43)) wr) (fun i _ => s.waits.length - (intOf i).toNat)
    case atStart => exact ⟨0, Nat.zero_le _, rfl, Grow.refl _⟩
    case round =>
      obtain ⟨k, hk, rfl, hGr⟩ := hrel
      clear d0 d1 d2
      have KBr := hid (grow_block hGr KB.out)
      have d1 := cell_of_block (o := 1) KBr.out rfl; simp at d1
      by_cases hlt : k < s.waits.length
      · have hx : s.waits[k]? = some s.waits[k] := List.getElem?_eq_getElem hlt
        generalize s.waits[k] = x at hx
        have hxt := PT.out x (List.mem_of_getElem? hx)
        have hxt' : decide (R2.clock ≤ x.time) = false := by simp; omega
        obtain ⟨bs, os, ea, m0, m1, m2⟩ := (hWs.out.grow (GT.out.trans hGr)).at3 hx
        subst ea
        clear hx m0 m2
        have hlt' : (k : Int) < (s.waits.length : Int) := by omega
        go_wp2
        go_roundw
        case rel => exact ⟨k + 1, by omega, by go_num, hGr⟩
        case measure => simp [intOf]; omega
      · obtain rfl : k = s.waits.length := by omega
        clear hlt hk
        have k4 := hid (grow_block hGr k3.out)
        have S4 := hid (S3.out.grow hGr)
        have a0 := cell_of_block (o := 0) k4.out rfl; simp at a0
        have a1 := cell_of_block (o := 1) k4.out rfl; simp at a1
        have a2 := cell_of_block (o := 2) k4.out rfl; simp at a2
        have SB4 := hid (SB.out.grow hGr)
        have GT4 := hid (GT.out.trans hGr)
        clear KB SB GT k3 S3 hGr g3
        go_wp2_with fail
        refine (scomm_any R2 _ n R2.clock _ S4.out).mono ?_
        rintro e w5 ⟨v5, rfl, s5, g5, _⟩
        obtain ⟨r5, rfl, s5⟩ := s5.raw
        obtain ⟨y1, y2, y3⟩ := s5.vals
        generalize R2.commE n R2.clock = er5 at *
        generalize R2.commR n R2.clock = R5 at *
        obtain ⟨c5, aW5, nW5, cW5, aD5, nD5, cD5⟩ := r5
        simp only at y1 y2 y3
        subst y1
        subst y2
        subst y3
        clear s5 a0 a1 a2 d1
        unfold Rs.val
        simp only
        have g6 : Grow w5 (w5.alloc (Obj.cells #[.int .i64 R5.clock, .slice aW5 R5.waits.length cW5, .slice aD5 R5.done.length cD5] 43)) := (Grow.refl w5).alloc _
        have KB := hid (grow_block (g5.trans g6) KBr.out)
        have SB := hid (SB4.out.grow (g5.trans g6))
        have GT := hid (GT4.out.trans (g5.trans g6))
        clear KBr SB4 GT4 g5 g6 k4 S4
        have hw3 : IntKind.i64.wrap ((s.done.length : Int) + 1) = (s.done.length : Int) + 1 := by rw [IntKind.wrap_i64]; omega
        rcases PE.out with h2 | h2
        · by_cases hz : s.waits = []
          · obtain ⟨z1, z2⟩ := PW.out hz h2
            subst h2
            have hz1 : ((s.waits.length : Int) == 0) = true := by rw [hz]; rfl
            rw [z1] at KB SB GT
            rw [z1]
            have z2' : ((R5.done.length : Int) == (s.done.length : Int) + 1) = true := by simp; omega
            have z3' : ((R5.done.length : Int) != (s.done.length : Int) + 1) = false := by simp; omega
            clear hz PW z1 z2 PE PT
            -- the last part: Commit of what was handed in
            have d0 : _ = some (Value.int .i64 s.clock) := cell_of_block (o := 0) KB.out rfl
            have d1 : _ = some (Value.slice aW s.waits.length cW) := cell_of_block (o := 1) KB.out rfl
            have d2 : _ = some (Value.slice aD s.done.length cD) := cell_of_block (o := 2) KB.out rfl
            go_wp2_with fail
            refine (scomm_any s _ n t _ SB.out).mono ?_
            rintro e w7 ⟨v7, rfl, s7, g7, _⟩
            obtain ⟨r7, rfl, s7⟩ := s7.raw
            have HF7 := hid (@comm_facts s n t)
            have HZ7 := hid (@commR_zero s n t)
            generalize s.commE n t = er7 at *
            generalize s.commR n t = R7 at *
            obtain ⟨q1, q2, q3⟩ := s7.vals
            obtain ⟨c7, aW7, nW7, cW7, aD7, nD7, cD7⟩ := r7
            simp only at q1 q2 q3
            subst q1
            subst q2
            subst q3
            have S7 := hid s7
            clear s7 d0 d1 d2
            unfold Rs.val
            simp only
            have g8 : Grow w7 (w7.alloc (Obj.cells #[.int .i64 R7.clock, .slice aW7 R7.waits.length cW7, .slice aD7 R7.done.length cD7] 43)) := (Grow.refl w7).alloc _
            have k8 := hid (heap_alloc_new w7 (Obj.cells #[.int .i64 R7.clock, .slice aW7 R7.waits.length cW7, .slice aD7 R7.done.length cD7] 43 (0, 0)))
            have B8 := hid (grow_block (g7.trans g8) KB.out)
            have S8 := hid (S7.out.grow g8)
            have SB8 := hid (SB.out.grow (g7.trans g8))
            have G8 := hid (GT.out.trans (g7.trans g8))
            have hB7 : w.heap.size < w7.heap.size := lt_of_block (grow_block g7 KB.out)
            clear g7 KB SB GT S7
            by_cases h0 : er7 = 0
            case neg =>
              have hx0 : (er7 == 0) = false := by simpa using h0
              have hx1 : (er7 != 0) = true := by simpa using h0
              have ER := HZ7.out h0
              subst ER
              clear h0 HF7 HZ7
              simp only [zeroSv, List.length_nil] at *
              go_wp2
              go_ret
              exact ⟨rfl, G8.out⟩
            case pos =>
              subst h0
              obtain ⟨f1, f2, f3, ⟨l7, f4⟩, f5⟩ := HF7.out rfl
              obtain ⟨_, fl1, fl2, _, _, _⟩ := Sv.fine f1
              obtain ⟨_, gl1, gl2, _, _, _⟩ := Sv.fine f2
              have F4 := hid f4
              have F5 := hid f5
              have F2 := hid f2
              have hlen : s.done.length ≤ R7.done.length := by rw [f4]; simp
              have hlen' : decide ((R7.done.length : Int) < (s.done.length : Int)) = false := by simp; omega
              have hclk' : decide (R7.clock < s.clock) = false := by simp; omega
              clear HF7 HZ7 f1 f2 f4 f5
              obtain ⟨hW8s, hW8d⟩ : WaitsAt (w7.alloc (Obj.cells #[.int .i64 R7.clock, .slice aW7 R7.waits.length cW7, .slice aD7 R7.done.length cD7] 43)) aW7 cW7 R7.waits ∧ IntsAt (w7.alloc (Obj.cells #[.int .i64 R7.clock, .slice aW7 R7.waits.length cW7, .slice aD7 R7.done.length cD7] 43)) aD7 cD7 R7.done := by
                obtain ⟨_, _, _, _, e, h1, h2⟩ := S8.out
                cases e
                exact ⟨h1, h2⟩
              have HD8 := hid hW8d
              clear hW8s hW8d g8
              have b0 : _ = some (Value.int .i64 s.clock) := cell_of_block (o := 0) B8.out rfl
              have b1 : _ = some (Value.slice aW s.waits.length cW) := cell_of_block (o := 1) B8.out rfl
              have b2 : _ = some (Value.slice aD s.done.length cD) := cell_of_block (o := 2) B8.out rfl
              have c0 : _ = some (Value.int .i64 R7.clock) := cell_of_block (o := 0) k8.out rfl
              have c1 : _ = some (Value.slice aW7 R7.waits.length cW7) := cell_of_block (o := 1) k8.out rfl
              have c2 : _ = some (Value.slice aD7 R7.done.length cD7) := cell_of_block (o := 2) k8.out rfl
              go_wp2_with fail
              refine (scheck_any R7 _ _ S8.out).mono ?_
              rw [F2.out]
              rintro e w9 ⟨rfl, g9⟩
              have B9 := hid (grow_block g9 B8.out)
              have k9 := hid (grow_block g9 k8.out)
              have HD9 := hid (HD8.out.grow g9)
              have SB9 : Hid (IntsAt w9 aD cD s.done) := (hDs.out.grow (G8.out.trans g9))
              have G9 := hid (G8.out.trans g9)
              clear b0 b1 b2 c0 c1 c2 g9 B8 k8 HD8 SB8 S8 G8
              go_wp2_with fail
              go_loopw [14] (fun i wr => ∃ k : Nat, k ≤ s.done.length ∧ i = .int .i64 k ∧ Grow w9 wr) (fun i _ => s.done.length - (intOf i).toNat)
              case atStart => exact ⟨0, Nat.zero_le _, rfl, Grow.refl _⟩
              case round =>
                obtain ⟨k, hk, rfl, hGr⟩ := hrel
                have Bd := hid (grow_block hGr.drew B9.out)
                have kd := hid (grow_block hGr.drew k9.out)
                by_cases hlt : k < s.done.length
                · have hx : s.done[k]? = some s.done[k] := List.getElem?_eq_getElem hlt
                  generalize s.done[k] = x at hx
                  have hy : R7.done[k]? = some x := by rw [F4.out, List.getElem?_append_left hlt]; exact hx
                  obtain ⟨bs, os, ea, m0⟩ := (SB9.out.grow hGr.drew).at1 hx
                  obtain ⟨bc, oc, eb, m1⟩ := (HD9.out.grow hGr.drew).at1 hy
                  subst ea
                  subst eb
                  clear hx hy
                  have hlt' : (k : Int) < (s.done.length : Int) := by omega
                  have hlt2 : (k : Int) < (R7.done.length : Int) := by omega
                  have n0 := cell_of_block (o := 2) (grow_block hGr B9.out) rfl; simp at n0
                  have hGD : Grow w9 wr.drew := hGr.drew
                  go_wp2_with fail
                  refine wp_region_path [(0, 0), (1, 0), (2, 0), (3, 0), (4, 0), (5, 0), (6, 0), (7, 0), (8, 0), (9, 0), (10, 2)] (by kernel_rfl) (by kernel_rfl) (by kernel_rfl) (by kernel_rfl) ?_
                  simp only [parts, headed, headed2, List.getElem?_toArray, List.getElem?_cons_zero, List.getElem?_cons_succ]
                  generalize wr.drew = Wd at *
                  have b2 := cell_of_block (o := 2) Bd.out rfl; simp at b2
                  have c2 := cell_of_block (o := 2) kd.out rfl; simp at c2
                  refine parts_step fun K HK => ?_
                  go_wp2_with fail
                  refine HK.out _ _ (Grow.refl _) ?_
                  clear HK K
                  refine parts_step2 (fun hw => by first | (cases hw; done) | (apply looks_run; intro w'; go_simp; try first | rfl | rw [if_neg (by omega)] | rw [if_pos (by omega)])) fun K HK => ?_
                  go_wp2_with fail
                  refine HK.out _ _ (Grow.refl _) ?_
                  clear HK K
                  refine parts_done ?_
                  go_wp2
                  go_roundw
                  case rel => exact ⟨k + 1, by omega, by go_num, hGD⟩
                  case measure => simp [intOf]; omega
                · obtain rfl : k = s.done.length := by omega
                  have Br := hid (grow_block hGr B9.out)
                  have kr := hid (grow_block hGr k9.out)
                  have b1 := cell_of_block (o := 1) Br.out rfl; simp at b1
                  have b2 := cell_of_block (o := 2) Br.out rfl; simp at b2
                  have c1 := cell_of_block (o := 1) kr.out rfl; simp at c1
                  have c2 := cell_of_block (o := 2) kr.out rfl; simp at c2
                  have hw1 : IntKind.i64.wrap ((R7.done.length : Int) + (R7.waits.length : Int)) = (R7.done.length : Int) + (R7.waits.length : Int) := by rw [IntKind.wrap_i64]; omega
                  have hw2 : IntKind.i64.wrap ((s.done.length : Int) + (s.waits.length : Int)) = (s.done.length : Int) + (s.waits.length : Int) := by rw [IntKind.wrap_i64]; omega
                  have hsum : Hid ((R7.done.length : Int) + (R7.waits.length : Int) = (s.done.length : Int) + (s.waits.length : Int)) := by show _ = _; have := F5.out; omega
                  go_wp2
                  go_ret
                  exact ⟨by simp [hsum.out], G9.out.trans hGr⟩
          · have hz0 : ¬ ((s.waits.length : Int) = 0) := by have := List.length_pos_iff.2 hz; omega
            have hz1 : ((s.waits.length : Int) == 0) = false := by simpa using hz0
            subst h2
            clear hz PW PE PT
            -- the last part: Commit of what was handed in
            have d0 : _ = some (Value.int .i64 s.clock) := cell_of_block (o := 0) KB.out rfl
            have d1 : _ = some (Value.slice aW s.waits.length cW) := cell_of_block (o := 1) KB.out rfl
            have d2 : _ = some (Value.slice aD s.done.length cD) := cell_of_block (o := 2) KB.out rfl
            go_wp2_with fail
            refine (scomm_any s _ n t _ SB.out).mono ?_
            rintro e w7 ⟨v7, rfl, s7, g7, _⟩
            obtain ⟨r7, rfl, s7⟩ := s7.raw
            have HF7 := hid (@comm_facts s n t)
            have HZ7 := hid (@commR_zero s n t)
            generalize s.commE n t = er7 at *
            generalize s.commR n t = R7 at *
            obtain ⟨q1, q2, q3⟩ := s7.vals
            obtain ⟨c7, aW7, nW7, cW7, aD7, nD7, cD7⟩ := r7
            simp only at q1 q2 q3
            subst q1
            subst q2
            subst q3
            have S7 := hid s7
            clear s7 d0 d1 d2
            unfold Rs.val
            simp only
            have g8 : Grow w7 (w7.alloc (Obj.cells #[.int .i64 R7.clock, .slice aW7 R7.waits.length cW7, .slice aD7 R7.done.length cD7] 43)) := (Grow.refl w7).alloc _
            have k8 := hid (heap_alloc_new w7 (Obj.cells #[.int .i64 R7.clock, .slice aW7 R7.waits.length cW7, .slice aD7 R7.done.length cD7] 43 (0, 0)))
            have B8 := hid (grow_block (g7.trans g8) KB.out)
            have S8 := hid (S7.out.grow g8)
            have SB8 := hid (SB.out.grow (g7.trans g8))
            have G8 := hid (GT.out.trans (g7.trans g8))
            have hB7 : w.heap.size < w7.heap.size := lt_of_block (grow_block g7 KB.out)
            clear g7 KB SB GT S7
            by_cases h0 : er7 = 0
            case neg =>
              have hx0 : (er7 == 0) = false := by simpa using h0
              have hx1 : (er7 != 0) = true := by simpa using h0
              have ER := HZ7.out h0
              subst ER
              clear h0 HF7 HZ7
              simp only [zeroSv, List.length_nil] at *
              go_wp2
              go_ret
              exact ⟨rfl, G8.out⟩
            case pos =>
              subst h0
              obtain ⟨f1, f2, f3, ⟨l7, f4⟩, f5⟩ := HF7.out rfl
              obtain ⟨_, fl1, fl2, _, _, _⟩ := Sv.fine f1
              obtain ⟨_, gl1, gl2, _, _, _⟩ := Sv.fine f2
              have F4 := hid f4
              have F5 := hid f5
              have F2 := hid f2
              have hlen : s.done.length ≤ R7.done.length := by rw [f4]; simp
              have hlen' : decide ((R7.done.length : Int) < (s.done.length : Int)) = false := by simp; omega
              have hclk' : decide (R7.clock < s.clock) = false := by simp; omega
              clear HF7 HZ7 f1 f2 f4 f5
              obtain ⟨hW8s, hW8d⟩ : WaitsAt (w7.alloc (Obj.cells #[.int .i64 R7.clock, .slice aW7 R7.waits.length cW7, .slice aD7 R7.done.length cD7] 43)) aW7 cW7 R7.waits ∧ IntsAt (w7.alloc (Obj.cells #[.int .i64 R7.clock, .slice aW7 R7.waits.length cW7, .slice aD7 R7.done.length cD7] 43)) aD7 cD7 R7.done := by
                obtain ⟨_, _, _, _, e, h1, h2⟩ := S8.out
                cases e
                exact ⟨h1, h2⟩
              have HD8 := hid hW8d
              clear hW8s hW8d g8
              have b0 : _ = some (Value.int .i64 s.clock) := cell_of_block (o := 0) B8.out rfl
              have b1 : _ = some (Value.slice aW s.waits.length cW) := cell_of_block (o := 1) B8.out rfl
              have b2 : _ = some (Value.slice aD s.done.length cD) := cell_of_block (o := 2) B8.out rfl
              have c0 : _ = some (Value.int .i64 R7.clock) := cell_of_block (o := 0) k8.out rfl
              have c1 : _ = some (Value.slice aW7 R7.waits.length cW7) := cell_of_block (o := 1) k8.out rfl
              have c2 : _ = some (Value.slice aD7 R7.done.length cD7) := cell_of_block (o := 2) k8.out rfl
              go_wp2_with fail
              refine (scheck_any R7 _ _ S8.out).mono ?_
              rw [F2.out]
              rintro e w9 ⟨rfl, g9⟩
              have B9 := hid (grow_block g9 B8.out)
              have k9 := hid (grow_block g9 k8.out)
              have HD9 := hid (HD8.out.grow g9)
              have SB9 : Hid (IntsAt w9 aD cD s.done) := (hDs.out.grow (G8.out.trans g9))
              have G9 := hid (G8.out.trans g9)
              clear b0 b1 b2 c0 c1 c2 g9 B8 k8 HD8 SB8 S8 G8
              go_wp2_with fail
              go_loopw [14] (fun i wr => ∃ k : Nat, k ≤ s.done.length ∧ i = .int .i64 k ∧ Grow w9 wr) (fun i _ => s.done.length - (intOf i).toNat)
              case atStart => exact ⟨0, Nat.zero_le _, rfl, Grow.refl _⟩
              case round =>
                obtain ⟨k, hk, rfl, hGr⟩ := hrel
                have Bd := hid (grow_block hGr.drew B9.out)
                have kd := hid (grow_block hGr.drew k9.out)
                by_cases hlt : k < s.done.length
                · have hx : s.done[k]? = some s.done[k] := List.getElem?_eq_getElem hlt
                  generalize s.done[k] = x at hx
                  have hy : R7.done[k]? = some x := by rw [F4.out, List.getElem?_append_left hlt]; exact hx
                  obtain ⟨bs, os, ea, m0⟩ := (SB9.out.grow hGr.drew).at1 hx
                  obtain ⟨bc, oc, eb, m1⟩ := (HD9.out.grow hGr.drew).at1 hy
                  subst ea
                  subst eb
                  clear hx hy
                  have hlt' : (k : Int) < (s.done.length : Int) := by omega
                  have hlt2 : (k : Int) < (R7.done.length : Int) := by omega
                  have n0 := cell_of_block (o := 2) (grow_block hGr B9.out) rfl; simp at n0
                  have hGD : Grow w9 wr.drew := hGr.drew
                  go_wp2_with fail
                  refine wp_region_path [(0, 0), (1, 0), (2, 0), (3, 0), (4, 0), (5, 0), (6, 0), (7, 0), (8, 0), (9, 0), (10, 2)] (by kernel_rfl) (by kernel_rfl) (by kernel_rfl) (by kernel_rfl) ?_
                  simp only [parts, headed, headed2, List.getElem?_toArray, List.getElem?_cons_zero, List.getElem?_cons_succ]
                  generalize wr.drew = Wd at *
                  have b2 := cell_of_block (o := 2) Bd.out rfl; simp at b2
                  have c2 := cell_of_block (o := 2) kd.out rfl; simp at c2
                  refine parts_step fun K HK => ?_
                  go_wp2_with fail
                  refine HK.out _ _ (Grow.refl _) ?_
                  clear HK K
                  refine parts_step2 (fun hw => by first | (cases hw; done) | (apply looks_run; intro w'; go_simp; try first | rfl | rw [if_neg (by omega)] | rw [if_pos (by omega)])) fun K HK => ?_
                  go_wp2_with fail
                  refine HK.out _ _ (Grow.refl _) ?_
                  clear HK K
                  refine parts_done ?_
                  go_wp2
                  go_roundw
                  case rel => exact ⟨k + 1, by omega, by go_num, hGD⟩
                  case measure => simp [intOf]; omega
                · obtain rfl : k = s.done.length := by omega
                  have Br := hid (grow_block hGr B9.out)
                  have kr := hid (grow_block hGr k9.out)
                  have b1 := cell_of_block (o := 1) Br.out rfl; simp at b1
                  have b2 := cell_of_block (o := 2) Br.out rfl; simp at b2
                  have c1 := cell_of_block (o := 1) kr.out rfl; simp at c1
                  have c2 := cell_of_block (o := 2) kr.out rfl; simp at c2
                  have hw1 : IntKind.i64.wrap ((R7.done.length : Int) + (R7.waits.length : Int)) = (R7.done.length : Int) + (R7.waits.length : Int) := by rw [IntKind.wrap_i64]; omega
                  have hw2 : IntKind.i64.wrap ((s.done.length : Int) + (s.waits.length : Int)) = (s.done.length : Int) + (s.waits.length : Int) := by rw [IntKind.wrap_i64]; omega
                  have hsum : Hid ((R7.done.length : Int) + (R7.waits.length : Int) = (s.done.length : Int) + (s.waits.length : Int)) := by show _ = _; have := F5.out; omega
                  go_wp2
                  go_ret
                  exact ⟨by simp [hsum.out], G9.out.trans hGr⟩
        · subst h2
          clear PW PE PT
          -- the last part: Commit of what was handed in
          have d0 : _ = some (Value.int .i64 s.clock) := cell_of_block (o := 0) KB.out rfl
          have d1 : _ = some (Value.slice aW s.waits.length cW) := cell_of_block (o := 1) KB.out rfl
          have d2 : _ = some (Value.slice aD s.done.length cD) := cell_of_block (o := 2) KB.out rfl
          go_wp2_with fail
          refine (scomm_any s _ n t _ SB.out).mono ?_
          rintro e w7 ⟨v7, rfl, s7, g7, _⟩
          obtain ⟨r7, rfl, s7⟩ := s7.raw
          have HF7 := hid (@comm_facts s n t)
          have HZ7 := hid (@commR_zero s n t)
          generalize s.commE n t = er7 at *
          generalize s.commR n t = R7 at *
          obtain ⟨q1, q2, q3⟩ := s7.vals
          obtain ⟨c7, aW7, nW7, cW7, aD7, nD7, cD7⟩ := r7
          simp only at q1 q2 q3
          subst q1
          subst q2
          subst q3
          have S7 := hid s7
          clear s7 d0 d1 d2
          unfold Rs.val
          simp only
          have g8 : Grow w7 (w7.alloc (Obj.cells #[.int .i64 R7.clock, .slice aW7 R7.waits.length cW7, .slice aD7 R7.done.length cD7] 43)) := (Grow.refl w7).alloc _
          have k8 := hid (heap_alloc_new w7 (Obj.cells #[.int .i64 R7.clock, .slice aW7 R7.waits.length cW7, .slice aD7 R7.done.length cD7] 43 (0, 0)))
          have B8 := hid (grow_block (g7.trans g8) KB.out)
          have S8 := hid (S7.out.grow g8)
          have SB8 := hid (SB.out.grow (g7.trans g8))
          have G8 := hid (GT.out.trans (g7.trans g8))
          have hB7 : w.heap.size < w7.heap.size := lt_of_block (grow_block g7 KB.out)
          clear g7 KB SB GT S7
          by_cases h0 : er7 = 0
          case neg =>
            have hx0 : (er7 == 0) = false := by simpa using h0
            have hx1 : (er7 != 0) = true := by simpa using h0
            have ER := HZ7.out h0
            subst ER
            clear h0 HF7 HZ7
            simp only [zeroSv, List.length_nil] at *
            go_wp2
            go_ret
            exact ⟨rfl, G8.out⟩
          case pos =>
            subst h0
            obtain ⟨f1, f2, f3, ⟨l7, f4⟩, f5⟩ := HF7.out rfl
            obtain ⟨_, fl1, fl2, _, _, _⟩ := Sv.fine f1
            obtain ⟨_, gl1, gl2, _, _, _⟩ := Sv.fine f2
            have F4 := hid f4
            have F5 := hid f5
            have F2 := hid f2
            have hlen : s.done.length ≤ R7.done.length := by rw [f4]; simp
            have hlen' : decide ((R7.done.length : Int) < (s.done.length : Int)) = false := by simp; omega
            have hclk' : decide (R7.clock < s.clock) = false := by simp; omega
            clear HF7 HZ7 f1 f2 f4 f5
            obtain ⟨hW8s, hW8d⟩ : WaitsAt (w7.alloc (Obj.cells #[.int .i64 R7.clock, .slice aW7 R7.waits.length cW7, .slice aD7 R7.done.length cD7] 43)) aW7 cW7 R7.waits ∧ IntsAt (w7.alloc (Obj.cells #[.int .i64 R7.clock, .slice aW7 R7.waits.length cW7, .slice aD7 R7.done.length cD7] 43)) aD7 cD7 R7.done := by
              obtain ⟨_, _, _, _, e, h1, h2⟩ := S8.out
              cases e
              exact ⟨h1, h2⟩
            have HD8 := hid hW8d
            clear hW8s hW8d g8
            have b0 : _ = some (Value.int .i64 s.clock) := cell_of_block (o := 0) B8.out rfl
            have b1 : _ = some (Value.slice aW s.waits.length cW) := cell_of_block (o := 1) B8.out rfl
            have b2 : _ = some (Value.slice aD s.done.length cD) := cell_of_block (o := 2) B8.out rfl
            have c0 : _ = some (Value.int .i64 R7.clock) := cell_of_block (o := 0) k8.out rfl
            have c1 : _ = some (Value.slice aW7 R7.waits.length cW7) := cell_of_block (o := 1) k8.out rfl
            have c2 : _ = some (Value.slice aD7 R7.done.length cD7) := cell_of_block (o := 2) k8.out rfl
            go_wp2_with fail
            refine (scheck_any R7 _ _ S8.out).mono ?_
            rw [F2.out]
            rintro e w9 ⟨rfl, g9⟩
            have B9 := hid (grow_block g9 B8.out)
            have k9 := hid (grow_block g9 k8.out)
            have HD9 := hid (HD8.out.grow g9)
            have SB9 : Hid (IntsAt w9 aD cD s.done) := (hDs.out.grow (G8.out.trans g9))
            have G9 := hid (G8.out.trans g9)
            clear b0 b1 b2 c0 c1 c2 g9 B8 k8 HD8 SB8 S8 G8
            go_wp2_with fail
            go_loopw [14] (fun i wr => ∃ k : Nat, k ≤ s.done.length ∧ i = .int .i64 k ∧ Grow w9 wr) (fun i _ => s.done.length - (intOf i).toNat)
            case atStart => exact ⟨0, Nat.zero_le _, rfl, Grow.refl _⟩
            case round =>
              obtain ⟨k, hk, rfl, hGr⟩ := hrel
              have Bd := hid (grow_block hGr.drew B9.out)
              have kd := hid (grow_block hGr.drew k9.out)
              by_cases hlt : k < s.done.length
              · have hx : s.done[k]? = some s.done[k] := List.getElem?_eq_getElem hlt
                generalize s.done[k] = x at hx
                have hy : R7.done[k]? = some x := by rw [F4.out, List.getElem?_append_left hlt]; exact hx
                obtain ⟨bs, os, ea, m0⟩ := (SB9.out.grow hGr.drew).at1 hx
                obtain ⟨bc, oc, eb, m1⟩ := (HD9.out.grow hGr.drew).at1 hy
                subst ea
                subst eb
                clear hx hy
                have hlt' : (k : Int) < (s.done.length : Int) := by omega
                have hlt2 : (k : Int) < (R7.done.length : Int) := by omega
                have n0 := cell_of_block (o := 2) (grow_block hGr B9.out) rfl; simp at n0
                have hGD : Grow w9 wr.drew := hGr.drew
                go_wp2_with fail
                refine wp_region_path [(0, 0), (1, 0), (2, 0), (3, 0), (4, 0), (5, 0), (6, 0), (7, 0), (8, 0), (9, 0), (10, 2)] (by kernel_rfl) (by kernel_rfl) (by kernel_rfl) (by kernel_rfl) ?_
                simp only [parts, headed, headed2, List.getElem?_toArray, List.getElem?_cons_zero, List.getElem?_cons_succ]
                generalize wr.drew = Wd at *
                have b2 := cell_of_block (o := 2) Bd.out rfl; simp at b2
                have c2 := cell_of_block (o := 2) kd.out rfl; simp at c2
                refine parts_step fun K HK => ?_
                go_wp2_with fail
                refine HK.out _ _ (Grow.refl _) ?_
                clear HK K
                refine parts_step2 (fun hw => by first | (cases hw; done) | (apply looks_run; intro w'; go_simp; try first | rfl | rw [if_neg (by omega)] | rw [if_pos (by omega)])) fun K HK => ?_
                go_wp2_with fail
                refine HK.out _ _ (Grow.refl _) ?_
                clear HK K
                refine parts_done ?_
                go_wp2
                go_roundw
                case rel => exact ⟨k + 1, by omega, by go_num, hGD⟩
                case measure => simp [intOf]; omega
              · obtain rfl : k = s.done.length := by omega
                have Br := hid (grow_block hGr B9.out)
                have kr := hid (grow_block hGr k9.out)
                have b1 := cell_of_block (o := 1) Br.out rfl; simp at b1
                have b2 := cell_of_block (o := 2) Br.out rfl; simp at b2
                have c1 := cell_of_block (o := 1) kr.out rfl; simp at c1
                have c2 := cell_of_block (o := 2) kr.out rfl; simp at c2
                have hw1 : IntKind.i64.wrap ((R7.done.length : Int) + (R7.waits.length : Int)) = (R7.done.length : Int) + (R7.waits.length : Int) := by rw [IntKind.wrap_i64]; omega
                have hw2 : IntKind.i64.wrap ((s.done.length : Int) + (s.waits.length : Int)) = (s.done.length : Int) + (s.waits.length : Int) := by rw [IntKind.wrap_i64]; omega
                have hsum : Hid ((R7.done.length : Int) + (R7.waits.length : Int) = (s.done.length : Int) + (s.waits.length : Int)) := by show _ = _; have := F5.out; omega
                go_wp2
                go_ret
                exact ⟨by simp [hsum.out], G9.out.trans hGr⟩
end Go.Proofs.Ytlpdoloolagcbab
