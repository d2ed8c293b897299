/- cutwaterlaw.EntryBack answers true, whatever it is handed. -/
import Derived.Test.YtikdncgjaomlcaaK
namespace Go.Proofs.Ytikdncgjaomlcaa
open Go.RowKit

set_option maxHeartbeats 4000000 in
theorem entryBack_walk (r n c : Int) (s : ByteArray) (a : Option Addr) (len cap : Nat) (R N : Nat → Int) (u : ByteArray) (w : World) (hids : IdsAt w a len R N) (hs : s.size ≤ 9223372036854775807) (hu : u.size ≤ 140737488351232) :
    Calls Try.prog 4 #[.agg #[.int .i64 r, .int .i64 n, .int .i64 c, .string s, .slice a len cap], .string u] w fun e w' => e = .returned (.bool true) ∧ Grow w w' := by
  have HI : Hid (IdsAt w a len R N) := hids
  clear hids
  have heq := run_eql23 0 0 0 0
  rw [show same2 0 0 0 0 = true from rfl] at heq
  go_enter Try.func4, Try.ntmps4
  go_wp2_with fail
  refine (entryBegun_any _).mono ?_
  rintro e w1 ⟨rfl, g1⟩
  have c0 := cell_grow g1 (a := ⟨w.heap.size, 0, none⟩) (v := .int .i64 r) (by simp)
  have c1 := cell_grow g1 (a := ⟨w.heap.size, 1, none⟩) (v := .int .i64 n) (by simp)
  have c2 := cell_grow g1 (a := ⟨w.heap.size, 2, none⟩) (v := .int .i64 c) (by simp)
  have c3 := cell_grow g1 (a := ⟨w.heap.size, 3, none⟩) (v := .string s) (by simp)
  have c4 := cell_grow g1 (a := ⟨w.heap.size, 4, none⟩) (v := .slice a len cap) (by simp)
  have i1 := (HI.out.grow ((Grow.refl _).alloc _)).grow g1
  have G1 := ((Grow.refl w).alloc _).trans g1
  clear g1
  go_wp2_with fail
  by_cases herr : checkErr r n c s.size len R N = 0
  · have hfine := fine_of herr
    have htl := hfine.text
    have hml := hfine.many
    have hesz : (encStr r n c s len R N).size ≤ 100 := by rw [encStr, size_nums, encNums_length]; omega
    have HE : Hid (checkErr r n c s.size len R N = 0) := herr
    have HDE := decode_encode herr u
    have HB : Hid (Back (encStr r n c s len R N ++ u) r n c s len R N) := back_of hfine u
    have H1 : Hid (decErr (encStr r n c s len R N ++ u) = 0) := HDE.1
    have H2 : Hid (entrySize (encStr r n c s len R N ++ u) = (encStr r n c s len R N).size) := HDE.2.1
    have H3 : Hid (entryText (encStr r n c s len R N ++ u) = s) := HDE.2.2
    clear HDE hfine herr
    refine (encode_ok r n c s a len cap R N _ i1 HE.out).mono ?_
    rintro e w2 ⟨rfl, g2⟩
    replace c0 := cell_grow g2 c0
    replace c1 := cell_grow g2 c1
    replace c2 := cell_grow g2 c2
    replace c3 := cell_grow g2 c3
    replace c4 := cell_grow g2 c4
    replace i1 := i1.grow g2
    replace G1 := G1.trans g2
    clear g2
    have hcat : (encStr r n c s len R N).size + u.size ≤ 9223372036854775807 := by omega
    go_wp2_with fail
    refine (decode_ok (encStr r n c s len R N ++ u) _ (by rw [ByteArray.size_append]; omega) H1.out).mono ?_
    rintro e w3 ⟨x, cx, rfl, g3, i3⟩
    rw [HB.out.b0, HB.out.b1, HB.out.b2, HB.out.b3, H2.out, H3.out]
    rw [HB.out.b3] at i3
    replace c0 := cell_grow g3 c0
    replace c1 := cell_grow g3 c1
    replace c2 := cell_grow g3 c2
    replace c3 := cell_grow g3 c3
    replace c4 := cell_grow g3 c4
    replace i1 := i1.grow g3
    replace G1 := G1.trans g3
    have hlt := cell_lt c0
    clear g3
    go_wp2_with fail
    refine (sameEntry_any r n c s x len cx (entryR (encStr r n c s len R N ++ u)) (entryN (encStr r n c s len R N ++ u)) r n c s a len cap R N _ (i3.grow ((Grow.refl _).alloc _)) (i1.grow ((Grow.refl _).alloc _))).mono ?_
    rw [sameEntry_self (fun k hk => ⟨HB.out.bR k hk, HB.out.bN k hk⟩)]
    rintro e w3b ⟨rfl, g3b⟩
    replace G1 := (G1.alloc _).trans g3b
    clear g3b c0 c1 c2 c3 c4 i1 i3 hlt
    go_wp2_with fail
    by_cases hdec : decErr u = 0
    · have HD : Hid (decErr u = 0) := hdec
      have hstop : entryStop u = none := by
        cases h0 : entryStop u with
        | none => rfl
        | some x => unfold decErr at hdec; rw [h0] at hdec; have := entryStop_ne h0; simp only at hdec; omega
      have hchk : checkErr (bAt u 0) (bAt u 1) (bAt u 2) (entryText u).size (bAt u 3) (entryR u) (entryN u) = 0 := by unfold decErr at hdec; rw [hstop] at hdec; exact hdec
      have HC : Hid (checkErr (bAt u 0) (bAt u 1) (bAt u 2) (entryText u).size (bAt u 3) (entryR u) (entryN u) = 0) := hchk
      have HK : Hid (encStr (bAt u 0) (bAt u 1) (bAt u 2) (entryText u) (bAt u 3) (entryR u) (entryN u) = u.extract 0 (entrySize u)) := encode_decode hstop
      have hsz := (entryText_size hstop).2
      have hszi : (entrySize u : Int) ≤ (u.size : Int) := by omega
      clear hdec hchk hstop
      refine (decode_ok u _ (by omega) HD.out).mono ?_
      rintro e w4 ⟨x, cx, rfl, g4, i4⟩
      go_wp2_with fail
      refine (encode_ok _ _ _ _ x _ cx (entryR u) (entryN u) _ (i4.grow ((Grow.refl _).alloc _)) HC.out).mono ?_
      rw [HK.out]
      rintro e w5 ⟨rfl, g5⟩
      go_wp2
      go_ret
      exact ⟨rfl, ((G1.trans g4).alloc _).trans g5⟩
    · have HD : Hid (decErr u ≠ 0) := hdec
      have hde : (decErr u != 0) = true := by simpa using hdec
      clear hdec
      refine (decode_err u _ (by omega) HD.out).mono ?_
      rintro e w4 ⟨rfl, g4⟩
      go_wp2
      go_ret
      exact ⟨rfl, (G1.trans g4).alloc _⟩
  · have HE : Hid (checkErr r n c s.size len R N ≠ 0) := herr
    have hne : (checkErr r n c s.size len R N == 0) = false := by simpa using herr
    clear herr
    refine (encode_err r n c s a len cap R N _ i1 (by omega) HE.out).mono ?_
    rintro e w2 ⟨rfl, g2⟩
    replace G1 := G1.trans g2
    clear c0 c1 c2 c3 c4 i1 g2
    go_wp2_with fail
    by_cases hdec : decErr u = 0
    · have HD : Hid (decErr u = 0) := hdec
      have hstop : entryStop u = none := by
        cases h0 : entryStop u with
        | none => rfl
        | some x => unfold decErr at hdec; rw [h0] at hdec; have := entryStop_ne h0; simp only at hdec; omega
      have hchk : checkErr (bAt u 0) (bAt u 1) (bAt u 2) (entryText u).size (bAt u 3) (entryR u) (entryN u) = 0 := by unfold decErr at hdec; rw [hstop] at hdec; exact hdec
      have HC : Hid (checkErr (bAt u 0) (bAt u 1) (bAt u 2) (entryText u).size (bAt u 3) (entryR u) (entryN u) = 0) := hchk
      have HK : Hid (encStr (bAt u 0) (bAt u 1) (bAt u 2) (entryText u) (bAt u 3) (entryR u) (entryN u) = u.extract 0 (entrySize u)) := encode_decode hstop
      have hsz := (entryText_size hstop).2
      have hszi : (entrySize u : Int) ≤ (u.size : Int) := by omega
      clear hdec hchk hstop
      refine (decode_ok u _ (by omega) HD.out).mono ?_
      rintro e w4 ⟨x, cx, rfl, g4, i4⟩
      go_wp2_with fail
      refine (encode_ok _ _ _ _ x _ cx (entryR u) (entryN u) _ (i4.grow ((Grow.refl _).alloc _)) HC.out).mono ?_
      rw [HK.out]
      rintro e w5 ⟨rfl, g5⟩
      go_wp2
      go_ret
      exact ⟨rfl, ((G1.trans g4).alloc _).trans g5⟩
    · have HD : Hid (decErr u ≠ 0) := hdec
      have hde : (decErr u != 0) = true := by simpa using hdec
      clear hdec
      refine (decode_err u _ (by omega) HD.out).mono ?_
      rintro e w4 ⟨rfl, g4⟩
      go_wp2
      go_ret
      exact ⟨rfl, (G1.trans g4).alloc _⟩
end Go.Proofs.Ytikdncgjaomlcaa
