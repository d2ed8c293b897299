/- The document's bytes of an entry: cutwaterref.EntryBytes. -/
import Derived.Test.YtikdncgjaomlcaaR2
namespace Go.Proofs.Ytikdncgjaomlcaa
open Go.RowKit

/-- One byte. -/
def ob (n : Int) : ByteArray := strOfNums [n % 256]
theorem ob_size (n : Int) : (ob n).size = 1 := rfl
theorem ob_in {n : Int} (h : 0 ≤ n ∧ n < 256) : ob n = strOfNums [n] := by unfold ob; rw [mod_in h]
theorem strOfNums_append (xs ys : List Int) : strOfNums xs ++ strOfNums ys = strOfNums (xs ++ ys) := by
  unfold strOfNums
  ext1
  simp [ByteArray.data_append]
set_option maxHeartbeats 1000000 in
theorem oneByte_any (n : Int) (w : World) : Calls Try.prog 37 #[.int .i64 n] w fun e w' => e = .returned (.string (ob n)) ∧ Grow w w' := by
  have hconv := run_convert_bytes_arg (P := Try.prog) (w.alloc (Obj.cells #[Value.int IntKind.u8 (n % 256)] 5)) 59 5 Try.underlying59 Try.underlying5 w.heap.size 0 1 1 [n % 256] rfl (fun i hi => by
    obtain rfl : i = 0 := by omega
    simp) 9 Try.underlying9
  go_enter Try.func37, Try.ntmps37
  go_wp2
  go_ret
  exact ⟨rfl, (Grow.refl _).alloc _⟩

set_option maxHeartbeats 4000000 in
theorem entryBytes_any (r n c : Int) (s : ByteArray) (a : Option Addr) (len cap : Nat) (R N : Nat → Int) (w : World) (hids : IdsAt w a len R N) (herr : checkErr r n c s.size len R N = 0) :
    Calls Try.prog 12 #[.agg #[.int .i64 r, .int .i64 n, .int .i64 c, .string s, .slice a len cap]] w fun e w' => e = .returned (.string (encStr r n c s len R N)) ∧ Grow w w' := by
  obtain ⟨hr, hn, hc, htl, hlen, -, hk⟩ := fine_of herr
  have HI : Hid (IdsAt w a len R N) := hids
  have HK : Hid (∀ k, k < len → (0 ≤ R k ∧ R k ≤ 1) ∧ 1 ≤ N k ∧ N k ≤ 20) := hk
  clear hids herr hk
  have hob := ob_size
  have hlen' : (len : Int) ≤ 6 := by omega
  go_enter Try.func12, Try.ntmps12
  go_wp2_with fail
  have e0 := cell_grow (Grow.refl (w.alloc (Obj.cells #[Value.int IntKind.i64 r, Value.int IntKind.i64 n, Value.int IntKind.i64 c, Value.string s, Value.slice a len cap] 26))).drew (a := ⟨w.heap.size, 0, none⟩) (v := .int .i64 r) (by simp)
  have e1 := cell_grow (Grow.refl (w.alloc (Obj.cells #[Value.int IntKind.i64 r, Value.int IntKind.i64 n, Value.int IntKind.i64 c, Value.string s, Value.slice a len cap] 26))).drew (a := ⟨w.heap.size, 1, none⟩) (v := .int .i64 n) (by simp)
  have e2 := cell_grow (Grow.refl (w.alloc (Obj.cells #[Value.int IntKind.i64 r, Value.int IntKind.i64 n, Value.int IntKind.i64 c, Value.string s, Value.slice a len cap] 26))).drew (a := ⟨w.heap.size, 2, none⟩) (v := .int .i64 c) (by simp)
  have e3 := cell_grow (Grow.refl (w.alloc (Obj.cells #[Value.int IntKind.i64 r, Value.int IntKind.i64 n, Value.int IntKind.i64 c, Value.string s, Value.slice a len cap] 26))).drew (a := ⟨w.heap.size, 3, none⟩) (v := .string s) (by simp)
  have e4 := cell_grow (Grow.refl (w.alloc (Obj.cells #[Value.int IntKind.i64 r, Value.int IntKind.i64 n, Value.int IntKind.i64 c, Value.string s, Value.slice a len cap] 26))).drew (a := ⟨w.heap.size, 4, none⟩) (v := .slice a len cap) (by simp)
  have G1 : Grow w (w.alloc (Obj.cells #[Value.int IntKind.i64 r, Value.int IntKind.i64 n, Value.int IntKind.i64 c, Value.string s, Value.slice a len cap] 26)).drew := ((Grow.refl w).alloc _).drew
  refine wp_region_path [(0, 0), (1, 0), (2, 0), (4, 0), (5, 0), (6, 0), (9, 0), (10, 0), (13, 0), (14, 0), (15, 0), (3, 1), (7, 1), (8, 2), (11, 1), (12, 2), (16, 1), (17, 2), (18, 0)] (by kernel_rfl) (by kernel_rfl) (by kernel_rfl) (by kernel_rfl) ?_
  simp only [parts, headed, headed2, List.getElem?_toArray, List.getElem?_cons_zero, List.getElem?_cons_succ]
  refine parts_step fun K HK => ?_
  go_wp2_with fail
  refine (oneByte_any _ _).mono ?_
  rintro e w23 ⟨rfl, hg⟩
  replace e0 := cell_grow hg e0
  replace e1 := cell_grow hg e1
  replace e2 := cell_grow hg e2
  replace e3 := cell_grow hg e3
  replace e4 := cell_grow hg e4
  replace G1 := G1.trans hg
  go_wp2_with fail
  refine HK.out _ _ hg ?_
  clear HK K
  refine parts_step fun K HK => ?_
  go_wp2_with fail
  refine (oneByte_any _ _).mono ?_
  rintro e w27 ⟨rfl, hg⟩
  replace e0 := cell_grow hg e0
  replace e1 := cell_grow hg e1
  replace e2 := cell_grow hg e2
  replace e3 := cell_grow hg e3
  replace e4 := cell_grow hg e4
  replace G1 := G1.trans hg
  go_wp2_with fail
  refine HK.out _ _ hg ?_
  clear HK K
  refine parts_step2 (fun hw => by first | (cases hw; done) | (apply looks_run; intro w'; go_simp; try first | rfl | rw [if_neg (by omega)])) fun K HK => ?_
  go_wp2_with fail
  refine (oneByte_any _ _).mono ?_
  rintro e w211 ⟨rfl, hg⟩
  replace e0 := cell_grow hg e0
  replace e1 := cell_grow hg e1
  replace e2 := cell_grow hg e2
  replace e3 := cell_grow hg e3
  replace e4 := cell_grow hg e4
  replace G1 := G1.trans hg
  go_wp2_with fail
  refine HK.out _ _ hg ?_
  clear HK K
  refine parts_step2 (fun hw => by first | (cases hw; done) | (apply looks_run; intro w'; go_simp; try first | rfl | rw [if_neg (by omega)])) fun K HK => ?_
  go_wp2_with fail
  refine (oneByte_any _ _).mono ?_
  rintro e w216 ⟨rfl, hg⟩
  replace e0 := cell_grow hg e0
  replace e1 := cell_grow hg e1
  replace e2 := cell_grow hg e2
  replace e3 := cell_grow hg e3
  replace e4 := cell_grow hg e4
  replace G1 := G1.trans hg
  go_wp2_with fail
  refine HK.out _ _ hg ?_
  clear HK K
  refine parts_step2 (fun hw => by first | (cases hw; done) | (apply looks_run; intro w'; go_simp; try first | rfl | rw [if_neg (by omega)])) fun K HK => ?_
  go_wp2_with fail
  refine HK.out _ _ (Grow.refl _) ?_
  clear HK K
  refine parts_done ?_
  go_wp2
  have HS : Hid (ob r ++ ob n ++ ob c ++ ob len = strOfNums ([r, n, c, (len : Int)] ++ linkNums R N 0)) := by
    rw [ob_in (by omega), ob_in (by omega), ob_in (by omega), ob_in (by omega), strOfNums_append, strOfNums_append, strOfNums_append]; rfl
  go_loopw [3, 4] (fun t i wr => ∃ k : Nat, k ≤ len ∧ i = .int .i64 k ∧ t = .string (strOfNums ([r, n, c, (len : Int)] ++ linkNums R N k)) ∧ Grow w wr ∧ wr.cell? ⟨w.heap.size, 0, none⟩ = some (.int .i64 r) ∧ wr.cell? ⟨w.heap.size, 1, none⟩ = some (.int .i64 n) ∧ wr.cell? ⟨w.heap.size, 2, none⟩ = some (.int .i64 c) ∧ wr.cell? ⟨w.heap.size, 3, none⟩ = some (.string s) ∧ wr.cell? ⟨w.heap.size, 4, none⟩ = some (.slice a len cap)) (fun _ i _ => len - (intOf i).toNat)
  case atStart => exact ⟨0, Nat.zero_le _, rfl, by rw [HS.out], G1, e0, e1, e2, e3, e4⟩
  case round =>
    clear e0 e1 e2 e3 e4 G1 HS
    obtain ⟨k, hkl, rfl, rfl, G1, e0, e1, e2, e3, e4⟩ := hrel
    obtain ⟨A, hA⟩ : ∃ A, A = strOfNums ([r, n, c, (len : Int)] ++ linkNums R N k) := ⟨_, rfl⟩
    have hAl : A.size ≤ 20 := by rw [hA, strOfNums_size, List.length_append, linkNums_length]; simp; omega
    rw [← hA]
    have HA : Hid (A = strOfNums ([r, n, c, (len : Int)] ++ linkNums R N k)) := hA
    clear hA
    by_cases hlt : k < len
    · obtain ⟨b, off, rfl, c0, c1⟩ := (HI.out.grow G1).at k hlt
      have d0 := cell_grow (Grow.refl wr).drew (c0 k hlt)
      have d1 := cell_grow (Grow.refl wr).drew (c1 k hlt)
      have hlt' : (k : Int) < (len : Int) := by omega
      have hid := HK.out k hlt
      clear c0 c1
      go_wp2_with fail
      replace e0 := cell_grow (Grow.refl wr).drew e0
      replace e1 := cell_grow (Grow.refl wr).drew e1
      replace e2 := cell_grow (Grow.refl wr).drew e2
      replace e3 := cell_grow (Grow.refl wr).drew e3
      replace e4 := cell_grow (Grow.refl wr).drew e4
      replace G1 := G1.drew
      refine wp_region_path [(0, 0), (1, 0), (2, 0), (3, 0), (4, 0), (5, 0), (6, 0), (8, 0), (9, 0), (10, 0), (11, 0), (12, 0), (13, 0), (7, 1), (14, 1), (15, 2), (16, 2), (17, 0)] (by kernel_rfl) (by kernel_rfl) (by kernel_rfl) (by kernel_rfl) ?_
      simp only [parts, headed, headed2, List.getElem?_toArray, List.getElem?_cons_zero, List.getElem?_cons_succ]
      refine parts_step fun K HK => ?_
      go_wp2_with fail
      refine (oneByte_any _ _).mono ?_
      rintro e w27 ⟨rfl, hg⟩
      replace e0 := cell_grow hg e0
      replace e1 := cell_grow hg e1
      replace e2 := cell_grow hg e2
      replace e3 := cell_grow hg e3
      replace e4 := cell_grow hg e4
      replace d0 := cell_grow hg d0
      replace d1 := cell_grow hg d1
      replace G1 := G1.trans hg
      go_wp2_with fail
      refine HK.out _ _ hg ?_
      clear HK K
      refine parts_step fun K HK => ?_
      go_wp2_with fail
      refine (oneByte_any _ _).mono ?_
      rintro e w214 ⟨rfl, hg⟩
      replace e0 := cell_grow hg e0
      replace e1 := cell_grow hg e1
      replace e2 := cell_grow hg e2
      replace e3 := cell_grow hg e3
      replace e4 := cell_grow hg e4
      replace d0 := cell_grow hg d0
      replace d1 := cell_grow hg d1
      replace G1 := G1.trans hg
      go_wp2_with fail
      refine HK.out _ _ hg ?_
      clear HK K
      refine parts_step2 (fun hw => by first | (cases hw; done) | (apply looks_run; intro w'; go_simp; try first | rfl | rw [if_neg (by omega)])) fun K HK => ?_
      go_wp2_with fail
      refine HK.out _ _ (Grow.refl _) ?_
      clear HK K
      refine parts_step2 (fun hw => by first | (cases hw; done) | (apply looks_run; intro w'; go_simp; try first | rfl | rw [if_neg (by omega)])) fun K HK => ?_
      go_wp2_with fail
      refine HK.out _ _ (Grow.refl _) ?_
      clear HK K
      refine parts_done ?_
      go_wp2
      go_roundw
      case rel => exact ⟨k + 1, by omega, by go_num, by rw [linkNums_succ, ← List.append_assoc, ← strOfNums_append, ← HA.out, ob_in (by omega), ob_in (by omega), strOfNums_append]; rfl, G1, e0, e1, e2, e3, e4⟩
      case measure => simp [intOf]; omega
    · obtain rfl : k = len := by omega
      go_wp2_with fail
      replace e0 := cell_grow (Grow.refl wr).drew e0
      replace e1 := cell_grow (Grow.refl wr).drew e1
      replace e2 := cell_grow (Grow.refl wr).drew e2
      replace e3 := cell_grow (Grow.refl wr).drew e3
      replace e4 := cell_grow (Grow.refl wr).drew e4
      replace G1 := G1.drew
      refine wp_region_path [(0, 0), (1, 0), (2, 0), (3, 0), (6, 0), (7, 0), (4, 1), (5, 2), (8, 2), (9, 0)] (by kernel_rfl) (by kernel_rfl) (by kernel_rfl) (by kernel_rfl) ?_
      simp only [parts, headed, headed2, List.getElem?_toArray, List.getElem?_cons_zero, List.getElem?_cons_succ]
      refine parts_step fun K HK => ?_
      go_wp2_with fail
      refine (oneByte_any _ _).mono ?_
      rintro e w24 ⟨rfl, hg⟩
      replace e0 := cell_grow hg e0
      replace e1 := cell_grow hg e1
      replace e2 := cell_grow hg e2
      replace e3 := cell_grow hg e3
      replace e4 := cell_grow hg e4
      replace G1 := G1.trans hg
      go_wp2_with fail
      refine HK.out _ _ hg ?_
      clear HK K
      refine parts_step2 (fun hw => by first | (cases hw; done) | (apply looks_run; intro w'; go_simp; try first | rfl | rw [if_neg (by omega)])) fun K HK => ?_
      go_wp2_with fail
      refine HK.out _ _ (Grow.refl _) ?_
      clear HK K
      refine parts_step2 (fun hw => by first | (cases hw; done) | (apply looks_run; intro w'; go_simp; try first | rfl | rw [if_neg (by omega)])) fun K HK => ?_
      go_wp2_with fail
      refine HK.out _ _ (Grow.refl _) ?_
      clear HK K
      refine parts_done ?_
      go_wp2
      go_ret
      have hfin : A ++ ob s.size ++ s = encStr r n c s k R N := by rw [HA.out, ob_in (by omega), strOfNums_append]; rfl
      exact ⟨by rw [← hfin]; rfl, G1⟩
end Go.Proofs.Ytikdncgjaomlcaa
