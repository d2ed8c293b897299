/- entry.Encode: what it answers, whatever it is handed. -/
import Derived.Test.YtikdncgjaomlcaaD
namespace Go.Proofs.Ytikdncgjaomlcaa
open Go.RowKit

theorem isReg_of {r : Int} (h : isReg r = true) : 0 ≤ r ∧ r ≤ 1 := by
  simp [isReg] at h; omega
theorem isId_of {r n : Int} (h : isIdB r n = true) : (0 ≤ r ∧ r ≤ 1) ∧ 1 ≤ n ∧ n ≤ 20 := by
  simp [isIdB] at h; exact ⟨isReg_of h.1, h.2⟩
theorem linksErr_zero (r n : Int) (R N : Nat → Int) : ∀ m, linksErr r n R N m = 0 → ∀ k, k < m → linkErr r n R N k = 0 := by
  intro m h k hk
  by_cases h0 : linksErr r n R N k = 0
  · by_cases h1 : linkErr r n R N k = 0
    · exact h1
    · have := linksErr_at r n R N k m h0 h1 hk
      omega
  · have := linksErr_stays r n R N k h0 m (by omega)
    omega
theorem linkErr_id {r n : Int} {R N : Nat → Int} {k : Nat} (h : linkErr r n R N k = 0) : isIdB (R k) (N k) = true := by
  unfold linkErr at h
  cases hid : isIdB (R k) (N k)
  · simp [hid] at h
  · rfl
/-- What an entry is of which Check says OK. -/
structure Fine (r n c : Int) (tl len : Nat) (R N : Nat → Int) : Prop where
  reg : 0 ≤ r ∧ r ≤ 1
  num : 1 ≤ n ∧ n ≤ 20
  col : 1 ≤ c ∧ c ≤ 7
  text : tl ≤ 12
  many : len ≤ 6
  links : linksErr r n R N len = 0
  ids : ∀ k, k < len → (0 ≤ R k ∧ R k ≤ 1) ∧ 1 ≤ N k ∧ N k ≤ 20
theorem fine_of {r n c : Int} {tl len : Nat} {R N : Nat → Int} (h : checkErr r n c tl len R N = 0) : Fine r n c tl len R N := by
  unfold checkErr at h
  split at h
  · omega
  · rename_i h1
    split at h
    · omega
    · rename_i h2
      have hid : isIdB r n = true := by
        cases hid : isIdB r n
        · simp [hid] at h1
        · rfl
      have := isId_of hid
      exact ⟨this.1, this.2, by omega, by omega, by omega, h, fun k hk => isId_of (linkErr_id (linksErr_zero r n R N len h k hk))⟩

def linkNums (R N : Nat → Int) (k : Nat) : List Int := (List.range k).flatMap fun j => [R j, N j]
theorem linkNums_succ (R N : Nat → Int) (k : Nat) : linkNums R N (k + 1) = linkNums R N k ++ [R k, N k] := by simp [linkNums, List.range_succ]
theorem linkNums_length (R N : Nat → Int) : ∀ k, (linkNums R N k).length = 2 * k
  | 0 => rfl
  | k + 1 => by rw [linkNums_succ, List.length_append, linkNums_length R N k]; simp; omega
def encNums (r n c : Int) (tl len : Nat) (R N : Nat → Int) : List Int := ([r, n, c, (len : Int)] ++ linkNums R N len) ++ [(tl : Int)]
def encStr (r n c : Int) (s : ByteArray) (len : Nat) (R N : Nat → Int) : ByteArray := strOfNums (encNums r n c s.size len R N) ++ s

set_option maxHeartbeats 1000000 in
theorem encode_err (r n c : Int) (s : ByteArray) (a : Option Addr) (len cap : Nat) (R N : Nat → Int) (w : World) (hids : IdsAt w a len R N) (hs : s.size ≤ 9223372036854775807) (herr : checkErr r n c s.size len R N ≠ 0) :
    Calls Try.prog 9 #[.agg #[.int .i64 r, .int .i64 n, .int .i64 c, .string s, .slice a len cap]] w fun e w' => e = .returned (.tuple #[.string ⟨#[]⟩, .int .i64 (checkErr r n c s.size len R N)]) ∧ Grow w w' := by
  have HI : Hid (IdsAt w a len R N) := hids
  clear hids
  have hne : (checkErr r n c s.size len R N != 0) = true := by simpa using herr
  go_enter Try.func9, Try.ntmps9
  go_wp2_with (go_at_call 17; refine (check_any _ _ _ _ _ _ _ R N _ (HI.out.grow ((Grow.refl _).alloc _)) hs).mono ?_; rintro e w1 ⟨rfl, hb1⟩)
  go_ret2
  exact ⟨rfl, ((Grow.refl _).alloc _).trans hb1⟩

set_option maxHeartbeats 2000000 in
theorem encode_ok (r n c : Int) (s : ByteArray) (a : Option Addr) (len cap : Nat) (R N : Nat → Int) (w : World) (hids : IdsAt w a len R N) (herr : checkErr r n c s.size len R N = 0) :
    Calls Try.prog 9 #[.agg #[.int .i64 r, .int .i64 n, .int .i64 c, .string s, .slice a len cap]] w fun e w' => e = .returned (.tuple #[.string (encStr r n c s len R N), .int .i64 0]) ∧ Grow w w' := by
  have fine := fine_of herr
  obtain ⟨hr, hn, hc, htl, hlen, -, hk⟩ := fine
  have hlen' : (len : Int) ≤ 6 := by omega
  have HI : Hid (IdsAt w a len R N) := hids
  have HE : Hid (checkErr r n c s.size len R N = 0) := herr
  have HK : Hid (∀ k, k < len → (0 ≤ R k ∧ R k ≤ 1) ∧ 1 ≤ N k ∧ N k ≤ 20) := hk
  clear hids herr hk
  go_enter Try.func9, Try.ntmps9
  go_wp2_with (go_at_call 17; refine (check_any _ _ _ _ _ _ _ R N _ (HI.out.grow ((Grow.refl _).alloc _)) (by omega)).mono ?_; rw [HE.out]; rintro e w1 ⟨rfl, hb1⟩; have g0 := cell_grow hb1 (a := ⟨w.heap.size, 0, none⟩) (v := .int .i64 r) (by simp); have g1 := cell_grow hb1 (a := ⟨w.heap.size, 1, none⟩) (v := .int .i64 n) (by simp); have g2 := cell_grow hb1 (a := ⟨w.heap.size, 2, none⟩) (v := .int .i64 c) (by simp); have g3 := cell_grow hb1 (a := ⟨w.heap.size, 3, none⟩) (v := .string s) (by simp); have g4 := cell_grow hb1 (a := ⟨w.heap.size, 4, none⟩) (v := .slice a len cap) (by simp); have hlt : w.heap.size < w1.heap.size := cell_lt g0)
  have hw0 : Writer (w1.alloc (Obj.cells #[Value.slice none 0 0] 61)) w1.heap.size (.slice none 0 0) [] := ⟨heap_alloc_new w1 _, World.ownsRow_nil _ _ _ _⟩
  refine (put4 w1.heap.size r n c len _ [] _ (w1.heap.size + 1) (by simp) hw0 (by simp) (by omega) (by omega) (by omega) (by omega)).mono ?_
  rintro e w2 ⟨rfl, ⟨v2, hw2⟩, hb2⟩
  have G2 : Grow (w.alloc (Obj.cells #[Value.int IntKind.i64 r, Value.int IntKind.i64 n, Value.int IntKind.i64 c, Value.string s, Value.slice a len cap] 26)) w2 := Grow.trans hb1 (Below.trans (Below.alloc (Below.refl _ _) (Nat.le_refl _) _) hb2)
  have hS2 := lt_of_block hw2.block
  have HB : Hid (w.heap.size < w1.heap.size) := hlt
  clear g0 g1 g2 g3 g4 hlt hw0 hb1 hb2
  have g3 := cell_grow G2 (a := ⟨w.heap.size, 3, none⟩) (v := .string s) (by simp)
  have g4 := cell_grow G2 (a := ⟨w.heap.size, 4, none⟩) (v := .slice a len cap) (by simp)
  have hlt : w.heap.size < w2.heap.size := cell_lt g3
  go_wp2
  have HX : Hid (([] ++ [r, n, c, (len : Int)] : List Int) ++ linkNums R N 0 = [r, n, c, (len : Int)] ++ linkNums R N 0) := rfl
  go_loopw [29] (fun i wr => ∃ k : Nat, ∃ v', k ≤ len ∧ i = .int .i64 k ∧ Writer wr w1.heap.size v' ([r, n, c, (len : Int)] ++ linkNums R N k) ∧ Grow (w.alloc (Obj.cells #[Value.int IntKind.i64 r, Value.int IntKind.i64 n, Value.int IntKind.i64 c, Value.string s, Value.slice a len cap] 26)) wr) (fun i _ => len - (intOf i).toNat)
  case atStart => exact ⟨0, v2, Nat.zero_le _, rfl, hw2, G2⟩
  case round =>
    obtain ⟨k, v', hkl, rfl, hw', hG⟩ := hrel
    obtain ⟨ys, hys⟩ : ∃ ys, ys = [r, n, c, (len : Int)] ++ linkNums R N k := ⟨_, rfl⟩
    rw [← hys] at hw'
    have hyl : ys.length ≤ 20 := by rw [hys, List.length_append, linkNums_length]; simp; omega
    have HY : Hid (ys = [r, n, c, (len : Int)] ++ linkNums R N k) := hys
    clear hys hw2 G2 g3 g4 hlt
    have hgw : Grow w wr := ((Grow.refl _).alloc _).trans hG
    by_cases hlt : k < len
    · obtain ⟨b, off, rfl, c0, c1⟩ := (HI.out.grow hgw).at k hlt
      have d0 := c0 k hlt
      have d1 := c1 k hlt
      have hlt' : (k : Int) < (len : Int) := by omega
      have hid := HK.out k hlt
      clear c0 c1
      have hsz := lt_of_block hw'.block
      have hb := cell_lt d0
      simp only at hb
      go_wp2_with fail
      refine (put2 w1.heap.size (R k) (N k) _ ys (wr.alloc (Obj.cells #[Value.int IntKind.i64 (R k), Value.int IntKind.i64 (N k)] 23)) (wr.heap.size + 1) (by simp) ⟨by rw [Below.heap_alloc _ _ _ hsz]; exact hw'.block, hw'.row.alloc _⟩ (by omega) (by omega) (by omega)).mono ?_
      rintro e w3 ⟨rfl, ⟨v3, hw3⟩, hb3⟩
      have G3 : Grow (w.alloc _) w3 := Below.trans hG (Below.trans (Below.alloc (Below.refl _ _) (by simp; have := HB.out; omega) _) (Below.mono hb3 (by simp; have := HB.out; omega)))
      rw [HY.out, List.append_assoc, ← linkNums_succ] at hw3
      clear hG hgw hid hb d0 d1 hw'
      go_wp2
      go_roundw
      case rel => exact ⟨k + 1, v3, by omega, by go_num, hw3, G3⟩
      case measure => simp [intOf]; omega
    · obtain rfl : k = len := by omega
      have g3 := cell_grow hG (a := ⟨w.heap.size, 3, none⟩) (v := .string s) (by simp)
      have hsl : w.heap.size < wr.heap.size := cell_lt g3
      go_wp2_with fail
      refine (put1 w1.heap.size s.size _ ys wr wr.heap.size rfl hw' (by omega) (by omega)).mono ?_
      rintro e w3 ⟨rfl, ⟨v3, hw3⟩, hb3⟩
      have G3 : Grow (w.alloc _) w3 := Below.trans hG (Below.mono hb3 (by simp; have := HB.out; omega))
      have e3 := cell_grow G3 (a := ⟨w.heap.size, 3, none⟩) (v := .string s) (by simp)
      obtain ⟨g, cp, rfl, -, -⟩ := hw3.row.form (by simp)
      have e4 := cell_of_one hw3.block
      obtain ⟨zs, hzs⟩ : ∃ zs, zs = ys ++ [(s.size : Int)] := ⟨_, rfl⟩
      rw [← hzs] at hw3 e4
      have hcells := hw3.row.cells (g := g) rfl
      have hconv := run_convert_bytes_arg (P := Try.prog) w3 59 5 Try.underlying59 Try.underlying5 g 0 zs.length cp zs rfl (fun i hi => by
        have := hcells i (.int .u8 (zs.getD i 0)) (by simp [List.getElem?_eq_getElem hi])
        rw [show (⟨g, 0 + i, none⟩ : Addr) = (⟨g, 0, none⟩ : Addr).add i from by unfold Addr.add; split <;> simp_all]
        exact this) 9 Try.underlying9
      have HZ : Hid (zs = ys ++ [(s.size : Int)]) := hzs
      have hzl : zs.length ≤ 21 := by rw [hzs, List.length_append]; simp; omega
      have hzl' : (strOfNums zs).size ≤ 21 := by rw [strOfNums_size]; exact hzl
      clear hzs hcells
      go_wp2
      go_ret2
      have hz : strOfNums zs ++ s = encStr r n c s k R N := by rw [HZ.out, HY.out]; rfl
      exact ⟨by rw [← hz]; rfl, ((Grow.refl _).alloc _).trans G3⟩
end Go.Proofs.Ytikdncgjaomlcaa
