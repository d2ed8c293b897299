/- What is encoded is decoded as it was; what is decoded is encoded as it was: of the plain functions. -/
import Derived.Test.YtikdncgjaomlcaaJ
namespace Go.Proofs.Ytikdncgjaomlcaa
open Go.RowKit

theorem encNums_length (r n c : Int) (tl len : Nat) (R N : Nat → Int) : (encNums r n c tl len R N).length = 5 + len * 2 := by
  simp [encNums, linkNums_length]; omega
theorem linkNums_at (R N : Nat → Int) : ∀ k j, j < k → (linkNums R N k)[j * 2]? = some (R j) ∧ (linkNums R N k)[j * 2 + 1]? = some (N j)
  | 0, j, h => by omega
  | k + 1, j, h => by
    have hl := linkNums_length R N k
    rw [linkNums_succ]
    by_cases hj : j < k
    · have := linkNums_at R N k j hj
      rw [List.getElem?_append_left (by omega), List.getElem?_append_left (by omega)]
      exact this
    · obtain rfl : j = k := by omega
      rw [List.getElem?_append_right (by omega), List.getElem?_append_right (by omega), hl]
      rw [show j * 2 - 2 * j = 0 from by omega, show j * 2 + 1 - 2 * j = 1 from by omega]
      exact ⟨rfl, rfl⟩
theorem encNums_small {r n c : Int} {tl len : Nat} {R N : Nat → Int} (h : Fine r n c tl len R N) : ∀ x ∈ encNums r n c tl len R N, 0 ≤ x ∧ x < 256 := by
  intro x hx
  have h1 := h.reg
  have h2 := h.num
  have h3 := h.col
  have h4 := h.text
  have h5 := h.many
  simp only [encNums, linkNums, List.mem_append, List.mem_cons, List.mem_flatMap, List.mem_range, List.not_mem_nil, or_false] at hx
  rcases hx with ((rfl | rfl | rfl | rfl) | ⟨j, hj, rfl | rfl⟩) | rfl
  · omega
  · omega
  · omega
  · omega
  · have := h.ids j hj; omega
  · have := h.ids j hj; omega
  · omega

/-- The bytes of numbers, and what stands behind them. -/
theorem bAt_nums (xs : List Int) (u : ByteArray) (hx : ∀ x ∈ xs, 0 ≤ x ∧ x < 256) (p : Nat) (x : Int) (h : xs[p]? = some x) : (bAt (strOfNums xs ++ u) p : Int) = x := by
  have hm : x ∈ xs := List.mem_of_getElem? h
  have hb := hx x hm
  have hlt : p < xs.length := by
    rcases Nat.lt_or_ge p xs.length with hl | hl
    · exact hl
    · rw [List.getElem?_eq_none hl] at h; cases h
  unfold bAt
  rw [show (strOfNums xs ++ u).data.toList = (xs.map fun n => UInt8.ofNat n.toNat) ++ u.data.toList from by simp [strOfNums, ByteArray.data_append]]
  rw [List.getD_eq_getElem?_getD, List.getElem?_append_left (by simpa using hlt), List.getElem?_map, h]
  simp only [Option.map_some, Option.getD_some]
  rw [UInt8.toNat_ofNat']
  omega
theorem size_nums (xs : List Int) (u : ByteArray) : (strOfNums xs ++ u).size = xs.length + u.size := by
  rw [ByteArray.size_append, strOfNums_size]

structure Back (S : ByteArray) (r n c : Int) (s : ByteArray) (len : Nat) (R N : Nat → Int) : Prop where
  b0 : (bAt S 0 : Int) = r
  b1 : (bAt S 1 : Int) = n
  b2 : (bAt S 2 : Int) = c
  b3 : bAt S 3 = len
  bR : ∀ k, k < len → entryR S k = R k
  bN : ∀ k, k < len → entryN S k = N k
  bT : bAt S (4 + len * 2) = s.size
  sz : S.size = 5 + len * 2 + s.size + (S.size - (5 + len * 2 + s.size))
theorem back_of {r n c : Int} {s : ByteArray} {len : Nat} {R N : Nat → Int} (h : Fine r n c s.size len R N) (u : ByteArray) : Back (encStr r n c s len R N ++ u) r n c s len R N := by
  have hs := encNums_small h
  have hl := encNums_length r n c s.size len R N
  have e : encStr r n c s len R N ++ u = strOfNums (encNums r n c s.size len R N) ++ (s ++ u) := by rw [encStr, ByteArray.append_assoc]
  rw [e]
  have at' := bAt_nums (encNums r n c s.size len R N) (s ++ u) hs
  have hln := linkNums_length R N len
  refine ⟨at' 0 r (by simp [encNums]), at' 1 n (by simp [encNums]), at' 2 c (by simp [encNums]), ?_, ?_, ?_, ?_, ?_⟩
  · have := at' 3 len (by simp [encNums])
    omega
  · intro k hk
    refine at' (4 + k * 2) (R k) ?_
    have := (linkNums_at R N len k hk).1
    simp only [encNums]
    rw [List.getElem?_append_left (by simp [hln]; omega), List.getElem?_append_right (by simp), show 4 + k * 2 - [r, n, c, (len : Int)].length = k * 2 from by simp]
    exact this
  · intro k hk
    refine at' (4 + k * 2 + 1) (N k) ?_
    have := (linkNums_at R N len k hk).2
    simp only [encNums]
    rw [List.getElem?_append_left (by simp [hln]; omega), List.getElem?_append_right (by simp; omega), show 4 + k * 2 + 1 - [r, n, c, (len : Int)].length = k * 2 + 1 from by simp; omega]
    exact this
  · have := at' (4 + len * 2) s.size (by
      simp only [encNums]
      rw [List.getElem?_append_right (by simp [hln]; omega)]
      simp [hln]
      rw [show 4 + len * 2 - (2 * len + 1 + 1 + 1 + 1) = 0 from by omega]; rfl)
    omega
  · rw [size_nums, hl, ByteArray.size_append]; omega
theorem linksStop_ok {S : ByteArray} {p len : Nat} (hsz : p + len * 2 ≤ S.size) (h : ∀ k, k < len → isReg (bAt S (p + k * 2)) = true) : ∀ k, k ≤ len → linksStop S p k = none
  | 0, _ => rfl
  | k + 1, hk => by
    rw [linksStop_step S p k (linksStop_ok hsz h k (by omega)), idStop, if_neg (by omega), if_neg (by rw [h k (by omega)]; simp), if_neg (by omega)]
theorem isReg_mk {r : Int} (h : 0 ≤ r ∧ r ≤ 1) : isReg r = true := by simp [isReg]; omega
theorem linkErr_congr {r n : Int} {R N R' N' : Nat → Int} {k : Nat} (h : ∀ j, j ≤ k → R j = R' j ∧ N j = N' j) : linkErr r n R N k = linkErr r n R' N' k := by
  unfold linkErr
  rw [(h k (Nat.le_refl _)).1, (h k (Nat.le_refl _)).2, (h (k - 1) (by omega)).1, (h (k - 1) (by omega)).2]
theorem linksErr_congr {r n : Int} {R N R' N' : Nat → Int} : ∀ {k : Nat}, (∀ j, j < k → R j = R' j ∧ N j = N' j) → linksErr r n R N k = linksErr r n R' N' k
  | 0, _ => rfl
  | k + 1, h => by
    simp only [linksErr]
    rw [linksErr_congr (k := k) (fun j hj => h j (by omega)), linkErr_congr (k := k) (fun j hj => h j (by omega))]
theorem checkErr_congr {r n c : Int} {tl len : Nat} {R N R' N' : Nat → Int} (h : ∀ j, j < len → R j = R' j ∧ N j = N' j) : checkErr r n c tl len R N = checkErr r n c tl len R' N' := by
  unfold checkErr; rw [linksErr_congr h]

/-- A3: what is encoded is decoded as it was, whatever stands behind. -/
theorem decode_encode {r n c : Int} {s : ByteArray} {len : Nat} {R N : Nat → Int} (herr : checkErr r n c s.size len R N = 0) (u : ByteArray) :
    decErr (encStr r n c s len R N ++ u) = 0 ∧ entrySize (encStr r n c s len R N ++ u) = (encStr r n c s len R N).size ∧ entryText (encStr r n c s len R N ++ u) = s := by
  have hf := fine_of herr
  have hB := back_of hf u
  have hsz : (encStr r n c s len R N).size = 5 + len * 2 + s.size := by rw [encStr, size_nums, encNums_length]
  have hsize : entrySize (encStr r n c s len R N ++ u) = 5 + len * 2 + s.size := by unfold entrySize; rw [hB.b3, hB.bT]
  have htext : entryText (encStr r n c s len R N ++ u) = s := by
    unfold entryText
    rw [hsize, hB.b3]
    have e : encStr r n c s len R N ++ u = strOfNums (encNums r n c s.size len R N) ++ (s ++ u) := by rw [encStr, ByteArray.append_assoc]
    rw [e]
    ext1
    have hl : (strOfNums (encNums r n c s.size len R N)).data.size = 5 + len * 2 := (strOfNums_size _).trans (encNums_length r n c s.size len R N)
    have hsl : s.data.toList.length = s.size := Array.length_toList
    apply Array.ext'
    simp only [ByteArray.data_extract, ByteArray.data_append, Array.toList_extract, Array.toList_append, List.extract_eq_take_drop]
    rw [List.drop_append, List.drop_of_length_le (by simp [hl]), List.nil_append, show 5 + len * 2 - (strOfNums (encNums r n c s.size len R N)).data.toList.length = 0 from by simp [hl], List.drop_zero,
      show 5 + len * 2 + s.size - (5 + len * 2) = s.size from by omega, List.take_append_of_le_length (Nat.le_of_eq hsl.symm), List.take_of_length_le (Nat.le_of_eq hsl)]
  have hstop : entryStop (encStr r n c s len R N ++ u) = none := by
    have hS := hB.sz
    have h0 : idStop (encStr r n c s len R N ++ u) 0 = none := by
      rw [idStop, if_neg (by omega), if_neg (by rw [hB.b0, isReg_mk hf.reg]; simp), if_neg (by omega)]
    have h1 : linksStop (encStr r n c s len R N ++ u) 4 len = none :=
      linksStop_ok (by omega) (fun k hk => by have := hB.bR k hk; unfold entryR at this; rw [this]; exact isReg_mk (hf.ids k hk).1) len (Nat.le_refl _)
    rw [entryStop, h0]
    simp only
    rw [if_neg (by omega), if_neg (by omega), hB.b3, h1]
    simp only
    rw [if_neg (by omega), hB.bT, if_neg (by omega)]
  refine ⟨?_, by rw [hsize, hsz], htext⟩
  rw [decErr, hstop]
  simp only
  rw [htext, hB.b0, hB.b1, hB.b2, hB.b3, checkErr_congr (R' := R) (N' := N) (fun j hj => ⟨hB.bR j hj, hB.bN j hj⟩)]
  exact herr

theorem same2_self (r n : Int) : same2 r n r n = true := by simp [same2]
theorem sameIds_self {len : Nat} {R N R' N' : Nat → Int} (h : ∀ k, k < len → R k = R' k ∧ N k = N' k) : sameIds len len R N R' N' = true := by
  simp only [sameIds, BEq.rfl, Bool.true_and, List.all_eq_true, List.mem_range]
  intro k hk
  rw [(h k hk).1, (h k hk).2]
  exact same2_self _ _
theorem sameEntry_self {r n c : Int} {s : ByteArray} {len : Nat} {R N R' N' : Nat → Int} (h : ∀ k, k < len → R k = R' k ∧ N k = N' k) : sameEntry r n c s len R N r n c s len R' N' = true := by
  simp [sameEntry, same2_self, sameIds_self h]


theorem ofNat_bAt (S : ByteArray) (p : Nat) (h : p < S.size) : S.data.toList[p]? = some (UInt8.ofNat (bAt S p : Int).toNat) := by
  have h' : p < S.data.toList.length := by rw [Array.length_toList]; exact h
  unfold bAt
  rw [List.getD_eq_getElem?_getD, List.getElem?_eq_getElem h', Option.getD_some, Int.toNat_natCast, UInt8.ofNat_toNat]
theorem linkNums_getD (R N : Nat → Int) (k p : Nat) (h : p < k * 2) : (linkNums R N k)[p]? = some (if p % 2 = 0 then R (p / 2) else N (p / 2)) := by
  have h1 := linkNums_at R N k (p / 2) (by omega)
  by_cases hp : p % 2 = 0
  · rw [if_pos hp, ← h1.1]; congr 1; omega
  · rw [if_neg hp, ← h1.2]; congr 1; omega
theorem encNums_at (S : ByteArray) (p : Nat) (tl : Nat) (htl : bAt S (4 + bAt S 3 * 2) = tl) (h : p < 5 + bAt S 3 * 2) : (encNums (bAt S 0) (bAt S 1) (bAt S 2) tl (bAt S 3) (entryR S) (entryN S))[p]? = some (bAt S p : Int) := by
  have hln := linkNums_length (entryR S) (entryN S) (bAt S 3)
  simp only [encNums]
  by_cases h4 : p < 4
  · rw [List.getElem?_append_left (by simp [hln]; omega), List.getElem?_append_left (by simpa using h4)]
    obtain rfl | rfl | rfl | rfl : p = 0 ∨ p = 1 ∨ p = 2 ∨ p = 3 := by omega
    all_goals rfl
  · by_cases h5 : p < 4 + bAt S 3 * 2
    · rw [List.getElem?_append_left (by simp [hln]; omega), List.getElem?_append_right (by simp; omega), linkNums_getD _ _ _ _ (by simp; omega)]
      simp only [List.length_cons, List.length_nil]
      unfold entryR entryN
      split
      · congr 2; congr 1; omega
      · congr 2; congr 1; omega
    · rw [List.getElem?_append_right (by simp [hln]; omega)]
      obtain rfl : p = 4 + bAt S 3 * 2 := by omega
      rw [htl]
      have : 4 + bAt S 3 * 2 - ([(bAt S 0 : Int), (bAt S 1 : Int), (bAt S 2 : Int), (bAt S 3 : Int)] ++ linkNums (entryR S) (entryN S) (bAt S 3)).length = 0 := by simp [hln]; omega
      rw [this]; rfl
/-- A3: what is decoded is encoded as it was. -/
theorem encode_decode {S : ByteArray} (h : entryStop S = none) : encStr (bAt S 0) (bAt S 1) (bAt S 2) (entryText S) (bAt S 3) (entryR S) (entryN S) = S.extract 0 (entrySize S) := by
  obtain ⟨ht, hsz⟩ := entryText_size h
  have hsl : S.data.toList.length = S.size := Array.length_toList
  have hes : entrySize S = 5 + bAt S 3 * 2 + bAt S (4 + bAt S 3 * 2) := rfl
  have hl := encNums_length (bAt S 0) (bAt S 1) (bAt S 2) (entryText S).size (bAt S 3) (entryR S) (entryN S)
  have h1 : (encNums (bAt S 0) (bAt S 1) (bAt S 2) (entryText S).size (bAt S 3) (entryR S) (entryN S)).map (fun n => UInt8.ofNat n.toNat) = S.data.toList.take (5 + bAt S 3 * 2) := by
    apply List.ext_getElem?
    intro p
    by_cases hp : p < 5 + bAt S 3 * 2
    · rw [List.getElem?_map, encNums_at S p _ ht.symm hp, List.getElem?_take, if_pos hp, ofNat_bAt S p (by omega)]
      rfl
    · rw [List.getElem?_eq_none (by simp [hl]; omega), List.getElem?_eq_none (by simp; omega)]
  ext1
  apply Array.ext'
  unfold encStr strOfNums entryText
  simp only [ByteArray.data_append, ByteArray.data_extract, Array.toList_append, Array.toList_extract, List.extract_eq_take_drop]
  have h2 : (S.extract (5 + bAt S 3 * 2) (entrySize S)).size = (entryText S).size := rfl
  rw [h2, h1, List.drop_zero, Nat.sub_zero, show entrySize S - (5 + bAt S 3 * 2) = bAt S (4 + bAt S 3 * 2) from by omega]
  rw [hes, ← List.take_add]
end Go.Proofs.Ytikdncgjaomlcaa
