/- cutwaterlaw.EntryApart answers true, whatever it is handed. -/
import Derived.Test.YtikdncgjaomlcaaK
namespace Go.Proofs.Ytikdncgjaomlcaa
open Go.RowKit

theorem encNums_congr {r n c : Int} {tl len : Nat} {R N R' N' : Nat → Int} (h : ∀ k, k < len → R k = R' k ∧ N k = N' k) : encNums r n c tl len R N = encNums r n c tl len R' N' := by
  have : ∀ k, k ≤ len → linkNums R N k = linkNums R' N' k := by
    intro k hk
    induction k with
    | zero => rfl
    | succ k ih => rw [linkNums_succ, linkNums_succ, ih (by omega), (h k (by omega)).1, (h k (by omega)).2]
  rw [encNums, encNums, this len (Nat.le_refl _)]
theorem sameEntry_of {r n c : Int} {s : ByteArray} {len : Nat} {R N : Nat → Int} {r' n' c' : Int} {s' : ByteArray} {len' : Nat} {R' N' : Nat → Int} (h : sameEntry r n c s len R N r' n' c' s' len' R' N' = true) :
    r = r' ∧ n = n' ∧ c = c' ∧ s = s' ∧ len = len' ∧ ∀ k, k < len → R k = R' k ∧ N k = N' k := by
  simp only [sameEntry, same2, sameIds, Bool.and_eq_true, beq_iff_eq, List.all_eq_true, List.mem_range] at h
  obtain ⟨⟨h1, h2⟩, h3, h4, h5, h6⟩ := h
  refine ⟨h1, h2, h3, ?_, h5, h6⟩
  have h7 : s.data.toList = s'.data.toList := by rw [← ByteArray.toList_eq, ← ByteArray.toList_eq]; exact h4
  ext1
  exact Array.ext' h7
theorem extract_self (A : ByteArray) : A.extract 0 A.size = A := by
  ext1
  simp
theorem split_at (B : ByteArray) (k : Nat) : B = B.extract 0 k ++ B.extract k B.size := by
  ext1
  apply Array.ext'
  have hl : B.data.toList.length = B.size := Array.length_toList
  simp only [ByteArray.data_append, ByteArray.data_extract, Array.toList_append, Array.toList_extract, List.extract_eq_take_drop, List.drop_zero, Nat.sub_zero]
  rw [List.take_of_length_le (l := List.drop k B.data.toList) (by simp), List.take_append_drop]
theorem append_nil (B : ByteArray) : B ++ ⟨#[]⟩ = B := by
  ext1
  simp [ByteArray.data_append]
/-- No bytes of an entry are the beginning of another one's. -/
theorem apart_law {r n c : Int} {s : ByteArray} {len : Nat} {R N : Nat → Int} {r' n' c' : Int} {s' : ByteArray} {len' : Nat} {R' N' : Nat → Int} (h : checkErr r n c s.size len R N = 0) (h' : checkErr r' n' c' s'.size len' R' N' = 0) :
    (((encStr r' n' c' s' len' R' N').extract 0 (encStr r n c s len R N).size).toList == (encStr r n c s len R N).toList) = sameEntry r n c s len R N r' n' c' s' len' R' N' := by
  rw [Bool.eq_iff_iff]
  constructor
  · intro he
    have he' : (encStr r' n' c' s' len' R' N').extract 0 (encStr r n c s len R N).size = encStr r n c s len R N := by
      have h7 : ((encStr r' n' c' s' len' R' N').extract 0 (encStr r n c s len R N).size).data.toList = (encStr r n c s len R N).data.toList := by rw [← ByteArray.toList_eq, ← ByteArray.toList_eq]; simpa using he
      ext1
      exact Array.ext' h7
    have hsp := split_at (encStr r' n' c' s' len' R' N') (encStr r n c s len R N).size
    rw [he'] at hsp
    have b1 := back_of (fine_of h) ((encStr r' n' c' s' len' R' N').extract (encStr r n c s len R N).size (encStr r' n' c' s' len' R' N').size)
    have b2 := back_of (fine_of h') ⟨#[]⟩
    have t1 := (decode_encode h ((encStr r' n' c' s' len' R' N').extract (encStr r n c s len R N).size (encStr r' n' c' s' len' R' N').size)).2.2
    have t2 := (decode_encode h' ⟨#[]⟩).2.2
    rw [← hsp] at b1 t1
    rw [append_nil] at b2 t2
    have e1 : r = r' := b1.b0.symm.trans b2.b0
    have e2 : n = n' := b1.b1.symm.trans b2.b1
    have e3 : c = c' := b1.b2.symm.trans b2.b2
    have e4 : len = len' := b1.b3.symm.trans b2.b3
    have e5 : s = s' := t1.symm.trans t2
    subst e1 e2 e3 e4 e5
    exact sameEntry_self fun k hk => ⟨(b1.bR k hk).symm.trans (b2.bR k hk), (b1.bN k hk).symm.trans (b2.bN k hk)⟩
  · intro he
    obtain ⟨rfl, rfl, rfl, rfl, rfl, hk⟩ := sameEntry_of he
    have : encStr r n c s len R N = encStr r n c s len R' N' := by rw [encStr, encStr, encNums_congr hk]
    rw [this, extract_self]
    simp

set_option maxHeartbeats 4000000 in
theorem entryApart_walk (r n c : Int) (s : ByteArray) (a : Option Addr) (len cap : Nat) (R N : Nat → Int) (r' n' c' : Int) (s' : ByteArray) (a' : Option Addr) (len' cap' : Nat) (R' N' : Nat → Int) (w : World)
    (hids : IdsAt w a len R N) (hs : s.size ≤ 9223372036854775807) (hids' : IdsAt w a' len' R' N') (hs' : s'.size ≤ 9223372036854775807) :
    Calls Try.prog 6 #[.agg #[.int .i64 r, .int .i64 n, .int .i64 c, .string s, .slice a len cap], .agg #[.int .i64 r', .int .i64 n', .int .i64 c', .string s', .slice a' len' cap']] w fun e w' => e = .returned (.bool true) ∧ Grow w w' := by
  have HI : Hid (IdsAt w a len R N) := hids
  have HI' : Hid (IdsAt w a' len' R' N') := hids'
  clear hids hids'
  go_enter Try.func6, Try.ntmps6
  go_wp2_with fail
  have c0 : ((w.alloc (Obj.cells #[Value.int IntKind.i64 r, Value.int IntKind.i64 n, Value.int IntKind.i64 c, Value.string s, Value.slice a len cap] 26)).alloc (Obj.cells #[Value.int IntKind.i64 r', Value.int IntKind.i64 n', Value.int IntKind.i64 c', Value.string s', Value.slice a' len' cap'] 26)).cell? ⟨w.heap.size, 0, none⟩ = some (.int .i64 r) := by simp [go_sem]
  have c1 : ((w.alloc (Obj.cells #[Value.int IntKind.i64 r, Value.int IntKind.i64 n, Value.int IntKind.i64 c, Value.string s, Value.slice a len cap] 26)).alloc (Obj.cells #[Value.int IntKind.i64 r', Value.int IntKind.i64 n', Value.int IntKind.i64 c', Value.string s', Value.slice a' len' cap'] 26)).cell? ⟨w.heap.size, 1, none⟩ = some (.int .i64 n) := by simp [go_sem]
  have c2 : ((w.alloc (Obj.cells #[Value.int IntKind.i64 r, Value.int IntKind.i64 n, Value.int IntKind.i64 c, Value.string s, Value.slice a len cap] 26)).alloc (Obj.cells #[Value.int IntKind.i64 r', Value.int IntKind.i64 n', Value.int IntKind.i64 c', Value.string s', Value.slice a' len' cap'] 26)).cell? ⟨w.heap.size, 2, none⟩ = some (.int .i64 c) := by simp [go_sem]
  have c3 : ((w.alloc (Obj.cells #[Value.int IntKind.i64 r, Value.int IntKind.i64 n, Value.int IntKind.i64 c, Value.string s, Value.slice a len cap] 26)).alloc (Obj.cells #[Value.int IntKind.i64 r', Value.int IntKind.i64 n', Value.int IntKind.i64 c', Value.string s', Value.slice a' len' cap'] 26)).cell? ⟨w.heap.size, 3, none⟩ = some (.string s) := by simp [go_sem]
  have c4 : ((w.alloc (Obj.cells #[Value.int IntKind.i64 r, Value.int IntKind.i64 n, Value.int IntKind.i64 c, Value.string s, Value.slice a len cap] 26)).alloc (Obj.cells #[Value.int IntKind.i64 r', Value.int IntKind.i64 n', Value.int IntKind.i64 c', Value.string s', Value.slice a' len' cap'] 26)).cell? ⟨w.heap.size, 4, none⟩ = some (.slice a len cap) := by simp [go_sem]
  have d0 : ((w.alloc (Obj.cells #[Value.int IntKind.i64 r, Value.int IntKind.i64 n, Value.int IntKind.i64 c, Value.string s, Value.slice a len cap] 26)).alloc (Obj.cells #[Value.int IntKind.i64 r', Value.int IntKind.i64 n', Value.int IntKind.i64 c', Value.string s', Value.slice a' len' cap'] 26)).cell? ⟨w.heap.size + 1, 0, none⟩ = some (.int .i64 r') := by simp [go_sem]
  have d1 : ((w.alloc (Obj.cells #[Value.int IntKind.i64 r, Value.int IntKind.i64 n, Value.int IntKind.i64 c, Value.string s, Value.slice a len cap] 26)).alloc (Obj.cells #[Value.int IntKind.i64 r', Value.int IntKind.i64 n', Value.int IntKind.i64 c', Value.string s', Value.slice a' len' cap'] 26)).cell? ⟨w.heap.size + 1, 1, none⟩ = some (.int .i64 n') := by simp [go_sem]
  have d2 : ((w.alloc (Obj.cells #[Value.int IntKind.i64 r, Value.int IntKind.i64 n, Value.int IntKind.i64 c, Value.string s, Value.slice a len cap] 26)).alloc (Obj.cells #[Value.int IntKind.i64 r', Value.int IntKind.i64 n', Value.int IntKind.i64 c', Value.string s', Value.slice a' len' cap'] 26)).cell? ⟨w.heap.size + 1, 2, none⟩ = some (.int .i64 c') := by simp [go_sem]
  have d3 : ((w.alloc (Obj.cells #[Value.int IntKind.i64 r, Value.int IntKind.i64 n, Value.int IntKind.i64 c, Value.string s, Value.slice a len cap] 26)).alloc (Obj.cells #[Value.int IntKind.i64 r', Value.int IntKind.i64 n', Value.int IntKind.i64 c', Value.string s', Value.slice a' len' cap'] 26)).cell? ⟨w.heap.size + 1, 3, none⟩ = some (.string s') := by simp [go_sem]
  have d4 : ((w.alloc (Obj.cells #[Value.int IntKind.i64 r, Value.int IntKind.i64 n, Value.int IntKind.i64 c, Value.string s, Value.slice a len cap] 26)).alloc (Obj.cells #[Value.int IntKind.i64 r', Value.int IntKind.i64 n', Value.int IntKind.i64 c', Value.string s', Value.slice a' len' cap'] 26)).cell? ⟨w.heap.size + 1, 4, none⟩ = some (.slice a' len' cap') := by simp [go_sem]
  have G : Grow w ((w.alloc (Obj.cells #[Value.int IntKind.i64 r, Value.int IntKind.i64 n, Value.int IntKind.i64 c, Value.string s, Value.slice a len cap] 26)).alloc (Obj.cells #[Value.int IntKind.i64 r', Value.int IntKind.i64 n', Value.int IntKind.i64 c', Value.string s', Value.slice a' len' cap'] 26)) := ((Grow.refl _).alloc _).alloc _
  have i0 := HI.out.grow G
  have j0 := HI'.out.grow G
  generalize ((w.alloc (Obj.cells #[Value.int IntKind.i64 r, Value.int IntKind.i64 n, Value.int IntKind.i64 c, Value.string s, Value.slice a len cap] 26)).alloc (Obj.cells #[Value.int IntKind.i64 r', Value.int IntKind.i64 n', Value.int IntKind.i64 c', Value.string s', Value.slice a' len' cap'] 26)) = W0 at *
  by_cases e1 : checkErr r n c s.size len R N = 0
  · have E1 : Hid (checkErr r n c s.size len R N = 0) := e1
    have f1 := fine_of e1
    have l1 : (encStr r n c s len R N).size ≤ 100 := by have := f1.text; have := f1.many; rw [encStr, size_nums, encNums_length]; omega
    clear e1 f1
    refine (encode_ok r n c s a len cap R N _ i0 E1.out).mono ?_
    rintro e w1 ⟨rfl, g1⟩
    replace c0 := cell_grow g1 c0; replace c1 := cell_grow g1 c1; replace c2 := cell_grow g1 c2; replace c3 := cell_grow g1 c3; replace c4 := cell_grow g1 c4; replace d0 := cell_grow g1 d0; replace d1 := cell_grow g1 d1; replace d2 := cell_grow g1 d2; replace d3 := cell_grow g1 d3; replace d4 := cell_grow g1 d4; replace i0 := i0.grow g1; replace j0 := j0.grow g1; replace G := G.trans g1; clear g1
    go_wp2_with fail
    by_cases e2 : checkErr r' n' c' s'.size len' R' N' = 0
    · have E2 : Hid (checkErr r' n' c' s'.size len' R' N' = 0) := e2
      have f2 := fine_of e2
      have l2 : (encStr r' n' c' s' len' R' N').size ≤ 100 := by have := f2.text; have := f2.many; rw [encStr, size_nums, encNums_length]; omega
      clear e2 f2
      refine (encode_ok r' n' c' s' a' len' cap' R' N' _ j0 E2.out).mono ?_
      rintro e w2 ⟨rfl, g2⟩
      replace c0 := cell_grow g2 c0; replace c1 := cell_grow g2 c1; replace c2 := cell_grow g2 c2; replace c3 := cell_grow g2 c3; replace c4 := cell_grow g2 c4; replace d0 := cell_grow g2 d0; replace d1 := cell_grow g2 d1; replace d2 := cell_grow g2 d2; replace d3 := cell_grow g2 d3; replace d4 := cell_grow g2 d4; replace i0 := i0.grow g2; replace j0 := j0.grow g2; replace G := G.trans g2; clear g2
      go_wp2_with fail
      refine (entryBegun_any _).mono ?_
      rintro e w3 ⟨rfl, g3⟩
      replace c0 := cell_grow g3 c0; replace c1 := cell_grow g3 c1; replace c2 := cell_grow g3 c2; replace c3 := cell_grow g3 c3; replace c4 := cell_grow g3 c4; replace d0 := cell_grow g3 d0; replace d1 := cell_grow g3 d1; replace d2 := cell_grow g3 d2; replace d3 := cell_grow g3 d3; replace d4 := cell_grow g3 d4; replace i0 := i0.grow g3; replace j0 := j0.grow g3; replace G := G.trans g3; clear g3
      have HL := show Hid _ from apart_law E1.out E2.out
      generalize encStr r n c s len R N = A at *
      generalize encStr r' n' c' s' len' R' N' = B at *
      by_cases hlt : B.size < A.size
      · have hd : decide (B.size < A.size) = true := by simpa using hlt
        go_wp2
        go_ret
        exact ⟨rfl, G⟩
      · have hd : decide (B.size < A.size) = false := by simpa using hlt
        have hle : (A.size : Int) ≤ (B.size : Int) := by omega
        go_wp2
        generalize hq : sameEntry r n c s len R N r' n' c' s' len' R' N' = q at HL
        have HQ : Hid (sameEntry r n c s len R N r' n' c' s' len' R' N' = q) := hq
        clear hq
        have hb := HL.out
        cases q
        all_goals
          go_region_held3 (fun w' => Grow w w' ∧ IdsAt w' a len R N ∧ IdsAt w' a' len' R' N' ∧ w'.cell? ⟨w.heap.size, 0, none⟩ = some (.int .i64 r) ∧ w'.cell? ⟨w.heap.size, 1, none⟩ = some (.int .i64 n) ∧ w'.cell? ⟨w.heap.size, 2, none⟩ = some (.int .i64 c) ∧ w'.cell? ⟨w.heap.size, 3, none⟩ = some (.string s) ∧ w'.cell? ⟨w.heap.size, 4, none⟩ = some (.slice a len cap) ∧ w'.cell? ⟨w.heap.size + 1, 0, none⟩ = some (.int .i64 r') ∧ w'.cell? ⟨w.heap.size + 1, 1, none⟩ = some (.int .i64 n') ∧ w'.cell? ⟨w.heap.size + 1, 2, none⟩ = some (.int .i64 c') ∧ w'.cell? ⟨w.heap.size + 1, 3, none⟩ = some (.string s') ∧ w'.cell? ⟨w.heap.size + 1, 4, none⟩ = some (.slice a' len' cap'))
            (first | ((try go_split_ands); (repeat' apply And.intro) <;> first | assumption | exact Grow.drew (by assumption) | exact IdsAt.grow i0 (Grow.drew (Grow.refl _)) | exact IdsAt.grow j0 (Grow.drew (Grow.refl _)) | exact cell_grow hg (by assumption) | exact Grow.trans (Grow.drew (by assumption)) hg | exact IdsAt.grow i0 (Grow.trans (Grow.drew (Grow.refl _)) hg) | exact IdsAt.grow j0 (Grow.trans (Grow.drew (Grow.refl _)) hg)))
            (first | (go_at_call 18; refine (sameEntry_any r n c s a len cap R N r' n' c' s' a' len' cap' R' N' _ (i0.grow (Grow.refl _).drew) (j0.grow (Grow.refl _).drew)).mono ?_; rw [HQ.out]; rintro e w4 ⟨rfl, hg⟩))
          rename_i hS
          have GS := hS.1
          clear hS
          go_wp2
          go_ret
          exact ⟨by simp, GS⟩
    · have E2 : Hid (checkErr r' n' c' s'.size len' R' N' ≠ 0) := e2
      have hne2 : (checkErr r' n' c' s'.size len' R' N' != 0) = true := by simpa using e2
      have heq2 : (checkErr r' n' c' s'.size len' R' N' == 0) = false := by simpa using e2
      clear e2
      refine (encode_err r' n' c' s' a' len' cap' R' N' _ j0 hs' E2.out).mono ?_
      rintro e w2 ⟨rfl, g2⟩
      replace c0 := cell_grow g2 c0; replace c1 := cell_grow g2 c1; replace c2 := cell_grow g2 c2; replace c3 := cell_grow g2 c3; replace c4 := cell_grow g2 c4; replace d0 := cell_grow g2 d0; replace d1 := cell_grow g2 d1; replace d2 := cell_grow g2 d2; replace d3 := cell_grow g2 d3; replace d4 := cell_grow g2 d4; replace i0 := i0.grow g2; replace j0 := j0.grow g2; replace G := G.trans g2; clear g2
      go_wp2_with fail
      refine (entryBegun_any _).mono ?_
      rintro e w3 ⟨rfl, g3⟩
      replace c0 := cell_grow g3 c0; replace c1 := cell_grow g3 c1; replace c2 := cell_grow g3 c2; replace c3 := cell_grow g3 c3; replace c4 := cell_grow g3 c4; replace d0 := cell_grow g3 d0; replace d1 := cell_grow g3 d1; replace d2 := cell_grow g3 d2; replace d3 := cell_grow g3 d3; replace d4 := cell_grow g3 d4; replace i0 := i0.grow g3; replace j0 := j0.grow g3; replace G := G.trans g3; clear g3
      go_wp2
      go_ret
      exact ⟨rfl, G⟩
  · have E1 : Hid (checkErr r n c s.size len R N ≠ 0) := e1
    have hne1 : (checkErr r n c s.size len R N != 0) = true := by simpa using e1
    have heq1 : (checkErr r n c s.size len R N == 0) = false := by simpa using e1
    clear e1
    refine (encode_err r n c s a len cap R N _ i0 hs E1.out).mono ?_
    rintro e w1 ⟨rfl, g1⟩
    replace c0 := cell_grow g1 c0; replace c1 := cell_grow g1 c1; replace c2 := cell_grow g1 c2; replace c3 := cell_grow g1 c3; replace c4 := cell_grow g1 c4; replace d0 := cell_grow g1 d0; replace d1 := cell_grow g1 d1; replace d2 := cell_grow g1 d2; replace d3 := cell_grow g1 d3; replace d4 := cell_grow g1 d4; replace i0 := i0.grow g1; replace j0 := j0.grow g1; replace G := G.trans g1; clear g1
    go_wp2_with fail
    by_cases e2 : checkErr r' n' c' s'.size len' R' N' = 0
    · have E2 : Hid (checkErr r' n' c' s'.size len' R' N' = 0) := e2
      clear e2
      refine (encode_ok r' n' c' s' a' len' cap' R' N' _ j0 E2.out).mono ?_
      rintro e w2 ⟨rfl, g2⟩
      replace c0 := cell_grow g2 c0; replace c1 := cell_grow g2 c1; replace c2 := cell_grow g2 c2; replace c3 := cell_grow g2 c3; replace c4 := cell_grow g2 c4; replace d0 := cell_grow g2 d0; replace d1 := cell_grow g2 d1; replace d2 := cell_grow g2 d2; replace d3 := cell_grow g2 d3; replace d4 := cell_grow g2 d4; replace i0 := i0.grow g2; replace j0 := j0.grow g2; replace G := G.trans g2; clear g2
      go_wp2_with fail
      refine (entryBegun_any _).mono ?_
      rintro e w3 ⟨rfl, g3⟩
      replace c0 := cell_grow g3 c0; replace c1 := cell_grow g3 c1; replace c2 := cell_grow g3 c2; replace c3 := cell_grow g3 c3; replace c4 := cell_grow g3 c4; replace d0 := cell_grow g3 d0; replace d1 := cell_grow g3 d1; replace d2 := cell_grow g3 d2; replace d3 := cell_grow g3 d3; replace d4 := cell_grow g3 d4; replace i0 := i0.grow g3; replace j0 := j0.grow g3; replace G := G.trans g3; clear g3
      go_wp2
      go_ret
      exact ⟨rfl, G⟩
    · have E2 : Hid (checkErr r' n' c' s'.size len' R' N' ≠ 0) := e2
      have hne2 : (checkErr r' n' c' s'.size len' R' N' != 0) = true := by simpa using e2
      have heq2 : (checkErr r' n' c' s'.size len' R' N' == 0) = false := by simpa using e2
      clear e2
      refine (encode_err r' n' c' s' a' len' cap' R' N' _ j0 hs' E2.out).mono ?_
      rintro e w2 ⟨rfl, g2⟩
      replace c0 := cell_grow g2 c0; replace c1 := cell_grow g2 c1; replace c2 := cell_grow g2 c2; replace c3 := cell_grow g2 c3; replace c4 := cell_grow g2 c4; replace d0 := cell_grow g2 d0; replace d1 := cell_grow g2 d1; replace d2 := cell_grow g2 d2; replace d3 := cell_grow g2 d3; replace d4 := cell_grow g2 d4; replace i0 := i0.grow g2; replace j0 := j0.grow g2; replace G := G.trans g2; clear g2
      go_wp2_with fail
      refine (entryBegun_any _).mono ?_
      rintro e w3 ⟨rfl, g3⟩
      replace c0 := cell_grow g3 c0; replace c1 := cell_grow g3 c1; replace c2 := cell_grow g3 c2; replace c3 := cell_grow g3 c3; replace c4 := cell_grow g3 c4; replace d0 := cell_grow g3 d0; replace d1 := cell_grow g3 d1; replace d2 := cell_grow g3 d2; replace d3 := cell_grow g3 d3; replace d4 := cell_grow g3 d4; replace i0 := i0.grow g3; replace j0 := j0.grow g3; replace G := G.trans g3; clear g3
      go_wp2
      go_ret
      exact ⟨rfl, G⟩
end Go.Proofs.Ytikdncgjaomlcaa
