/- The reader of package entry: what take, number, id, links and entry answer, or with what they give up. -/
import Derived.Test.YtikdncgjaomlcaaE
namespace Go.Proofs.Ytikdncgjaomlcaa
open Go.RowKit

/-- The world has grown, but for block br, which may have turned. -/
structure Turn (br : Nat) (w w' : World) : Prop where
  os : w'.os = w.os
  tape : w'.tape = w.tape
  output : w'.output = w.output
  size : w.heap.size ≤ w'.heap.size
  block : ∀ k, k < w.heap.size → k ≠ br → w'.heap[k]? = w.heap[k]?
theorem Turn.refl (br : Nat) (w : World) : Turn br w w := ⟨rfl, rfl, rfl, Nat.le_refl _, fun _ _ _ => rfl⟩
theorem Turn.trans {br : Nat} {a b c : World} (h : Turn br a b) (k : Turn br b c) : Turn br a c :=
  ⟨k.os.trans h.os, k.tape.trans h.tape, k.output.trans h.output, Nat.le_trans h.size k.size, fun i hi hn => (k.block i (Nat.lt_of_lt_of_le hi h.size) hn).trans (h.block i hi hn)⟩
theorem Turn.of_grow {br : Nat} {a b : World} (h : Grow a b) : Turn br a b := ⟨Below.os h, Below.tape h, Below.output h, Below.size h, fun i hi _ => Below.block h i hi⟩
theorem Turn.drew {br : Nat} {a b : World} (h : Turn br a b) : Turn br a b.drew := h.trans (Turn.of_grow (Grow.refl _).drew)
theorem Turn.drewN {br : Nat} {a b : World} (h : Turn br a b) (n : Nat) : Turn br a (b.drewN n) := h.trans (Turn.of_grow ((Grow.refl _).drewN n))
theorem Turn.alloc {br : Nat} {a b : World} (h : Turn br a b) (o : Obj) : Turn br a (b.alloc o) := h.trans (Turn.of_grow ((Grow.refl _).alloc o))
theorem Turn.setCell {br : Nat} {a b : World} (h : Turn br a b) (o : Nat) (v : Value) : Turn br a (b.setCell ⟨br, o, none⟩ v) :=
  h.trans ⟨rfl, rfl, rfl, by simp [World.setCell], fun k _ hn => Below.heap_setCell _ _ _ _ hn⟩
theorem Turn.cell {br : Nat} {w w' : World} (h : Turn br w w') {a : Addr} {v : Value} (hn : a.block ≠ br) (hc : w.cell? a = some v) : w'.cell? a = some v :=
  (World.cell?_of_block (w := w) (h.block a.block (cell_lt hc) hn)).trans hc
theorem Turn.heap {br : Nat} {w w' : World} (h : Turn br w w') {b : Nat} {o : Obj} (hn : b ≠ br) (hc : w.heap[b]? = some o) : w'.heap[b]? = some o :=
  (h.block b (lt_of_block hc) hn).trans hc
theorem Turn.setNew {br : Nat} {a b : World} (h : Turn br a b) {p : Addr} (hp : a.heap.size ≤ p.block) (v : Value) : Turn br a (b.setCell p v) :=
  ⟨h.os, h.tape, h.output, by simpa [World.setCell] using h.size, fun k hk hn => (Below.heap_setCell _ _ _ _ (by omega)).trans (h.block k hk hn)⟩
/-- What lay ahead of the block that turned is as it was. -/
theorem Turn.grow {br : Nat} {a b c : World} (h : Turn br b c) (hg : Grow a b) (hb : a.heap.size ≤ br) : Grow a c :=
  Below.trans hg ⟨h.os, h.tape, h.output, h.size, fun k hk => h.block k (Nat.lt_of_lt_of_le hk (Below.size hg)) (by omega)⟩

/-- A reader in block br, of the text s, at place p. -/
def Reader (w : World) (br : Nat) (s : ByteArray) (p : Nat) : Prop := w.heap[br]? = some (.cells #[.string s, .int .i64 p] 86 (0, 0))
theorem Reader.c0 {w : World} {br : Nat} {s : ByteArray} {p : Nat} (h : Reader w br s p) : w.cell? ⟨br, 0, none⟩ = some (.string s) := by simp [World.cell?, show w.heap[br]? = _ from h]
theorem Reader.c1 {w : World} {br : Nat} {s : ByteArray} {p : Nat} (h : Reader w br s p) : w.cell? ⟨br, 1, none⟩ = some (.int .i64 p) := by simp [World.cell?, show w.heap[br]? = _ from h]
theorem Reader.free {w : World} {br : Nat} {s : ByteArray} {p : Nat} (h : Reader w br s p) (o : Nat) : w.frozen? ⟨br, o, none⟩ = false := by simp [World.frozen?, show w.heap[br]? = _ from h]
theorem Reader.grow {w w' : World} {br : Nat} {s : ByteArray} {p : Nat} (h : Reader w br s p) (g : Grow w w') : Reader w' br s p :=
  (Below.block g br (lt_of_block h)).trans h
theorem Reader.set {w : World} {br : Nat} {s : ByteArray} {p : Nat} (h : Reader w br s p) (q : Nat) : Reader (w.setCell ⟨br, 1, none⟩ (.int .i64 q)) br s q := by
  have hlt := lt_of_block h
  have h' : w.heap[br] = .cells #[.string s, .int .i64 p] 86 (0, 0) := by simpa [Array.getElem?_eq_getElem hlt] using (show w.heap[br]? = _ from h)
  show (w.heap.modify br _)[br]? = _
  rw [Array.getElem?_eq_getElem (by simpa using hlt), Array.getElem_modify_self, h']
  rfl

theorem Reader.far {w : World} {br : Nat} {s : ByteArray} {p : Nat} (h : Reader w br s p) {a : Addr} (ha : br ≠ a.block) (v : Value) : Reader (w.setCell a v) br s p :=
  (Below.heap_setCell _ _ _ _ ha).trans h
theorem Reader.lt {w : World} {br : Nat} {s : ByteArray} {p : Nat} (h : Reader w br s p) : br < w.heap.size := lt_of_block h
theorem cell_of_block {w : World} {b o : Nat} {cs : Array Value} {t : TypeId} {v : Value} (h : w.heap[b]? = some (.cells cs t (0, 0))) (hv : cs[o]? = some v) : w.cell? ⟨b, o, none⟩ = some v := by simp [World.cell?, h, hv]
theorem free_of_block {w : World} {b : Nat} {cs : Array Value} {t : TypeId} (h : w.heap[b]? = some (.cells cs t (0, 0))) (o : Nat) : w.frozen? ⟨b, o, none⟩ = false := by simp [World.frozen?, h]
/-- What the reader panics with. -/
def brk (x : Int) : Value := .iface 83 (.agg #[.int .i64 x])

theorem run_panic_brk (x : Int) (w : World) : (Instr.panic (.iface 83 (.agg #[.int .i64 x]))).run Try.prog w = .halt (.panic (.iface 83 (.agg #[.int .i64 x]))) w := rfl

set_option maxHeartbeats 1000000 in
theorem take_none (br : Nat) (s : ByteArray) (p size : Nat) (w : World) (hr : Reader w br s p) (hp : p ≤ s.size) (hz : size ≤ 1000) (h : s.size < p + size) :
    Calls Try.prog 62 #[.pointer (some ⟨br, 0, none⟩), .int .i64 size] w fun e w' => e = .panicked [{ v := brk 5, recovered := false }] ∧ Turn br w w' := by
  have c0 := hr.c0
  have c1 := hr.c1
  have hlt : (s.size : Int) - p < size := by omega
  have hpan := run_panic_brk 5
  go_enter Try.func62, Try.ntmps62
  go_wp2
  go_quiet (fail)
  go_wp2
  exact ⟨rfl, rfl, (Turn.refl _ _).drewN _⟩

set_option maxHeartbeats 1000000 in
theorem take_some (br : Nat) (s : ByteArray) (p size : Nat) (w : World) (hr : Reader w br s p) (hs : s.size ≤ 1152921504606846976) (hz : size ≤ 1000) (h : p + size ≤ s.size) :
    Calls Try.prog 62 #[.pointer (some ⟨br, 0, none⟩), .int .i64 size] w fun e w' => e = .returned (.string (s.extract p (p + size))) ∧ Reader w' br s (p + size) ∧ Turn br w w' := by
  have c0 := hr.c0
  have c1 := hr.c1
  have hge : (size : Int) ≤ (s.size : Int) - p := by omega
  have c2 := hr.free 1
  go_enter Try.func62, Try.ntmps62
  go_wp2
  go_quiet (fail)
  go_wp2
  have hr2 : Reader ((w.drewN nq).setCell { block := br, off := 1 } (Value.int IntKind.i64 (↑p + ↑size))) br s (p + size) := (hr.grow ((Grow.refl _).drewN nq)).set (p + size)
  have T : Turn br w ((w.drewN nq).setCell { block := br, off := 1 } (Value.int IntKind.i64 (↑p + ↑size))) := ((Turn.refl _ _).drewN nq).setCell 1 _
  obtain ⟨W, hW⟩ : ∃ W, W = (w.drewN nq).setCell { block := br, off := 1 } (Value.int IntKind.i64 (↑p + ↑size)) := ⟨_, rfl⟩
  rw [← hW] at hr2 T ⊢
  clear hW c0 c1 c2 hr
  have c0 := hr2.c0
  have c1 := hr2.c1
  go_quiet (fail)
  go_wp2
  go_ret
  exact ⟨rfl, hr2.grow ((Grow.refl _).drewN _), T.drewN _⟩

/-- The byte at a place. -/
def bAt (s : ByteArray) (p : Nat) : Nat := (s.data.toList.getD p 0).toNat
theorem bAt_lt (s : ByteArray) (p : Nat) : bAt s p < 256 := (s.data.toList.getD p 0).toNat_lt
theorem extract_one (s : ByteArray) (p : Nat) (h : p + 1 ≤ s.size) : s.extract p (p + 1) = ⟨#[s.data.toList.getD p 0]⟩ := by
  have h' : p < s.data.size := h
  ext1
  apply Array.ext
  · simp; omega
  · intro i hi hi'
    obtain rfl : i = 0 := by simpa using hi'
    simp [List.getD, Array.getElem?_eq_getElem h', ByteArray.data_extract]

set_option maxHeartbeats 1000000 in
theorem number_none (br : Nat) (s : ByteArray) (p : Nat) (w : World) (hr : Reader w br s p) (hp : p ≤ s.size) (h : s.size < p + 1) :
    Calls Try.prog 60 #[.pointer (some ⟨br, 0, none⟩)] w fun e w' => e = .panicked [{ v := brk 5, recovered := false }] ∧ Turn br w w' := by
  go_enter Try.func60, Try.ntmps60
  go_wp2_with (go_at_call 62; refine (take_none br s p 1 _ hr hp (by omega) h).mono ?_; rintro e w1 ⟨rfl, ht⟩)
  exact ⟨rfl, rfl, ht⟩
set_option maxHeartbeats 1000000 in
theorem number_some (br : Nat) (s : ByteArray) (p : Nat) (w : World) (hr : Reader w br s p) (hs : s.size ≤ 1152921504606846976) (h : p + 1 ≤ s.size) :
    Calls Try.prog 60 #[.pointer (some ⟨br, 0, none⟩)] w fun e w' => e = .returned (.int .i64 (bAt s p)) ∧ Reader w' br s (p + 1) ∧ Turn br w w' := by
  have hx := extract_one s p h
  unfold bAt
  generalize s.data.toList.getD p 0 = x at hx ⊢
  go_enter Try.func60, Try.ntmps60
  go_wp2_with (go_at_call 62; refine (take_some br s p 1 _ hr hs (by omega) h).mono ?_; rw [hx]; rintro e w1 ⟨rfl, hr1, ht⟩)
  go_ret
  have hlt := x.toNat_lt
  exact ⟨eq_ret (by show wrap64 (x.toNat : Int) = _; unfold wrap64; omega), hr1, ht⟩

set_option maxHeartbeats 1000000 in
theorem rid_none (br : Nat) (s : ByteArray) (p : Nat) (w : World) (hr : Reader w br s p) (hp : p ≤ s.size) (h : s.size < p + 1) :
    Calls Try.prog 59 #[.pointer (some ⟨br, 0, none⟩)] w fun e w' => e = .panicked [{ v := brk 5, recovered := false }] ∧ Turn br w w' := by
  go_enter Try.func59, Try.ntmps59
  go_wp2_with (go_at_call 60; refine (number_none br s p _ (hr.grow ((Grow.refl _).alloc _)) hp h).mono ?_; rintro e w1 ⟨rfl, ht⟩)
  exact ⟨rfl, rfl, ((Turn.refl _ _).alloc _).trans ht⟩
set_option maxHeartbeats 1000000 in
theorem rid_form (br : Nat) (s : ByteArray) (p : Nat) (w : World) (hr : Reader w br s p) (hs : s.size ≤ 1152921504606846976) (h : p + 1 ≤ s.size) (hreg : isReg (bAt s p) = false) :
    Calls Try.prog 59 #[.pointer (some ⟨br, 0, none⟩)] w fun e w' => e = .panicked [{ v := brk 1, recovered := false }] ∧ Turn br w w' := by
  have hpan := run_panic_brk 1
  go_enter Try.func59, Try.ntmps59
  go_wp2_with (first | (go_at_call 60; refine (number_some br s p _ (hr.grow ((Grow.refl _).alloc _)) hs h).mono ?_; rintro e w1 ⟨rfl, hr1, ht⟩) | (go_at_call 56; refine (isRegion_any _ _).mono ?_; rintro e w' ⟨rfl, rfl⟩))
  exact ⟨rfl, rfl, ((Turn.refl _ _).alloc _).trans ht⟩
set_option maxHeartbeats 1000000 in
theorem rid_half (br : Nat) (s : ByteArray) (p : Nat) (w : World) (hr : Reader w br s p) (hs : s.size ≤ 1152921504606846976) (h : p + 1 = s.size) (hreg : isReg (bAt s p) = true) :
    Calls Try.prog 59 #[.pointer (some ⟨br, 0, none⟩)] w fun e w' => e = .panicked [{ v := brk 5, recovered := false }] ∧ Turn br w w' := by
  have H : Hid (p + 1 = s.size) := h
  clear h
  go_enter Try.func59, Try.ntmps59
  go_wp2_with fail
  refine (number_some br s p _ (hr.grow ((Grow.refl _).alloc _)) hs (by have := H.out; omega)).mono ?_
  rintro e w1 ⟨rfl, hr1, ht⟩
  go_wp2_with (first | (go_at_call 56; refine (isRegion_any _ _).mono ?_; rintro e w' ⟨rfl, rfl⟩))
  refine (number_none br s (p + 1) _ hr1 (by have := H.out; omega) (by have := H.out; omega)).mono ?_
  rintro e w2 ⟨rfl, ht2⟩
  exact ⟨rfl, rfl, (((Turn.refl _ _).alloc _).trans ht).trans ht2⟩
set_option maxHeartbeats 1000000 in
theorem rid_some (br : Nat) (s : ByteArray) (p : Nat) (w : World) (hr : Reader w br s p) (hs : s.size ≤ 1152921504606846976) (h : p + 2 ≤ s.size) (hreg : isReg (bAt s p) = true) :
    Calls Try.prog 59 #[.pointer (some ⟨br, 0, none⟩)] w fun e w' => e = .returned (.agg #[.int .i64 (bAt s p), .int .i64 (bAt s (p + 1))]) ∧ Reader w' br s (p + 2) ∧ Turn br w w' := by
  go_enter Try.func59, Try.ntmps59
  go_wp2_with fail
  refine (number_some br s p _ (hr.grow ((Grow.refl _).alloc _)) hs (by omega)).mono ?_
  rintro e w1 ⟨rfl, hr1, ht⟩
  go_wp2_with (first | (go_at_call 56; refine (isRegion_any _ _).mono ?_; rintro e w' ⟨rfl, rfl⟩))
  refine (number_some br s (p + 1) _ hr1 hs (by omega)).mono ?_
  rintro e w2 ⟨rfl, hr2, ht2⟩
  have hlt := hr.lt
  have hbl := (ht.trans ht2).heap (b := w.heap.size) (by omega) (heap_alloc_new w _)
  have c0 := cell_of_block (o := 0) (v := .int .i64 0) hbl rfl
  have c1 := cell_of_block (o := 1) (v := .int .i64 0) hbl rfl
  have f0 := free_of_block hbl 0
  have f1 := free_of_block hbl 1
  have T := ((Turn.refl br w).alloc _).trans (ht.trans ht2)
  clear hbl ht ht2 hr1
  go_wp2
  have d1 : (w2.setCell { block := w.heap.size, off := 0 } (Value.int IntKind.i64 ↑(bAt s p))).cell? ⟨w.heap.size, 1, none⟩ = some (.int .i64 0) := by rw [World.cell?_setCell_other _ _ _ _ (by simp)]; exact c1
  exact bodyPost_ret (v := .agg #[.int .i64 (bAt s p), .int .i64 (bAt s (p + 1))]) (by simp [results, Try.results59, go_sem, World.cell?_setCell_same _ _ _ c0, World.cell?_setCell_same _ _ _ d1]) rfl ⟨rfl, (hr2.far (by simp; omega) _).far (by simp; omega) _, (T.setNew (by simp) _).setNew (by simp) _⟩
end Go.Proofs.Ytikdncgjaomlcaa
