/- Several servers: copies of them all. -/
import Derived.Test.YtlpdoloolagcbabSG
namespace Go.Proofs.Ytlpdoloolagcbab
open Go.RowKit

theorem Try.infoServer : (Try.prog.info? 43).map (fun i => (i.zero, i.size, i.bytes)) = some (some (.agg #[.int .i64 0, .slice none 0 0, .slice none 0 0]), 3, 56) := by kernel_rfl
/-- Its lists lie in another block. -/
def Rs.off (b : Nat) (r : Rs) : Prop := (∀ x, r.aW = some x → x.block ≠ b) ∧ (∀ x, r.aD = some x → x.block ≠ b)
theorem RowAt.grown {α : Type} {enc : α → List Value} {k : Nat} {w w' : World} {row : Option Nat} {a : Option Addr} {cap : Nat} {xs : List α} (h : RowAt enc k w a cap xs) (hg : w.grownBy w' row) (hn : ∀ x, a = some x → row ≠ some x.block) : RowAt enc k w' a cap xs := by
  refine ⟨h.1, h.2.1, h.2.2.imp id ?_⟩
  rintro ⟨b, off, rfl, hc⟩
  refine ⟨b, off, rfl, fun i x hi r u hu => ?_⟩
  have h0 := hc i x hi r u hu
  have hlt := cell_lt h0
  exact (World.cell?_of_block (w := w) (hg.block b (by simpa using hlt) (fun e => hn _ rfl e.symm))).trans h0
theorem SvAt.grown {w w' : World} {row : Option Nat} {s : Sv} {r : Rs} (h : SvAt w s r.val) (hg : w.grownBy w' row) (hn : ∀ b, row = some b → r.off b) : SvAt w' s r.val := by
  obtain ⟨aW, cW, aD, cD, e, h1, h2⟩ := h
  obtain ⟨c', aW', nW', cW', aD', nD', cD'⟩ := r
  cases e
  exact ⟨_, _, _, _, rfl, h1.grown hg (fun x hx e => (hn _ e).1 x hx rfl), h2.grown hg (fun x hx e => (hn _ e).2 x hx rfl)⟩
theorem SvAt.set {w : World} {s : Sv} {r : Rs} (h : SvAt w s r.val) {p : Addr} (hn : r.off p.block) (u : Value) : SvAt (w.setCell p u) s r.val := by
  obtain ⟨aW, cW, aD, cD, e, h1, h2⟩ := h
  obtain ⟨c', aW', nW', cW', aD', nD', cD'⟩ := r
  cases e
  exact ⟨_, _, _, _, rfl, RowAt.far h1 (fun x hx e => hn.1 x hx e.symm) u, RowAt.far h2 (fun x hx e => hn.2 x hx e.symm) u⟩
def Rs.below (n : Nat) (r : Rs) : Prop := (∀ x, r.aW = some x → x.block < n) ∧ (∀ x, r.aD = some x → x.block < n)
/-- Lists that lie somewhere lie in blocks that are there, where there is something in them. -/
structure Row (base : Nat) (w : World) (g cap : Nat) (rs : List Rs) (ss : List Sv) : Prop where
  own : w.ownsRow base 43 3 (.slice (some ⟨g, 0, none⟩) rs.length cap) rs.length (flat Rs.enc rs)
  lies : Lies w rs ss
  apart : ∀ r ∈ rs, r.off g
theorem Row.grow {base g cap : Nat} {w w' : World} {rs : List Rs} {ss : List Sv} (h : Row base w g cap rs ss) (hg : Grow w w') : Row base w' g cap rs ss := ⟨ownsRow_grow h.own hg, h.lies.grow hg, h.apart⟩
theorem Lies.snoc {w : World} {rs : List Rs} {ss : List Sv} {r : Rs} {s : Sv} (h : Lies w rs ss) (hr : SvAt w s r.val) : Lies w (rs ++ [r]) (ss ++ [s]) := by
  refine ⟨by simp [h.1], fun i r' s' h1 h2 => ?_⟩
  by_cases hi : i < rs.length
  · rw [List.getElem?_append_left hi] at h1
    rw [List.getElem?_append_left (by rw [← h.1]; exact hi)] at h2
    exact h.2 i r' s' h1 h2
  · rw [List.getElem?_append_right (by omega)] at h1
    rw [List.getElem?_append_right (by rw [← h.1]; omega)] at h2
    have hz : i - rs.length = 0 := by have := (List.getElem?_eq_some_iff.1 h1).1; simp at this; omega
    rw [hz] at h1
    rw [← h.1, hz] at h2
    cases h1
    cases h2
    exact hr
set_option maxHeartbeats 4000000 in
theorem copyAll_any (ss : List Sv) (a : Option Addr) (cap : Nat) (w : World) (hs : SvsAt w a cap ss) (h3 : ss.length = 3) (hf : ∀ s ∈ ss, s.waits.length ≤ 8 ∧ s.done.length ≤ 30) :
    Calls Try.prog 53 #[.slice a 3 cap] w fun e w' => ∃ g cap' rs, e = .returned (.slice (some ⟨g, 0, none⟩) 3 cap') ∧ Row w.heap.size w' g cap' rs ss ∧ Grow w w' ∧ g < w'.heap.size ∧ (∀ r ∈ rs, r.below w'.heap.size) := by
  obtain ⟨rs0, hrow, hlies⟩ := hs
  obtain ⟨i0, hinf, hz0, hz1, hz2⟩ := info_parts Try.infoServer
  have HR := hid hrow
  have HL := hid hlies
  have H3 := hid h3
  have HF := hid hf
  clear hrow hlies h3 hf
  go_enter Try.func53, Try.ntmps53
  go_wp2_with (at_make; go_must (refine wpList_make_own _ (by rfl) _ _ 44 (by rfl) w.heap.size 43 i0 (.agg #[.int .i64 0, .slice none 0 0, .slice none 0 0]) 3 Try.underlying44 hinf hz0 hz1 .i64 .i64 3 3 (by rfl) (by rfl) (by rfl) (by rw [hz2]; omega) (by unfold maxLen; omega) (Nat.le_refl _) ?_; intro w2 hown hgrow))
  go_loopw [3, 11] (fun v i wr => ∃ k : Nat, k ≤ 3 ∧ i = .int .i64 k ∧ ∃ g cap' rs, rs.length = k ∧ v = .slice (some ⟨g, 0, none⟩) k cap' ∧ Row w.heap.size wr g cap' rs (ss.take k) ∧ Grow w wr ∧ g < wr.heap.size ∧ (∀ r ∈ rs, r.below wr.heap.size)) (fun _ i _ => 3 - (intOf i).toNat)
  case atStart =>
    exact ⟨0, Nat.zero_le _, rfl, w.heap.size, 3, [], rfl, rfl, ⟨hown, ⟨by simp, fun i r s hr => by cases hr⟩, fun r hr => by cases hr⟩, grow_of_grown' hgrow, (hown.lt w.heap.size rfl).2, fun r hr => by cases hr⟩
  case round =>
    obtain ⟨k, hk, rfl, g, cap', rs, hrk, rfl, hRow, hG, hgl, hbel⟩ := hrel
    have HBEL := hid hbel
    clear hbel
    have HRow := hid hRow
    have HRK := hid hrk
    clear hRow hrk hown hgrow
    by_cases hlt : k < 3
    · have hks : k < ss.length := by have := H3.out; omega
      have hx : ss[k]? = some ss[k] := List.getElem?_eq_getElem hks
      have hr : rs0[k]? = some (rs0[k]'(by have := HL.out.1; omega)) := List.getElem?_eq_getElem _
      generalize ss[k] = s at hx
      generalize rs0[k]'(by have := HL.out.1; omega) = r0 at hr
      have HX := hid hx
      have SA := hid ((HL.out.grow hG).2 k r0 s hr hx)
      obtain ⟨hl1, hl2⟩ := HF.out s (List.mem_of_getElem? hx)
      obtain ⟨b, off, rfl, d0, d1, d2⟩ := (HR.out.grow hG).at3r hr
      clear hx hr hks
      have hlt' : (k : Int) < 3 := by omega
      have gb : Grow wr (wr.alloc (Obj.cells #[.int .i64 r0.clock, .slice r0.aW r0.nW r0.cW, .slice r0.aD r0.nD r0.cD] 43)) := (Grow.refl wr).alloc _
      go_wp2_with fail
      refine (scopy_any s _ _ (SA.out.grow gb) hl1 hl2).mono ?_
      rintro e w3 ⟨aW', cW', aD', cD', rfl, g3, own3⟩
      have G3 : Hid (Grow wr w3) := gb.trans g3
      have Row3 := hid (HRow.out.grow G3.out)
      obtain ⟨hw3, hd3⟩ := own3.at (by omega) (by omega)
      have SV : Hid (SvAt w3 s (Rs.val ⟨s.clock, aW', s.waits.length, cW', aD', s.done.length, cD'⟩)) := ⟨aW', cW', aD', cD', rfl, hw3, hd3⟩
      have NW : Hid (∀ x, aW' = some x → wr.heap.size ≤ x.block ∧ x.block < w3.heap.size) := fun x hx => by
        have := own3.1.lt x.block (by rw [hx]; rfl)
        simp at this
        omega
      have ND : Hid (∀ x, aD' = some x → wr.heap.size ≤ x.block ∧ x.block < w3.heap.size) := fun x hx => by
        have := own3.2.1.lt x.block (by rw [hx]; rfl)
        simp at this
        omega
      clear d0 d1 d2 gb g3 own3 hw3 hd3 SA HRow
      have hgl3 : g < w3.heap.size := Nat.lt_of_lt_of_le hgl G3.out.size
      have hle3 : w.heap.size ≤ w3.heap.size := (hG.trans G3.out).size
      have ROW : Hid (w3.ownsRow w.heap.size 43 3 (.slice (some ⟨g, 0, none⟩) k cap') k (flat Rs.enc rs)) := by
        have := Row3.out.own
        rw [HRK.out] at this
        exact this
      go_wp2_with (at_builtin; go_must (refine wpList_append_lies _ (by rfl) _ _ 44 (by rfl) w.heap.size 43 i0 (.agg #[.int .i64 0, .slice none 0 0, .slice none 0 0]) 3 56 Try.underlying44 hinf hz0 hz1 hz2 (by rfl) (by decide) (.slice (some ⟨g, 0, none⟩) k cap') k (flat Rs.enc rs) (by rfl) (ROW.out.alloc _) ⟨w3.heap.size, 0, none⟩ 1 1 (Rs.enc ⟨s.clock, aW', s.waits.length, cW', aD', s.done.length, cD'⟩) (by rfl) (by rfl) (news_block (heap_alloc_new w3 (Obj.cells #[.int .i64 s.clock, .slice aW' s.waits.length cW', .slice aD' s.done.length cD'] 43 (0, 0)))) (Rs.one _) (by decide) (by unfold maxLen; omega) (by omega) (by simp; omega) (w3.heap.size + 1) (by simp) ?_; intro g' cap2 w4 own4 gr4 hat4 hlt4))
      go_roundw
      case rel =>
        refine ⟨k + 1, by omega, by go_num, g', cap2, rs ++ [⟨s.clock, aW', s.waits.length, cW', aD', s.done.length, cD'⟩], by simp [HRK.out], rfl, ⟨?_, ?_, ?_⟩, ?_, hlt4, ?_⟩
        · rw [flat_append, show (rs ++ [(⟨s.clock, aW', s.waits.length, cW', aD', s.done.length, cD'⟩ : Rs)]).length = k + 1 from by simp [HRK.out]]
          exact own4
        · have ht : ss.take (k + 1) = ss.take k ++ [s] := by rw [List.take_add_one, HX.out]; rfl
          rw [ht]
          refine Lies.snoc ⟨Row3.out.lies.1, fun i r' s' h1 h2 => ?_⟩ ?_
          · have h5 := Row3.out.lies.2 i r' s' h1 h2
            exact (h5.grow ((Grow.refl w3).alloc _)).grown gr4 (fun b hb => by (have hb' : g = b := Option.some.inj hb); subst hb'; exact Row3.out.apart r' (List.mem_of_getElem? h1))
          · exact (SV.out.grow ((Grow.refl w3).alloc _)).grown gr4 (fun b hb => by
              have hb' : g = b := Option.some.inj hb
              subst hb'
              exact ⟨fun x hx => by have := NW.out x hx; omega, fun x hx => by have := ND.out x hx; omega⟩)
        · intro r' hr'
          rcases hat4 with h | h
          · have hb' : g = g' := Option.some.inj h
            subst hb'
            rcases List.mem_append.1 hr' with h | h
            · exact Row3.out.apart r' h
            · rw [List.mem_singleton.1 h]
              exact ⟨fun x hx => by have := NW.out x hx; omega, fun x hx => by have := ND.out x hx; omega⟩
          · rcases List.mem_append.1 hr' with h' | h'
            · have := HBEL.out r' h'
              have hsz := G3.out.size
              exact ⟨fun x hx => by have := this.1 x hx; omega, fun x hx => by have := this.2 x hx; omega⟩
            · rw [List.mem_singleton.1 h']
              exact ⟨fun x hx => by have := NW.out x hx; omega, fun x hx => by have := ND.out x hx; omega⟩
        · exact Below.trans (hG.trans (G3.out.trans ((Grow.refl w3).alloc _))) (below_grown gr4 (fun j hj => by (have hb' : g = j := Option.some.inj hj); subst hb'; exact (ROW.out.lt g rfl).1) (by simp; omega))
        · intro r' hr'
          have hsz := G3.out.size
          have hsz4 := gr4.size
          simp at hsz4
          rcases List.mem_append.1 hr' with h' | h'
          · have := HBEL.out r' h'
            exact ⟨fun x hx => by have := this.1 x hx; omega, fun x hx => by have := this.2 x hx; omega⟩
          · rw [List.mem_singleton.1 h']
            exact ⟨fun x hx => by have := NW.out x hx; omega, fun x hx => by have := ND.out x hx; omega⟩
      case measure => simp [intOf]; omega
    · obtain rfl : k = 3 := by omega
      go_wp2
      go_ret
      have ht : ss.take 3 = ss := List.take_of_length_le (by have := H3.out; omega)
      exact ⟨g, cap', rs, rfl, by have := HRow.out; rw [ht] at this; exact this, hG, hgl, HBEL.out⟩
end Go.Proofs.Ytlpdoloolagcbab
