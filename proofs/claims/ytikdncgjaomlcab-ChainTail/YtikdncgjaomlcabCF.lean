/- cutwaterlaw.ChainTail answers true. -/
import Derived.Test.YtikdncgjaomlcabCA
import Derived.Test.YtikdncgjaomlcabCC
namespace Go.Proofs.Ytikdncgjaomlcab
open Go.RowKit

theorem hidden {p : Prop} (h : p) : Hid p := h
/-- Behind the tail nothing is. -/
theorem tail_read {c : Ch} (h : c.err = 0) : (c.read (c.cut + c.cells.length)).2 = 3 ∨ (c.read (c.cut + c.cells.length)).2 = 5 := by
  obtain ⟨_, h2, h3, _⟩ := Ch.fine h
  by_cases hn : c.cut + (c.cells.length : Int) < 30
  · right
    rw [read_at h hn]
    have : c.at c.cells.length = zeroCl := by unfold Ch.at; rw [List.getElem?_eq_none (by omega)]; rfl
    rw [this]
    rfl
  · left
    unfold Ch.read
    rw [if_neg (by simp [h]), if_pos (by omega)]
theorem tail_range {c : Ch} (h : c.err = 0) : 0 ≤ c.cut + (c.cells.length : Int) ∧ c.cut + (c.cells.length : Int) ≤ 30 := by
  obtain ⟨_, h2, h3, _⟩ := Ch.fine h
  omega
/-- What is appended is at the tail. -/
theorem tail_write {c d : Ch} {s : ByteArray} {may : Cl → Bool} (h : c.write c.epoch (c.cut + c.cells.length) (textCl s) may = (d, 0)) : d.tail = (c.cut + c.cells.length + 1, 0) := by
  have hd := (write_read h).1
  obtain ⟨e1, e2, e3, _, _, i, hi, _, rfl⟩ := write_ok h
  have hil : i = c.cells.length := by omega
  subst hil
  unfold Ch.tail
  rw [if_neg (by simp [hd])]
  simp only [putCells_length]
  congr 1
  omega
theorem trim_err {c d : Ch} {to er : Int} (h : c.trim to = (d, er)) (he : er ≠ 0) : d = zeroCh := by
  unfold Ch.trim at h
  split at h
  · injection h with h _; exact h.symm
  · split at h
    · injection h with h _; exact h.symm
    · injection h with _ h; exact absurd h.symm he
/-- The tail never comes back. -/
theorem trim_tail {c b : Ch} {to : Int} (h : c.trim to = (b, 0)) : ∃ k, b.tail = (k, 0) ∧ c.cut + (c.cells.length : Int) ≤ k ∧ (c.cut + (c.cells.length : Int) < to ∨ k = c.cut + c.cells.length) := by
  obtain ⟨h1, h2, m, hm, rfl⟩ := trim_ok h
  obtain ⟨_, h3, _⟩ := Ch.fine h1
  have he := drop_err h1 (m := m) (by omega)
  refine ⟨c.cut + m + (c.cells.drop m).length, ?_, ?_⟩
  · unfold Ch.tail
    rw [if_neg (by simp [he])]
  · rw [List.length_drop]
    omega
set_option maxHeartbeats 8000000 in
theorem chainTail_walk (c : Ch) (a : Option Addr) (cap : Nat) (s : ByteArray) (to : Int) (w : World) (hc : CellsAt w a cap c.cells) (hs : s.size ≤ 9223372036854775807) :
    Calls Try.prog 4 #[c.val a cap, .string s, .int .i64 to] w fun e w' => e = .returned (.bool true) ∧ Grow w w' := by
  have HC : Hid (CellsAt w a cap c.cells) := hc
  clear hc
  have HS : Hid (s.size ≤ 9223372036854775807) := hs
  clear hs
  have g0 : Grow w (w.alloc (Obj.cells #[.int .i64 c.epoch, .bool c.sealed, .int .i64 c.cut, .slice a c.cells.length cap] 24)) := (Grow.refl w).alloc _
  have qb := heap_alloc_new w (Obj.cells #[.int .i64 c.epoch, .bool c.sealed, .int .i64 c.cut, .slice a c.cells.length cap] 24)
  unfold Ch.val
  go_enter Try.func4, Try.ntmps4
  go_wp2_with fail
  refine (tail_any c a cap _ (HC.out.grow g0)).mono ?_
  have G := g0
  clear g0
  by_cases hce : c.err = 0
  case neg =>
    have ht : c.tail = (0, c.err) := by unfold Ch.tail; rw [if_pos hce]
    rw [ht]
    rintro e w1 ⟨rfl, g⟩
    replace qb := grow_block g qb
    replace G := G.trans g
    clear g
    have hx0 : (c.err == 0) = false := by simpa using hce
    have hx1 : (c.err != 0) = true := by simpa using hce
    clear hce ht
    generalize c.err = er at *
    go_wp2_with fail
    refine (chainBegun_any _).mono ?_
    rintro e w2 ⟨rfl, g⟩
    replace qb := grow_block g qb
    replace G := G.trans g
    clear g
    go_wp2
    go_ret
    exact ⟨rfl, G⟩
  have ht : c.tail = (c.cut + c.cells.length, 0) := by unfold Ch.tail; rw [if_neg (by simp [hce])]
  rw [ht]
  have HT := hidden (tail_read hce)
  have HN := hidden (tail_range hce)
  have HW : Hid (∀ d, c.write c.epoch (c.cut + c.cells.length) (textCl s) Cl.empty = (d, 0) → d.tail = (c.cut + c.cells.length + 1, 0)) := fun d h => tail_write h
  have HM : Hid (∀ b, c.trim to = (b, 0) → ∃ k, b.tail = (k, 0) ∧ c.cut + (c.cells.length : Int) ≤ k ∧ (c.cut + (c.cells.length : Int) < to ∨ k = c.cut + c.cells.length)) := fun b h => trim_tail h
  clear ht hce
  generalize hn : c.cut + (c.cells.length : Int) = n at HT HN HW HM ⊢
  clear hn
  rintro e w1 ⟨rfl, g⟩
  replace qb := grow_block g qb
  replace G := G.trans g
  clear g
  go_wp2_with fail
  refine (chainBegun_any _).mono ?_
  rintro e w2 ⟨rfl, g⟩
  replace qb := grow_block g qb
  replace G := G.trans g
  clear g
  have q0 := cell_of_block (o := 0) qb rfl; simp at q0
  have q1 := cell_of_block (o := 1) qb rfl; simp at q1
  have q2 := cell_of_block (o := 2) qb rfl; simp at q2
  have q3 := cell_of_block (o := 3) qb rfl; simp at q3
  go_wp2_with fail
  clear q0 q1 q2 q3
  refine (read_any c a cap n _ (HC.out.grow G)).mono ?_
  generalize c.read n = r at HT ⊢
  obtain ⟨x, y⟩ := r
  have hy : y = 3 ∨ y = 5 := HT.out
  clear HT
  rintro e w3 ⟨rfl, g⟩
  replace qb := grow_block g qb
  replace G := G.trans g
  clear g
  rcases hy with rfl | rfl
  all_goals
    have q0 := cell_of_block (o := 0) qb rfl; simp at q0
    have q1 := cell_of_block (o := 1) qb rfl; simp at q1
    have q2 := cell_of_block (o := 2) qb rfl; simp at q2
    have q3 := cell_of_block (o := 3) qb rfl; simp at q3
    go_wp2_with fail
    clear q0 q1 q2 q3
    refine (cwrite_any c a cap c.epoch n s _ (HC.out.grow G) HS.out).mono ?_
    have hw := HW.out
    generalize c.write c.epoch n (textCl s) Cl.empty = r at hw ⊢
    obtain ⟨d, er⟩ := r
    rintro e w4 ⟨a2, cap2, rfl, g, C2⟩
    replace qb := grow_block g qb
    replace G := G.trans g
    clear g
    unfold Ch.val
    simp only at C2 ⊢
    have g : Grow w4 (w4.alloc (Obj.cells #[.int .i64 d.epoch, .bool d.sealed, .int .i64 d.cut, .slice a2 d.cells.length cap2] 24)) := (Grow.refl _).alloc _
    have pb := heap_alloc_new w4 (Obj.cells #[.int .i64 d.epoch, .bool d.sealed, .int .i64 d.cut, .slice a2 d.cells.length cap2] 24)
    have CD := hidden (C2.grow g)
    clear C2
    replace qb := grow_block g qb
    replace G := G.trans g
    clear g
    by_cases her : er = 0
    case' pos =>
      subst her
      have HV : Hid (d.tail = (n + 1, 0)) := hw d rfl
      clear hw
      have p0 := cell_of_block (o := 0) pb rfl; simp at p0
      have p1 := cell_of_block (o := 1) pb rfl; simp at p1
      have p2 := cell_of_block (o := 2) pb rfl; simp at p2
      have p3 := cell_of_block (o := 3) pb rfl; simp at p3
      go_wp2_with fail
      clear p0 p1 p2 p3
      generalize (w4.alloc (Obj.cells #[.int .i64 d.epoch, .bool d.sealed, .int .i64 d.cut, .slice a2 d.cells.length cap2] 24)) = W at *
      refine (tail_any d a2 cap2 _ CD.out).mono ?_
      rw [HV.out]
      rintro e w5 ⟨rfl, g⟩
      replace qb := grow_block g qb
      replace G := G.trans g
      clear g
      clear pb CD HV
      have hn0 := HN.out.1
      have hn1 := HN.out.2
      have q0 := cell_of_block (o := 0) qb rfl; simp at q0
      have q1 := cell_of_block (o := 1) qb rfl; simp at q1
      have q2 := cell_of_block (o := 2) qb rfl; simp at q2
      have q3 := cell_of_block (o := 3) qb rfl; simp at q3
      go_wp2_with fail
      clear q0 q1 q2 q3
      clear hn0 hn1
    case' neg =>
      have her0 : (er == 0) = false := by simpa using her
      have her1 : (er != 0) = true := by simpa using her
      clear her hw CD pb
      have q0 := cell_of_block (o := 0) qb rfl; simp at q0
      have q1 := cell_of_block (o := 1) qb rfl; simp at q1
      have q2 := cell_of_block (o := 2) qb rfl; simp at q2
      have q3 := cell_of_block (o := 3) qb rfl; simp at q3
      go_wp2_with fail
      clear q0 q1 q2 q3
      generalize (w4.alloc (Obj.cells #[.int .i64 d.epoch, .bool d.sealed, .int .i64 d.cut, .slice a2 d.cells.length cap2] 24)) = W at *
      clear her0 her1
    all_goals
      refine (trim_any c a cap to _ (HC.out.grow G)).mono ?_
      have hm := HM.out
      generalize hr : c.trim to = r at hm ⊢
      obtain ⟨b, e2⟩ := r
      have HR := hidden hr
      clear hr
      rintro e w6 ⟨a3, cap3, rfl, g, C3⟩
      replace G := G.trans g
      clear g
      unfold Ch.val
      simp only at C3 ⊢
      have g : Grow w6 (w6.alloc (Obj.cells #[.int .i64 b.epoch, .bool b.sealed, .int .i64 b.cut, .slice a3 b.cells.length cap3] 24)) := (Grow.refl _).alloc _
      have nb := heap_alloc_new w6 (Obj.cells #[.int .i64 b.epoch, .bool b.sealed, .int .i64 b.cut, .slice a3 b.cells.length cap3] 24)
      have CB := hidden (C3.grow g)
      clear C3
      replace G := G.trans g
      clear g
      by_cases he2 : e2 = 0
      case neg =>
        have he0 : (e2 == 0) = false := by simpa using he2
        have he1 : (e2 != 0) = true := by simpa using he2
        have hb := trim_err HR.out he2
        subst hb
        clear he2 hm
        simp only [zeroCh, List.length_nil] at nb ⊢
        have n0 := cell_of_block (o := 0) nb rfl; simp at n0
        have n1 := cell_of_block (o := 1) nb rfl; simp at n1
        have n2 := cell_of_block (o := 2) nb rfl; simp at n2
        have n3 := cell_of_block (o := 3) nb rfl; simp at n3
        go_wp2
        go_ret
        exact ⟨rfl, G⟩
      subst he2
      obtain ⟨k, ht, hk1, hk2⟩ := hm b rfl
      clear hm
      have HT := hidden ht
      clear ht
      have n0 := cell_of_block (o := 0) nb rfl; simp at n0
      have n1 := cell_of_block (o := 1) nb rfl; simp at n1
      have n2 := cell_of_block (o := 2) nb rfl; simp at n2
      have n3 := cell_of_block (o := 3) nb rfl; simp at n3
      go_wp2_with fail
      clear n0 n1 n2 n3
      generalize (w6.alloc (Obj.cells #[.int .i64 b.epoch, .bool b.sealed, .int .i64 b.cut, .slice a3 b.cells.length cap3] 24)) = W2 at *
      refine (tail_any b a3 cap3 _ CB.out).mono ?_
      rw [HT.out]
      rintro e w7 ⟨rfl, g⟩
      replace G := G.trans g
      clear g CB nb HT
      have hk1' : decide (n ≤ k) = true := by simpa using hk1
      by_cases hnt : n < to
      case pos =>
        have hnt' : decide (n < to) = true := by simpa using hnt
        clear hk2
        go_wp2
        go_ret
        exact ⟨rfl, G⟩
      have hnt' : decide (n < to) = false := by simpa using hnt
      have hkn : k = n := by rcases hk2 with h | h; exact absurd h hnt; exact h
      subst hkn
      clear hk2
      go_wp2
      go_ret
      exact ⟨rfl, G⟩
end Go.Proofs.Ytikdncgjaomlcab
