/- Package skeen: waits: which is ahead, the first one, where one waits. -/
import Derived.Test.YtlpdoloolagcbabG
namespace Go.Proofs.Ytlpdoloolagcbab
open Go.RowKit

/-- A wait of a server. -/
structure Wt where
  number : Int
  time : Int
  final : Bool
def Wt.enc (x : Wt) : List Value := [.int .i64 x.number, .int .i64 x.time, .bool x.final]
def Wt.val (x : Wt) : Value := .agg #[.int .i64 x.number, .int .i64 x.time, .bool x.final]
theorem Wt.enc3 (x : Wt) : x.enc.length = 3 := rfl
theorem Wt.one (x : Wt) : ∀ v ∈ x.enc, v.oneCell' = true := by
  intro v hv
  simp [Wt.enc] at hv
  rcases hv with rfl | rfl | rfl <;> rfl
abbrev WaitsAt := RowAt Wt.enc 3
theorem RowAt.at3 {w : World} {a : Option Addr} {cap : Nat} {ws : List Wt} (h : WaitsAt w a cap ws) {i : Nat} {x : Wt} (hi : ws[i]? = some x) :
    ∃ b off, a = some ⟨b, off, none⟩ ∧ w.cell? ⟨b, off + i * 3, none⟩ = some (.int .i64 x.number) ∧ w.cell? ⟨b, off + i * 3 + 1, none⟩ = some (.int .i64 x.time) ∧ w.cell? ⟨b, off + i * 3 + 2, none⟩ = some (.bool x.final) := by
  obtain ⟨b, off, ha, hc⟩ := RowAt.at h hi
  exact ⟨b, off, ha, hc 0 _ rfl, hc 1 _ rfl, hc 2 _ rfl⟩
/-- Numbers in memory. -/
def encZ (x : Int) : List Value := [.int .i64 x]
abbrev IntsAt := RowAt encZ 1
theorem RowAt.at1 {w : World} {a : Option Addr} {cap : Nat} {zs : List Int} (h : IntsAt w a cap zs) {i : Nat} {x : Int} (hi : zs[i]? = some x) :
    ∃ b off, a = some ⟨b, off, none⟩ ∧ w.cell? ⟨b, off + i, none⟩ = some (.int .i64 x) := by
  obtain ⟨b, off, ha, hc⟩ := RowAt.at h hi
  have := hc 0 _ rfl
  rw [Nat.mul_one, Nat.add_zero] at this
  exact ⟨b, off, ha, this⟩

/-- skeen.isNumber -/
def isNum (n : Int) : Bool := decide (1 ≤ n) && decide (n ≤ 20)
theorem isNumber_any (n : Int) (w : World) : Calls Try.prog 70 #[.int .i64 n] w fun e w' => e = .returned (.bool (isNum n)) ∧ w' = w := by
  by_cases h : 1 ≤ n
  · have h' : decide (1 ≤ n) = true := by simpa using h
    go_enter Try.func70, Try.ntmps70
    go_wp2
    go_ret
    exact ⟨by simp [isNum, h'], rfl⟩
  · have h' : decide (1 ≤ n) = false := by simpa using h
    go_enter Try.func70, Try.ntmps70
    go_wp2
    go_ret
    exact ⟨by simp [isNum, h'], rfl⟩

/-- skeen.isAhead -/
def Wt.ahead (x y : Wt) : Bool := if x.time = y.time then decide (x.number < y.number) else decide (x.time < y.time)
set_option maxHeartbeats 1000000 in
theorem isAhead_any (x y : Wt) (w : World) : Calls Try.prog 82 #[x.val, y.val] w fun e w' => e = .returned (.bool (x.ahead y)) ∧ Grow w w' := by
  obtain ⟨n, t, f⟩ := x
  obtain ⟨m, s, g⟩ := y
  unfold Wt.val
  simp only
  by_cases h : t = s
  · have E : Hid (Wt.ahead ⟨n, t, f⟩ ⟨m, s, g⟩ = decide (n < m)) := by show Wt.ahead ⟨n, t, f⟩ ⟨m, s, g⟩ = _; rw [Wt.ahead, if_pos h]
    subst h
    go_enter Try.func82, Try.ntmps82
    go_wp2
    go_ret
    exact ⟨by rw [E.out]; rfl, ((Grow.refl _).alloc _).alloc _⟩
  · have E : Hid (Wt.ahead ⟨n, t, f⟩ ⟨m, s, g⟩ = decide (t < s)) := by show Wt.ahead ⟨n, t, f⟩ ⟨m, s, g⟩ = _; rw [Wt.ahead, if_neg h]
    have h1 : (t == s) = false := by simpa using h
    have h2 : (t != s) = true := by simpa using h
    clear h
    go_enter Try.func82, Try.ntmps82
    go_wp2
    go_ret
    exact ⟨by rw [E.out]; rfl, ((Grow.refl _).alloc _).alloc _⟩

/-- skeen.first -/
def firstUpto (ws : List Wt) : Nat → Nat
  | 0 => 0
  | k + 1 => match ws[k]?, ws[firstUpto ws k]? with
    | some x, some y => if x.ahead y then k else firstUpto ws k
    | _, _ => firstUpto ws k
def firstAt (ws : List Wt) : Nat := firstUpto ws ws.length
theorem firstUpto_lt (ws : List Wt) : ∀ k, k ≤ ws.length → 0 < ws.length → firstUpto ws k < ws.length
  | 0, _, h => h
  | k + 1, hk, h => by
    have ih := firstUpto_lt ws k (by omega) h
    unfold firstUpto
    split
    · split
      · omega
      · exact ih
    · exact ih
theorem firstUpto_step {ws : List Wt} {k : Nat} {x y : Wt} (hx : ws[k]? = some x) (hy : ws[firstUpto ws k]? = some y) : firstUpto ws (k + 1) = if x.ahead y then k else firstUpto ws k := by
  rw [firstUpto, hx, hy]
set_option maxHeartbeats 2000000 in
theorem first_any (ws : List Wt) (a : Option Addr) (cap : Nat) (w : World) (hw : WaitsAt w a cap ws) (hn : 0 < ws.length) :
    Calls Try.prog 75 #[.slice a ws.length cap] w fun e w' => e = .returned (.int .i64 (firstAt ws)) ∧ Grow w w' := by
  have HW : Hid (WaitsAt w a cap ws) := hw
  have hl := hw.1
  clear hw
  go_enter Try.func75, Try.ntmps75
  go_wp2_with fail
  go_loopw [3, 8] (fun t i wr => ∃ k : Nat, k ≤ ws.length ∧ i = .int .i64 k ∧ t = .int .i64 (firstUpto ws k) ∧ Grow w wr) (fun _ i _ => ws.length - (intOf i).toNat)
  case atStart => exact ⟨0, Nat.zero_le _, rfl, rfl, Grow.refl _⟩
  case round =>
    obtain ⟨k, hk, rfl, rfl, hG⟩ := hrel
    by_cases hlt : k < ws.length
    · have hfl := firstUpto_lt ws k hk hn
      have hx : ws[k]? = some ws[k] := List.getElem?_eq_getElem hlt
      have hy : ws[firstUpto ws k]? = some ws[firstUpto ws k] := List.getElem?_eq_getElem hfl
      generalize ws[k] = x at hx
      generalize ws[firstUpto ws k] = y at hy
      have HS : Hid (firstUpto ws (k + 1) = if x.ahead y then k else firstUpto ws k) := firstUpto_step hx hy
      obtain ⟨b, off, rfl, d0, d1, d2⟩ := (HW.out.grow hG).at3 hx
      obtain ⟨b', off', e, c0, c1, c2⟩ := (HW.out.grow hG).at3 hy
      cases e
      clear hx hy
      generalize firstUpto ws k = f at *
      have hlt' : (k : Int) < (ws.length : Int) := by omega
      have hfl' : (f : Int) < (ws.length : Int) := by omega
      have G1 : Grow wr (wr.alloc (Obj.cells #[.int .i64 x.number, .int .i64 x.time, .bool x.final] 64)).drew := ((Grow.refl wr).alloc _).drew
      have k0 := grow_block (Grow.refl _).drew (heap_alloc_new wr (Obj.cells #[.int .i64 x.number, .int .i64 x.time, .bool x.final] 64))
      go_wp2_with fail
      replace c0 := cell_grow G1 c0
      replace c1 := cell_grow G1 c1
      replace c2 := cell_grow G1 c2
      clear d0 d1 d2
      refine wp_region_path [(0, 0), (1, 0), (2, 0), (3, 0), (4, 0), (5, 1)] (by kernel_rfl) (by kernel_rfl) (by kernel_rfl) (by kernel_rfl) ?_
      simp only [parts, headed, List.getElem?_toArray, List.getElem?_cons_zero, List.getElem?_cons_succ]
      generalize (wr.alloc (Obj.cells #[.int .i64 x.number, .int .i64 x.time, .bool x.final] 64)).drew = Wd at *
      have e0 := cell_of_block (o := 0) k0 rfl; simp at e0
      have e1 := cell_of_block (o := 1) k0 rfl; simp at e1
      have e2 := cell_of_block (o := 2) k0 rfl; simp at e2
      refine parts_step fun K HK => ?_
      go_wp2_with fail
      refine (isAhead_any x y _).mono ?_
      rintro e w2 ⟨rfl, hg⟩
      go_wp2_with fail
      refine HK.out _ _ hg ?_
      clear HK K
      refine parts_step fun K HK => ?_
      go_wp2_with fail
      refine HK.out _ _ (Grow.refl _) ?_
      clear HK K
      refine parts_done ?_
      cases hxy : x.ahead y
      all_goals
        go_wp2
        go_roundw
        case rel => exact ⟨k + 1, by omega, by go_num, by rw [HS.out, hxy]; rfl, hG.trans (G1.trans hg)⟩
        case measure => simp [intOf]; omega
    · obtain rfl : k = ws.length := by omega
      go_wp2
      go_ret
      exact ⟨rfl, hG⟩
end Go.Proofs.Ytlpdoloolagcbab
