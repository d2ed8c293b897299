/- What is leaned on: part 4. -/
import Derived.Test.YtlioojekjnigiafGreatQ3
import Derived.Shelf.SlSortCmp.NoneTotal
import Derived.WalkKit
import Derived.OpenShut
import Derived.ProofKit
import Derived.ChangeOld
import Derived.Lib.SmallJoins
/- A library's sort of a row of one's own, told as a call. -/
namespace Go.Proofs.YtlioojekjnigiafGreat.AM
open Go.Shelf Go.RowKit Go.Lib Go.Sort
set_option linter.unusedVariables false
set_option linter.unusedSimpArgs false

theorem get_one {e : Entry} {h : Nat} : Heap.get [(0, e)] h = if h = 0 then e else .dead := by
  by_cases hh : h = 0
  · subst hh; rfl
  · rw [if_neg hh]
    have : Nat.beq 0 h = false := by
      cases hx : Nat.beq 0 h
      · rfl
      · exact absurd (Nat.eq_of_beq_eq_true hx).symm hh
    simp only [Heap.get, this, cond_false]
theorem acall_sort {P : Program} {f T k c : Nat} {α : Type} [Inhabited α] {dEnc : α → List D} {enc : α → List Value} (hk0 : 0 < k) (hk : ∀ x, (enc x).length = k) (hkd : ∀ x, (dEnc x).length = k)
    (hrep : ∀ (A : View) (x : α) (j : Nat) (v : Value) (d : D), (dEnc x)[j]? = some d → Rep A v d → (enc x)[j]? = some v) (hrep' : ∀ (A : View) (x : α) (j : Nat) (v : Value) (d : D), (dEnc x)[j]? = some d → (enc x)[j]? = some v → Rep A v d) (hcall : callable P f = true) (l l' : List α) (hlen : l'.length = l.length)
    (hnone : ∀ p cap w, l = [] → Calls P f #[.slice p 0 cap, .func (.func c) #[] #[]] w fun e w' => e = .returned (.tuple #[]) ∧ w' = w)
    (hsome : ∀ b cap w, HoldsK enc k w b 0 l.toArray → b < w.heap.size → Calls P f #[.slice (some ⟨b, 0, none⟩) l.length cap, .func (.func c) #[] #[]] w fun e w' => e = .returned (.tuple #[]) ∧ ∃ n os, w' = sortWorldK enc k w b 0 n l'.toArray os) :
    ECall P f [.row 0, .fn (.func c) [] []] [(0, .rows T k (l.map dEnc) true)] 1 (.tup []) [(0, .rows T k (l'.map dEnc) true)] 0 := by
  refine ⟨hcall, fun r A w vs hr hc hs hv => ?_⟩
  obtain ⟨v0, v1, rfl⟩ : ∃ v0 v1, vs = #[v0, v1] := by
    match vs, hs with
    | ⟨[v0, v1]⟩, _ => exact ⟨v0, v1, rfl⟩
  have h0 := hv 0 _ rfl
  have h1 := hv 1 _ rfl
  simp only [Array.getD_eq_getD_getElem?] at h0 h1
  have h0 : VRel r A v0 (.row 0) := h0
  have h1 : VRel r A v1 (.fn (.func c) [] []) := h1
  obtain rfl : v1 = .func (.func c) #[] #[] := by
    cases h1 with
    | fn _ xs ys _ _ hx hy _ _ =>
      have e1 : xs = #[] := Array.eq_empty_of_size_eq_zero hx
      have e2 : ys = #[] := Array.eq_empty_of_size_eq_zero hy
      rw [e1, e2]
  have hent := hc.ent 0
  rw [get_one, if_pos rfl] at hent
  have same : ∀ {w' : World}, Core r A w' (Heap.get [(0, .rows T k (l'.map dEnc) true)]) → Fr w A w' A (LiveB r (Heap.get [(0, .rows T k (l.map dEnc) true)])) → ∃ v r' A' x H' n', Ending.returned (.tuple #[]) = .returned v ∧ (x = .tup [] ∧ H' = [(0, .rows T k (l'.map dEnc) true)] ∧ n' = 1 + 0) ∧ 1 ≤ n' ∧ (∀ h, h < 1 → r' h = r h) ∧ (∀ h, n' ≤ h → r' h = none) ∧ Core r' A' w' (Heap.get H') ∧ VRel r' A' v x ∧ Fr w A w' A' (LiveB r (Heap.get [(0, .rows T k (l.map dEnc) true)])) ∧ ∀ b, LiveB r' (Heap.get H') b → LiveB r (Heap.get [(0, .rows T k (l.map dEnc) true)]) b ∨ w.heap.size ≤ b := fun {w'} c1 f1 =>
    ⟨.tuple #[], r, A, .tup [], _, 1, rfl, ⟨rfl, rfl, rfl⟩, Nat.le_refl _, fun _ _ => rfl, hr, c1, .tup #[] [] rfl (by simp), f1, fun b hb => by
      obtain ⟨h, hl, hb⟩ := hb
      rw [get_one] at hl
      by_cases hh : h = 0
      · subst hh
        exact .inl ⟨0, rfl, hb⟩
      · rw [if_neg hh] at hl; cases hl⟩
  have none_case : l = [] → ∀ p cap, v0 = .slice p 0 cap → Calls P f #[v0, .func (.func c) #[] #[]] w fun e w' => ∃ v r' A' x H' n', e = .returned v ∧ (x = .tup [] ∧ H' = [(0, .rows T k (l'.map dEnc) true)] ∧ n' = 1 + 0) ∧ 1 ≤ n' ∧ (∀ h, h < 1 → r' h = r h) ∧ (∀ h, n' ≤ h → r' h = none) ∧ Core r' A' w' (Heap.get H') ∧ VRel r' A' v x ∧ Fr w A w' A' (LiveB r (Heap.get [(0, .rows T k (l.map dEnc) true)])) ∧ ∀ b, LiveB r' (Heap.get H') b → LiveB r (Heap.get [(0, .rows T k (l.map dEnc) true)]) b ∨ w.heap.size ≤ b := fun hl p cap hv0 => by
    subst hv0
    have hl' : l' = l := by
      rw [hl] at hlen ⊢
      exact List.eq_nil_of_length_eq_zero hlen
    refine (hnone p cap w hl).mono fun e w' he => ?_
    obtain ⟨rfl, rfl⟩ := he
    refine same (by rw [hl']; exact hc) (Fr.refl _ _ _)
  cases h0 with
  | rowNil _ a ha hb =>
    obtain ⟨_, ⟨_, h2⟩ | ⟨b, cap, cells, e1, _⟩⟩ := hent
    · exact none_case (by simpa using h2) a 0 rfl
    · rw [hb] at e1; cases e1
  | row _ b n cap hb =>
    obtain ⟨k0, ⟨h2, _⟩ | ⟨b', cap', cells, e1, e2, e3, e4, e5, e6, e7⟩⟩ := hent
    · rw [hb] at h2; cases h2
    · rw [hb] at e1
      simp only [Option.some.injEq, Loc.mk.injEq] at e1
      obtain ⟨rfl, rfl, rfl⟩ := e1
      by_cases hl0 : l = []
      · exact none_case hl0 _ _ (by rw [hl0]; rfl)
      rw [List.length_map] at e5 ⊢
      have hlt := heap_lt e2
      have hsz : (flatK enc k l.toArray).size = l.length * k := by simp
      have hle : l.length * k ≤ cells.size := by rw [e3]; exact Nat.mul_le_mul_right _ e5
      have hH : HoldsK enc k w b 0 l.toArray := fun j hj => by
        rw [hsz] at hj
        have hjc : j < cells.size := by omega
        have hi : j / k < l.length := Nat.div_lt_of_lt_mul (by rw [Nat.mul_comm]; exact hj)
        have hm : j % k < k := Nat.mod_lt _ hk0
        have hd : (dEnc l[j / k])[j % k]? = some ((dEnc l[j / k])[j % k]'(by rw [hkd]; exact hm)) := List.getElem?_eq_getElem _
        have := e6 (j / k) (dEnc l[j / k]) (by rw [List.getElem?_map, List.getElem?_eq_getElem hi]; rfl) (j % k) _ hd
        rw [Nat.mul_comm, Nat.div_add_mod] at this
        have hv2 := hrep _ _ _ _ _ hd this
        rw [Nat.zero_add]
        refine ⟨?_, ?_⟩
        · rw [cell_of e2 (getD_some hjc undef)]
          congr 1
          rw [get_flatK enc k l.toArray j (by simpa using hj)]
          have h5 : l.toArray[j / k]! = l[j / k] := by simp [hi]
          rw [h5]
          have h6 : (enc l[j / k])[j % k]! = (enc l[j / k])[j % k]'(by rw [hk]; exact hm) := by
            rw [getElem!_pos]
          rw [show (id (enc l[j / k])[j % k]! : Value) = (enc l[j / k])[j % k]! from rfl, h6]
          rw [List.getElem?_eq_getElem (by rw [hk]; exact hm)] at hv2
          exact (Option.some.inj hv2).symm
        · simp [World.frozen?, e2]
      refine (hsome b cap w hH hlt).mono fun e w' he => ?_
      obtain ⟨rfl, n, os, rfl⟩ := he
      let F := flatK enc k l'.toArray
      have hF : F.size = l.length * k := by simp [F, hlen]
      have hb' : (sortWorldK enc k w b 0 n l'.toArray os).heap[b]? = some (.cells (putCells id 0 F cells) T (0, 0)) := by
        show ((w.heap.modify b (onCells (putCells id 0 F))) ++ os)[b]? = _
        rw [Array.getElem?_append_left (by simpa using hlt), Array.getElem?_modify, if_pos rfl, e2]
        rfl
      have ho : ∀ x, x < w.heap.size → x ≠ b → (sortWorldK enc k w b 0 n l'.toArray os).heap[x]? = w.heap[x]? := fun x hx hne => by
        show ((w.heap.modify b (onCells (putCells id 0 F))) ++ os)[x]? = _
        rw [Array.getElem?_append_left (by simpa using hx), Array.getElem?_modify, if_neg (Ne.symm hne)]
      have hfr : Fr w A (sortWorldK enc k w b 0 n l'.toArray os) A (fun x => x = b) := by
        refine ⟨rfl, rfl, rfl, ?_, fun x hx hne => ho x hx hne, Sub.refl A, fun _ _ _ => rfl⟩
        show w.heap.size ≤ ((w.heap.modify b (onCells (putCells id 0 F))) ++ os).size
        simp
      have hlive : LiveB r (Heap.get [(0, .rows T k (l.map dEnc) true)]) b := ⟨0, rfl, by simp [Rho.blk, hb]⟩
      refine same ⟨fun b2 o v hA => ?_, fun h => ?_, fun h h' b2 hl hl' _ _ => ?_⟩ (hfr.weaken fun x hx => by rw [hx]; exact hlive)
      · have hv3 := hc.view b2 o v hA
        have hne : b2 ≠ b := fun e => by rw [e, e7] at hA; cases hA
        rw [← hv3]
        exact World.cell?_of_block (w := w) (ho b2 (cell_lt' hv3) hne)
      · rw [get_one]
        by_cases hh : h = 0
        · subst hh
          rw [if_pos rfl]
          refine ⟨fun e he => ?_, .inr ⟨b, cap, putCells id 0 F cells, ?_, hb', ?_, e4, ?_, fun i e he j d hd => ?_, e7⟩⟩
          · obtain ⟨x, _, rfl⟩ := List.mem_map.1 he
            exact hkd x
          · rw [hb, List.length_map, List.length_map, hlen]
          · simp [putCells, e3]
          · rw [List.length_map, hlen]; exact e5
          · rw [List.getElem?_map, Option.map_eq_some_iff] at he
            obtain ⟨x, hx, rfl⟩ := he
            obtain ⟨hi, hxi⟩ := List.getElem?_eq_some_iff.1 hx
            have hj : j < k := by
              have := (List.getElem?_eq_some_iff.1 hd).1
              rwa [hkd] at this
            have hlt2 : i * k + j < l.length * k := by
              have h5 : (i + 1) * k ≤ l.length * k := Nat.mul_le_mul_right _ (by omega)
              rw [Nat.add_mul] at h5
              omega
            have hval : (putCells id 0 F cells).getD (i * k + j) undef = (enc x)[j]'(by rw [hk]; exact hj) := by
              have hcs : i * k + j < (putCells id 0 F cells).size := by simp [putCells]; omega
              rw [Array.getD_eq_getD_getElem?, Array.getElem?_eq_getElem hcs, Option.getD_some]
              simp only [putCells, Array.getElem_mapIdx]
              rw [if_pos ⟨Nat.zero_le _, by omega⟩, Nat.sub_zero]
              show (flatK enc k l'.toArray)[i * k + j]! = _
              rw [get_flatK enc k l'.toArray _ (by simp [hlen]; exact hlt2)]
              have hdiv : (i * k + j) / k = i := by
                rw [Nat.mul_comm, Nat.mul_add_div hk0, Nat.div_eq_of_lt hj, Nat.add_zero]
              have hmod : (i * k + j) % k = j := by
                rw [Nat.mul_comm, Nat.mul_add_mod, Nat.mod_eq_of_lt hj]
              rw [hdiv, hmod]
              have h5 : l'.toArray[i]! = x := by simp [hi, hxi]
              rw [h5, getElem!_pos]
            refine hrep' _ x j _ d hd ?_
            rw [hval, List.getElem?_eq_getElem]
        · rw [if_neg hh]; trivial
      · rw [get_one] at hl hl'
        by_cases hh : h = 0
        · by_cases hh' : h' = 0
          · rw [hh, hh']
          · rw [if_neg hh'] at hl'; cases hl'
        · rw [if_neg hh] at hl; cases hl
end Go.Proofs.YtlioojekjnigiafGreat.AM
/- Ids sorted. -/
namespace Go.Proofs.YtlioojekjnigiafGreat.AM
open Go.Shelf Go.RowKit Go.Lib Go.Sort
set_option linter.unusedVariables false
set_option linter.unusedSimpArgs false

def sortIdLay_ren : Go.Shelf.Ren := ⟨fun | 6 => 180 | 15 => 234 | 14 => 233 | 28 => 276 | 29 => 277 | 20 => 268 | 21 => 269 | 22 => 270 | 23 => 271 | 24 => 272 | 25 => 273 | 26 => 274 | 27 => 275 | 46 => 290 | 47 => 291 | 48 => 292 | 49 => 293 | 50 => 294 | 57 => 308 | n => n, fun | 22 => 26 | 24 => 25 | 25 => 240 | 3 => 3 | 39 => 283 | 0 => 0 | 53 => 323 | 55 => 325 | 4 => 4 | 46 => 316 | 45 => 315 | 50 => 320 | 5 => 5 | 9 => 9 | 66 => 332 | 70 => 336 | 76 => 346 | 77 => 347 | n => n, fun | n => n⟩
theorem sortIdLay : Go.Proofs.SlLaysF0.n6 Tryz.prog sortIdLay_ren := {
  mixed := by kernel_rfl
  f6 := ⟨Tryz.f180.name, by decide, Tryz.func180.trans (congrArg some (by kernel_rfl))⟩
  f14 := ⟨Tryz.f233.name, by decide, Tryz.func233.trans (congrArg some (by kernel_rfl))⟩
  f15 := Tryz.func234.trans (congrArg some (by kernel_rfl))
  f20 := ⟨Tryz.f268.name, by decide, Tryz.func268.trans (congrArg some (by kernel_rfl))⟩
  f21 := ⟨Tryz.f269.name, by decide, Tryz.func269.trans (congrArg some (by kernel_rfl))⟩
  f22 := ⟨Tryz.f270.name, by decide, Tryz.func270.trans (congrArg some (by kernel_rfl))⟩
  f23 := ⟨Tryz.f271.name, by decide, Tryz.func271.trans (congrArg some (by kernel_rfl))⟩
  f24 := ⟨Tryz.f272.name, by decide, Tryz.func272.trans (congrArg some (by kernel_rfl))⟩
  f25 := ⟨Tryz.f273.name, by decide, Tryz.func273.trans (congrArg some (by kernel_rfl))⟩
  f26 := ⟨Tryz.f274.name, by decide, Tryz.func274.trans (congrArg some (by kernel_rfl))⟩
  f27 := ⟨Tryz.f275.name, by decide, Tryz.func275.trans (congrArg some (by kernel_rfl))⟩
  f28 := Tryz.func276.trans (congrArg some (by kernel_rfl))
  f29 := Tryz.func277.trans (congrArg some (by kernel_rfl))
  f46 := ⟨Tryz.f290.name, by decide, Tryz.func290.trans (congrArg some (by kernel_rfl))⟩
  f47 := Tryz.func291.trans (congrArg some (by kernel_rfl))
  f48 := Tryz.func292.trans (congrArg some (by kernel_rfl))
  f49 := ⟨Tryz.f293.name, by decide, Tryz.func293.trans (congrArg some (by kernel_rfl))⟩
  f50 := ⟨Tryz.f294.name, by decide, Tryz.func294.trans (congrArg some (by kernel_rfl))⟩
  f57 := ⟨Tryz.f308.name, by decide, Tryz.func308.trans (congrArg some (by kernel_rfl))⟩
  t0 := Tryz.underlying0
  a0 := Tryz.isAgg0
  z0 := Tryz.sizeOf0
  v0 := Tryz.zeroValue0
  t3 := Tryz.underlying3
  a3 := Tryz.isAgg3
  z3 := Tryz.sizeOf3
  v3 := Tryz.zeroValue3
  t4 := Tryz.underlying4
  a4 := Tryz.isAgg4
  z4 := Tryz.sizeOf4
  v4 := Tryz.zeroValue4
  t5 := Tryz.underlying5
  a5 := Tryz.isAgg5
  z5 := Tryz.sizeOf5
  v5 := Tryz.zeroValue5
  t9 := Tryz.underlying9
  a9 := Tryz.isAgg9
  z9 := Tryz.sizeOf9
  v9 := Tryz.zeroValue9
  t22 := Tryz.underlying26
  a22 := Tryz.isAgg26
  z22 := Tryz.sizeOf26
  v22 := Tryz.zeroValue26
  t25 := Tryz.underlying240
  a25 := Tryz.isAgg240
  z25 := Tryz.sizeOf240
  v25 := Tryz.zeroValue240
  t39 := Tryz.underlying283
  a39 := Tryz.isAgg283
  z39 := Tryz.sizeOf283
  v39 := Tryz.zeroValue283
  t45 := Tryz.underlying315
  a45 := Tryz.isAgg315
  z45 := Tryz.sizeOf315
  v45 := Tryz.zeroValue315
  t46 := Tryz.underlying316
  a46 := Tryz.isAgg316
  z46 := Tryz.sizeOf316
  v46 := Tryz.zeroValue316
  t50 := Tryz.underlying320
  a50 := Tryz.isAgg320
  z50 := Tryz.sizeOf320
  v50 := Tryz.zeroValue320
  t53 := Tryz.underlying323
  a53 := Tryz.isAgg323
  z53 := Tryz.sizeOf323
  v53 := Tryz.zeroValue323
  t55 := Tryz.underlying325
  a55 := Tryz.isAgg325
  z55 := Tryz.sizeOf325
  v55 := Tryz.zeroValue325
  t66 := Tryz.underlying332
  a66 := Tryz.isAgg332
  z66 := Tryz.sizeOf332
  v66 := Tryz.zeroValue332
  t70 := Tryz.underlying336
  a70 := Tryz.isAgg336
  z70 := Tryz.sizeOf336
  v70 := Tryz.zeroValue336
  t76 := Tryz.underlying346
  a76 := Tryz.isAgg346
  z76 := Tryz.sizeOf346
  v76 := Tryz.zeroValue346
  t77 := Tryz.underlying347
  a77 := Tryz.isAgg347
  z77 := Tryz.sizeOf347
  v77 := Tryz.zeroValue347 }
def Id.vals (x : Id) : List Value := [.int .i64 x.r, .int .i64 x.n]
instance : Inhabited Id := ⟨⟨0, 0⟩⟩
def cmpId (x y : Id) : Int := if x.less y then -1 else if y.less x then 1 else 0
set_option maxHeartbeats 2000000 in
theorem less_any (x y : Id) (W : World) : Calls Tryz.prog 82 #[.agg #[.int .i64 x.r, .int .i64 x.n], .agg #[.int .i64 y.r, .int .i64 y.n]] W fun e w' => e = .returned (.bool (x.less y)) ∧ ∃ q os', w' = grow (W.drewN q) os' := by
  have hl : x.less y = if x.r = y.r then decide (x.n < y.n) else decide (x.r < y.r) := rfl
  by_cases h : x.r = y.r
  · rw [if_pos h] at hl
    rw [hl, h]
    go_enter Tryz.func82, Tryz.ntmps82
    go_wp2
    go_ret
    exact ⟨rfl, 0, _, by rw [alloc_eq_grow, alloc_eq_grow, grow_grow]; rfl⟩
  · rw [if_neg h] at hl
    rw [hl]
    go_enter Tryz.func82, Tryz.ntmps82
    go_wp2
    go_ret
    exact ⟨rfl, 0, _, by rw [alloc_eq_grow, alloc_eq_grow, grow_grow]; rfl⟩
theorem drewN_grow (w : World) (a b : Nat) (os os' : Array Obj) : grow ((grow (w.drewN a) os).drewN b) os' = grow (w.drewN (a + b)) (os ++ os') := by
  show grow (grow ((w.drewN a).drewN b) os) os' = _
  rw [grow_grow]
  unfold World.drewN
  simp only [Nat.add_assoc]
theorem alloc_two (w : World) (o o2 : Obj) : (w.alloc o).alloc o2 = grow (w.drewN 0) (#[o] ++ #[o2]) := by rw [alloc_eq_grow, alloc_eq_grow, grow_grow]; rfl
theorem drewN_cell (w : World) (q : Nat) (os : Array Obj) {a : Addr} {v : Value} (h : w.cell? a = some v) : (grow (w.drewN q) os).cell? a = some v := by
  have h2 : a.block < w.heap.size := by
    unfold World.cell? at h
    split at h
    · rename_i hb; exact (Array.getElem?_eq_some_iff.1 hb).1
    · cases h
  rw [← h]
  unfold World.cell?
  show (match ((w.heap ++ os)[a.block]? : Option Obj) with | some (.cells c _ _) => if a.spot.isSome then none else c[a.off]? | _ => none) = _
  rw [Array.getElem?_append_left h2]
  rfl
theorem two_first (W : World) (o o2 : Obj) : ((W.alloc o).alloc o2).heap[W.heap.size]? = some o := by
  rw [alloc_two]
  show (W.heap ++ (#[o] ++ #[o2]))[W.heap.size]? = _
  rw [Array.getElem?_append_right (Nat.le_refl _)]
  simp
theorem two_second (W : World) (o o2 : Obj) : ((W.alloc o).alloc o2).heap[W.heap.size + 1]? = some o2 := by
  rw [alloc_two]
  show (W.heap ++ (#[o] ++ #[o2]))[W.heap.size + 1]? = _
  rw [Array.getElem?_append_right (by omega)]
  simp
set_option maxHeartbeats 2000000 in
theorem compare_any (x y : Id) (W : World) : Calls Tryz.prog 181 #[.agg #[.int .i64 x.r, .int .i64 x.n], .agg #[.int .i64 y.r, .int .i64 y.n]] W fun e w' => e = .returned (.int .i64 (cmpId x y)) ∧ ∃ q os', w' = grow (W.drewN q) os' := by
  have hc : cmpId x y = if x.less y then -1 else if y.less x then 1 else 0 := rfl
  generalize cmpId x y = c at hc
  by_cases h1 : x.less y = true
  · rw [if_pos h1] at hc
    subst hc
    go_enter Tryz.func181, Tryz.ntmps181
    go_wp2_with fail
    refine (less_any x y _).mono ?_
    rintro e w1 ⟨rfl, q1, os1, rfl⟩
    go_wp2
    go_ret
    exact ⟨rfl, _, _, by rw [alloc_two, drewN_grow]⟩
  · rw [if_neg h1] at hc
    have h1 : x.less y = false := by simpa using h1
    have hc0 := hc
    clear hc
    have go : ∀ (b : Bool), y.less x = b → c = (if b = true then 1 else 0) → Calls Tryz.prog 181 #[.agg #[.int .i64 x.r, .int .i64 x.n], .agg #[.int .i64 y.r, .int .i64 y.n]] W fun e w' => e = .returned (.int .i64 c) ∧ ∃ q os', w' = grow (W.drewN q) os' := fun b hb hc => by
      clear hc0
      cases b
      · have hc' : c = 0 := by simpa using hc
        clear hc
        subst hc'
        go_enter Tryz.func181, Tryz.ntmps181
        go_wp2_with fail
        refine (less_any x y _).mono ?_
        rintro e w1 ⟨rfl, q1, os1, hw0⟩
        have cell : ∀ (j : Nat) (v : Value), ([Value.int .i64 x.r, .int .i64 x.n] : List Value)[j]? = some v → w1.cell? ⟨W.heap.size, j, none⟩ = some v := fun j v hv => by
          rw [hw0]
          refine drewN_cell _ _ _ ?_
          unfold World.cell?
          have : ((W.alloc (.cells #[Value.int .i64 x.r, .int .i64 x.n] 25)).alloc (.cells #[Value.int .i64 y.r, .int .i64 y.n] 25)).heap[W.heap.size]? = some (.cells #[Value.int .i64 x.r, .int .i64 x.n] 25 (0, 0)) := two_first W _ _
          rw [this]
          simpa using hv
        have cell' : ∀ (j : Nat) (v : Value), ([Value.int .i64 y.r, .int .i64 y.n] : List Value)[j]? = some v → w1.cell? ⟨W.heap.size + 1, j, none⟩ = some v := fun j v hv => by
          rw [hw0]
          refine drewN_cell _ _ _ ?_
          unfold World.cell?
          have : ((W.alloc (.cells #[Value.int .i64 x.r, .int .i64 x.n] 25)).alloc (.cells #[Value.int .i64 y.r, .int .i64 y.n] 25)).heap[W.heap.size + 1]? = some (.cells #[Value.int .i64 y.r, .int .i64 y.n] 25 (0, 0)) := two_second W _ _
          rw [this]
          simpa using hv
        have c0 := cell 0 _ rfl
        have c1 := cell 1 _ rfl
        have d0 := cell' 0 _ rfl
        have d1 := cell' 1 _ rfl
        clear cell cell'
        have hw : w1 = grow (W.drewN (0 + q1)) ((#[Obj.cells #[Value.int .i64 x.r, .int .i64 x.n] 25] ++ #[Obj.cells #[Value.int .i64 y.r, .int .i64 y.n] 25]) ++ os1) := by rw [hw0, alloc_two, drewN_grow]
        have hw2 : ∃ q os', w1 = grow (W.drewN q) os' := ⟨_, _, hw⟩
        clear hw hw0
        go_wp2_with fail
        refine (less_any y x _).mono ?_
        rintro e w2 ⟨rfl, q2, os2, hw3⟩
        have hw4 : ∃ q os', w2 = grow (W.drewN q) os' := by
          obtain ⟨q, os', rfl⟩ := hw2
          exact ⟨_, _, hw3.trans (drewN_grow _ _ _ _ _)⟩
        clear hw3 hw2 c0 c1 d0 d1
        rw [hb]
        go_wp2
        go_ret
        exact ⟨rfl, hw4⟩
      · have hc' : c = 1 := by simpa using hc
        clear hc
        subst hc'
        go_enter Tryz.func181, Tryz.ntmps181
        go_wp2_with fail
        refine (less_any x y _).mono ?_
        rintro e w1 ⟨rfl, q1, os1, hw0⟩
        have cell : ∀ (j : Nat) (v : Value), ([Value.int .i64 x.r, .int .i64 x.n] : List Value)[j]? = some v → w1.cell? ⟨W.heap.size, j, none⟩ = some v := fun j v hv => by
          rw [hw0]
          refine drewN_cell _ _ _ ?_
          unfold World.cell?
          have : ((W.alloc (.cells #[Value.int .i64 x.r, .int .i64 x.n] 25)).alloc (.cells #[Value.int .i64 y.r, .int .i64 y.n] 25)).heap[W.heap.size]? = some (.cells #[Value.int .i64 x.r, .int .i64 x.n] 25 (0, 0)) := two_first W _ _
          rw [this]
          simpa using hv
        have cell' : ∀ (j : Nat) (v : Value), ([Value.int .i64 y.r, .int .i64 y.n] : List Value)[j]? = some v → w1.cell? ⟨W.heap.size + 1, j, none⟩ = some v := fun j v hv => by
          rw [hw0]
          refine drewN_cell _ _ _ ?_
          unfold World.cell?
          have : ((W.alloc (.cells #[Value.int .i64 x.r, .int .i64 x.n] 25)).alloc (.cells #[Value.int .i64 y.r, .int .i64 y.n] 25)).heap[W.heap.size + 1]? = some (.cells #[Value.int .i64 y.r, .int .i64 y.n] 25 (0, 0)) := two_second W _ _
          rw [this]
          simpa using hv
        have c0 := cell 0 _ rfl
        have c1 := cell 1 _ rfl
        have d0 := cell' 0 _ rfl
        have d1 := cell' 1 _ rfl
        clear cell cell'
        have hw : w1 = grow (W.drewN (0 + q1)) ((#[Obj.cells #[Value.int .i64 x.r, .int .i64 x.n] 25] ++ #[Obj.cells #[Value.int .i64 y.r, .int .i64 y.n] 25]) ++ os1) := by rw [hw0, alloc_two, drewN_grow]
        have hw2 : ∃ q os', w1 = grow (W.drewN q) os' := ⟨_, _, hw⟩
        clear hw hw0
        go_wp2_with fail
        refine (less_any y x _).mono ?_
        rintro e w2 ⟨rfl, q2, os2, hw3⟩
        have hw4 : ∃ q os', w2 = grow (W.drewN q) os' := by
          obtain ⟨q, os', rfl⟩ := hw2
          exact ⟨_, _, hw3.trans (drewN_grow _ _ _ _ _)⟩
        clear hw3 hw2 c0 c1 d0 d1
        rw [hb]
        go_wp2
        go_ret
        exact ⟨rfl, hw4⟩
    exact go _ rfl hc0
theorem ltOf_cmpId (x y : Id) : ltOf cmpId x y = x.less y := by
  unfold ltOf cmpId
  cases h : x.less y
  · cases k : y.less x <;> simp
  · simp
theorem swo_cmpId : SWO (ltOf cmpId) where
  irrefl x := by rw [ltOf_cmpId]; exact less_irrefl x
  trans x y z h1 h2 := by rw [ltOf_cmpId] at *; exact less_trans h1 h2
  ntrans x y z h1 h2 := by
    rw [ltOf_cmpId] at *
    rw [Bool.eq_false_iff] at *
    rw [ne_eq, less_iff] at *
    omega
theorem sortFunc_ok (ids : List Id) (h : ids.length ≤ 1000) : ECall Tryz.prog 180 [.row 0, .fn (.func 181) [] []] [(0, .rows 25 2 (ids.map Id.enc) true)] 1 (.tup []) [(0, .rows 25 2 ((sortIds ids).map Id.enc) true)] 0 := by
  have eg : ∀ args w, (callFunc 181 args).run Tryz.prog w = .ok (.enter 181 args) w := enters_of Tryz.func181 (by kernel_rfl) rfl
  have hs : (fun x y => !(ltOf cmpId) y x) = lessLe := funext fun x => funext fun y => by rw [ltOf_cmpId]; rfl
  refine acall_sort (k := 2) (dEnc := Id.enc) (enc := Id.vals) (by decide) (fun _ => rfl) (fun _ => rfl) (fun A x j v d hd hr => ?_) (fun A x j v d hd hv => ?_) (by kernel_rfl) ids (sortIds ids) (sortIds_len ids) (fun p cap w _ => ?_) fun b cap w hH hb => ?_
  · match j with
    | 0 => obtain rfl : D.int .i64 x.r = d := by simpa [Id.enc] using hd
           cases hr; rfl
    | 1 => obtain rfl : D.int .i64 x.n = d := by simpa [Id.enc] using hd
           cases hr; rfl
    | j + 2 => simp [Id.enc] at hd
  · match j with
    | 0 => obtain rfl : D.int .i64 x.r = d := by simpa [Id.enc] using hd
           obtain rfl : Value.int .i64 x.r = v := by simpa [Id.vals] using hv
           exact .int _ _
    | 1 => obtain rfl : D.int .i64 x.n = d := by simpa [Id.enc] using hd
           obtain rfl : Value.int .i64 x.n = v := by simpa [Id.vals] using hv
           exact .int _ _
    | j + 2 => simp [Id.enc] at hd
  · exact AnyF.slices_SortFunc_none { sortIdLay with } p cap _ w
  · have := AnyQ.slices_SortFunc_total sortIdLay 2 Tryz.isAgg25 Tryz.sizeOf25 Id.vals (fun _ => rfl) (fun x v hv => by simp [Id.vals] at hv; rcases hv with rfl | rfl <;> rfl) cmpId swo_cmpId 181 #[] b 0 cap ids.toArray w eg (fun _ _ _ _ x y => compare_any x y _) hH hb (by simp; omega) (fun x y h1 h2 => by rw [ltOf_cmpId] at *; exact less_total h1 h2)
    rw [hs, mergeSort_eq] at this
    exact this
end Go.Proofs.YtlioojekjnigiafGreat.AM
/- Pasts, heads and counts, as the program reckons them. -/
namespace Go.Proofs.YtlioojekjnigiafGreat.AM
set_option linter.unusedVariables false
set_option linter.unusedSimpArgs false

theorem drop_last {α : Type} {l : List α} {k : Nat} (hk : k < l.length) : l.drop (l.length - (k + 1)) = l[l.length - 1 - k] :: l.drop (l.length - k) := by
  rw [show l.length - (k + 1) = l.length - 1 - k by omega, List.drop_eq_getElem_cons (by omega), show l.length - 1 - k + 1 = l.length - k by omega]
theorem pastFold_len (p : Entry' → Bool) : ∀ {l : List Entry'}, (∀ e ∈ l, e.links.length ≤ 6) → (pastFold p l).length ≤ 6 * l.length
  | [], _ => Nat.le_refl _
  | e :: t, h => by
    have ih := pastFold_len p (l := t) fun x hx => h x (by simp [hx])
    have h6 := h e (by simp)
    unfold pastFold
    split
    · have := joinIds_len e.links (pastFold p t)
      simp only [List.length_cons]
      omega
    · simp only [List.length_cons]
      omega
set_option maxHeartbeats 0 in
theorem pastOf_ok {cl : Nat} {ds : List D} {p : Entry' → Bool} (l : List Entry') (hl : l.length ≤ 40) (h6 : ∀ e ∈ l, e.links.length ≤ 6) (hcl : ∀ e ∈ l, PCall Tryz.prog cl [e.arg, .dat (.ptr ds)] (dBool (p e))) :
    PCall Tryz.prog 97 [.dat (.list (l.map Entry'.enc)), .fn (.func cl) [] [.dat (.ptr ds)]] (.dat (.list ((sortIds (pastFold p l)).map Id.enc))) := by
  refine pcall_intro tab_all tab_mixed Tryz.func97 (by kernel_rfl) Tryz.ntmps97 rfl ?_
  conv => whnf
  refine LoopOk.hide fun Q1 hQ1 => ?_
  refine LoopOk.mk (fun m s => ∃ k, k + m = l.length ∧ s = ⟨[(6, dInt ((l.length : Int) - 1 - k)), (0, .dat (.list (l.map Entry'.enc))), (1, .fn (.func cl) [] [.dat (.ptr ds)]), (5, .row 0)], 1, [(0, .rows 25 2 ((pastFold p (l.drop (l.length - k))).map Id.enc) true)]⟩) l.length ((Into.row 5 25 2 rfl).trans fun s' hs' => by
    subst hs'
    exact Into.mono (Into.to [0] [(6, dInt ((l.length : Int) - 1 - (0 : Nat))), (0, .dat (.list (l.map Entry'.enc))), (1, .fn (.func cl) [] [.dat (.ptr ds)]), (5, .row 0)] [(0, .rows 25 2 ((pastFold p (l.drop (l.length - 0))).map Id.enc) true)] ⟨.same (congrArg dInt (by rw [wrap_id (by simp; omega) (by simp; omega)]; simp)), .same rfl, .same rfl, .same rfl, trivial⟩ ⟨⟨rfl, rfl, rfl, by rw [List.drop_of_length_le (by omega)]; rfl⟩, trivial⟩ rfl rfl) fun s' h => ⟨0, by omega, h⟩) ?_
  rintro m s ⟨k, hk, rfl⟩
  conv => whnf
  repeat (first | (refine Conf.mk (by kernel_rfl) ?_; conv => whnf) | (refine SeqOk.go ?_; conv => whnf))
  refine ⟨fun h => ?_, fun h => ?_⟩
  · have hk' : k < l.length := by simp at h; omega
    have hsub : ((l.length : Int) - 1 - k) = ((l.length - 1 - k : Nat) : Int) := by omega
    have hlt : l.length - 1 - k < l.length := by omega
    have hfl := pastFold_len p (l := l.drop (l.length - k)) fun e he => h6 e (List.mem_of_mem_drop he)
    rw [List.length_drop] at hfl
    have hst : pastFold p (l.drop (l.length - (k + 1))) = if p l[l.length - 1 - k] || (pastFold p (l.drop (l.length - k))).any (isId2 l[l.length - 1 - k].id) then joinIds (pastFold p (l.drop (l.length - k))) l[l.length - 1 - k].links else pastFold p (l.drop (l.length - k)) := by
      rw [drop_last hk']
      rfl
    conv => whnf
    repeat (first | (refine Conf.mk (by kernel_rfl) ?_; conv => whnf) | (refine SeqOk.go ?_; conv => whnf))
    refine AtIdx.ofMap' _ hsub hlt rfl ?_
    conv => whnf
    repeat (first | (refine Conf.mk (by kernel_rfl) ?_; conv => whnf) | (refine SeqOk.go ?_; conv => whnf))
    refine .look _ _ (hcl _ (List.getElem_mem hlt)) rfl rfl ?_
    conv => whnf
    repeat (first | (refine Conf.mk (by kernel_rfl) ?_; conv => whnf) | (refine SeqOk.go ?_; conv => whnf))
    refine ⟨fun h3 => ?_, fun h3 => ?_⟩
    · have hc : (p l[l.length - 1 - k] || (pastFold p (l.drop (l.length - k))).any (isId2 l[l.length - 1 - k].id)) = true := by rw [h3]; rfl
      conv => whnf
      repeat (first | (refine Conf.mk (by kernel_rfl) ?_; conv => whnf) | (refine SeqOk.go ?_; conv => whnf))
      refine AtIdx.ofMap' _ hsub hlt rfl ?_
      conv => whnf
      repeat (first | (refine Conf.mk (by kernel_rfl) ?_; conv => whnf) | (refine SeqOk.go ?_; conv => whnf))
      refine .eff [0] _ _ _ _ 1 (join_ok _ _ (by omega) (by have := h6 _ (List.getElem_mem hlt); omega)) rfl rfl rfl rfl rfl ?_
      conv => whnf
      repeat (first | (refine Conf.mk (by kernel_rfl) ?_; conv => whnf) | (refine SeqOk.go ?_; conv => whnf))
      refine Into.mono (Into.to [1] [(6, dInt ((l.length : Int) - 1 - (k + 1 : Nat))), (0, .dat (.list (l.map Entry'.enc))), (1, .fn (.func cl) [] [.dat (.ptr ds)]), (5, .row 0)] [(0, .rows 25 2 ((pastFold p (l.drop (l.length - (k + 1)))).map Id.enc) true)] ⟨.same (congrArg dInt (by rw [wrap_id (by omega) (by omega)]; omega)), .same rfl, .same rfl, .same rfl, trivial⟩ ⟨⟨rfl, rfl, rfl, ?_⟩, trivial⟩ rfl rfl) fun s' h => ⟨m - 1, by omega, k + 1, by omega, h⟩
      rw [hst, if_pos hc]
    · conv => whnf
      repeat (first | (refine Conf.mk (by kernel_rfl) ?_; conv => whnf) | (refine SeqOk.go ?_; conv => whnf))
      refine AtIdx.ofMap' _ hsub hlt rfl ?_
      conv => whnf
      repeat (first | (refine Conf.mk (by kernel_rfl) ?_; conv => whnf) | (refine SeqOk.go ?_; conv => whnf))
      refine .look _ _ (containsId_ok l[l.length - 1 - k].id (pastFold p (l.drop (l.length - k))) (by omega)) rfl rfl ?_
      conv => whnf
      repeat (first | (refine Conf.mk (by kernel_rfl) ?_; conv => whnf) | (refine SeqOk.go ?_; conv => whnf))
      refine ⟨fun h4 => ?_, fun h4 => ?_⟩
      · have hc : (p l[l.length - 1 - k] || (pastFold p (l.drop (l.length - k))).any (isId2 l[l.length - 1 - k].id)) = true := by rw [h3, h4]; rfl
        conv => whnf
        repeat (first | (refine Conf.mk (by kernel_rfl) ?_; conv => whnf) | (refine SeqOk.go ?_; conv => whnf))
        refine AtIdx.ofMap' _ hsub hlt rfl ?_
        conv => whnf
        repeat (first | (refine Conf.mk (by kernel_rfl) ?_; conv => whnf) | (refine SeqOk.go ?_; conv => whnf))
        refine .eff [0] _ _ _ _ 1 (join_ok _ _ (by omega) (by have := h6 _ (List.getElem_mem hlt); omega)) rfl rfl rfl rfl rfl ?_
        conv => whnf
        repeat (first | (refine Conf.mk (by kernel_rfl) ?_; conv => whnf) | (refine SeqOk.go ?_; conv => whnf))
        refine Into.mono (Into.to [1] [(6, dInt ((l.length : Int) - 1 - (k + 1 : Nat))), (0, .dat (.list (l.map Entry'.enc))), (1, .fn (.func cl) [] [.dat (.ptr ds)]), (5, .row 0)] [(0, .rows 25 2 ((pastFold p (l.drop (l.length - (k + 1)))).map Id.enc) true)] ⟨.same (congrArg dInt (by rw [wrap_id (by omega) (by omega)]; omega)), .same rfl, .same rfl, .same rfl, trivial⟩ ⟨⟨rfl, rfl, rfl, ?_⟩, trivial⟩ rfl rfl) fun s' h => ⟨m - 1, by omega, k + 1, by omega, h⟩
        rw [hst, if_pos hc]
      · conv => whnf
        repeat (first | (refine Conf.mk (by kernel_rfl) ?_; conv => whnf) | (refine SeqOk.go ?_; conv => whnf))
        refine Into.mono (Into.to [0] [(6, dInt ((l.length : Int) - 1 - (k + 1 : Nat))), (0, .dat (.list (l.map Entry'.enc))), (1, .fn (.func cl) [] [.dat (.ptr ds)]), (5, .row 0)] [(0, .rows 25 2 ((pastFold p (l.drop (l.length - (k + 1)))).map Id.enc) true)] ⟨.same (congrArg dInt (by rw [wrap_id (by omega) (by omega)]; omega)), .same rfl, .same rfl, .same rfl, trivial⟩ ⟨⟨rfl, rfl, rfl, ?_⟩, trivial⟩ rfl rfl) fun s' h => ⟨m - 1, by omega, k + 1, by omega, h⟩
        rw [hst, if_neg (by rw [h3, h4]; simp)]
  · have hk' : k = l.length := by simp at h; omega
    subst hk'
    conv => whnf
    repeat (first | (refine Conf.mk (by kernel_rfl) ?_; conv => whnf) | (refine SeqOk.go ?_; conv => whnf))
    subst hQ1
    conv => whnf
    have hfl := pastFold_len p h6
    rw [show l.length - l.length = 0 by omega, List.drop_zero]
    refine .eff [0] _ _ _ _ 0 (sortFunc_ok _ (by omega)) rfl rfl rfl rfl rfl ?_
    conv => whnf
    repeat (first | (refine Conf.mk (by kernel_rfl) ?_; conv => whnf) | (refine SeqOk.go ?_; conv => whnf))
    exact Ret.to rfl
set_option maxHeartbeats 0 in
theorem idsOf_ok {cl : Nat} {d1 d2 : List D} {p : Entry' → Bool} (l : List Entry') (hl : l.length ≤ 40) (hcl : ∀ e ∈ l, PCall Tryz.prog cl [e.arg, .dat (.ptr d1), .dat (.ptr d2)] (dBool (p e))) :
    PCall Tryz.prog 98 [.dat (.list (l.map Entry'.enc)), .fn (.func cl) [] [.dat (.ptr d1), .dat (.ptr d2)]] (.dat (.list ((sortIds ((l.filter p).map (·.id))).map Id.enc))) := by
  refine pcall_intro tab_all tab_mixed Tryz.func98 (by kernel_rfl) Tryz.ntmps98 rfl ?_
  conv => whnf
  refine LoopOk.hide fun Q1 hQ1 => ?_
  refine LoopOk.mk (fun m s => ∃ k, k + m = l.length ∧ s = ⟨[(10, dInt k), (9, dInt (l.map Entry'.enc).length), (8, .dat (.list (l.map Entry'.enc))), (1, .fn (.func cl) [] [.dat (.ptr d1), .dat (.ptr d2)]), (5, .row 0)], 1, [(0, .rows 25 2 ((((l.take k).filter p).map (·.id)).map Id.enc) true)]⟩) l.length ((Into.row 5 25 2 rfl).trans fun s' hs' => by
    subst hs'
    exact Into.mono (Into.to [0] [(10, dInt (0 : Nat)), (9, dInt (l.map Entry'.enc).length), (8, .dat (.list (l.map Entry'.enc))), (1, .fn (.func cl) [] [.dat (.ptr d1), .dat (.ptr d2)]), (5, .row 0)] [(0, .rows 25 2 ((((l.take 0).filter p).map (·.id)).map Id.enc) true)] (by repeat (first | exact trivial | refine ⟨.same (congrArg dInt (wrap_up (by omega))), ?_⟩ | refine ⟨.same rfl, ?_⟩ | refine ⟨.any _, ?_⟩)) ⟨⟨rfl, rfl, rfl, rfl⟩, trivial⟩ rfl rfl) fun s' h => ⟨0, by omega, h⟩) ?_
  rintro m s ⟨k, hk, rfl⟩
  conv => whnf
  repeat (first | (refine Conf.mk (by kernel_rfl) ?_; conv => whnf) | (refine SeqOk.go ?_; conv => whnf))
  refine ⟨fun h => ?_, fun h => ?_⟩
  · have hk' : k < l.length := by simpa using h
    have hst := filter_snoc p (List.getElem?_eq_getElem hk')
    have hfl := List.length_filter_le p (l.take k)
    rw [List.length_take] at hfl
    conv => whnf
    repeat (first | (refine Conf.mk (by kernel_rfl) ?_; conv => whnf) | (refine SeqOk.go ?_; conv => whnf))
    refine AtIdx.ofMap hk' rfl ?_
    conv => whnf
    repeat (first | (refine Conf.mk (by kernel_rfl) ?_; conv => whnf) | (refine SeqOk.go ?_; conv => whnf))
    refine .look _ _ (hcl _ (List.getElem_mem hk')) rfl rfl ?_
    conv => whnf
    repeat (first | (refine Conf.mk (by kernel_rfl) ?_; conv => whnf) | (refine SeqOk.go ?_; conv => whnf))
    refine ⟨fun h3 => ?_, fun h3 => ?_⟩
    · rw [if_pos h3] at hst
      conv => whnf
      repeat (first | (refine Conf.mk (by kernel_rfl) ?_; conv => whnf) | (refine SeqOk.go ?_; conv => whnf))
      refine ⟨by simp [Id.enc], by simp; omega, ?_⟩
      conv => whnf
      repeat (first | (refine Conf.mk (by kernel_rfl) ?_; conv => whnf) | (refine SeqOk.go ?_; conv => whnf))
      refine Into.mono (Into.to [3] [(10, dInt (k + 1 : Nat)), (9, dInt (l.map Entry'.enc).length), (8, .dat (.list (l.map Entry'.enc))), (1, .fn (.func cl) [] [.dat (.ptr d1), .dat (.ptr d2)]), (5, .row 0)] [(0, .rows 25 2 ((((l.take (k + 1)).filter p).map (·.id)).map Id.enc) true)] (by repeat (first | exact trivial | refine ⟨.same (congrArg dInt (wrap_up (by omega))), ?_⟩ | refine ⟨.same rfl, ?_⟩ | refine ⟨.any _, ?_⟩)) ⟨⟨rfl, rfl, rfl, ?_⟩, trivial⟩ rfl rfl) fun s' h => ⟨m - 1, by omega, k + 1, by omega, h⟩
      rw [hst, List.map_append, List.map_append]
      rfl
    · rw [if_neg (by simp [h3]), List.append_nil] at hst
      conv => whnf
      repeat (first | (refine Conf.mk (by kernel_rfl) ?_; conv => whnf) | (refine SeqOk.go ?_; conv => whnf))
      refine Into.mono (Into.to [0] [(10, dInt (k + 1 : Nat)), (9, dInt (l.map Entry'.enc).length), (8, .dat (.list (l.map Entry'.enc))), (1, .fn (.func cl) [] [.dat (.ptr d1), .dat (.ptr d2)]), (5, .row 0)] [(0, .rows 25 2 ((((l.take (k + 1)).filter p).map (·.id)).map Id.enc) true)] (by repeat (first | exact trivial | refine ⟨.same (congrArg dInt (wrap_up (by omega))), ?_⟩ | refine ⟨.same rfl, ?_⟩ | refine ⟨.any _, ?_⟩)) ⟨⟨rfl, rfl, rfl, ?_⟩, trivial⟩ rfl rfl) fun s' h => ⟨m - 1, by omega, k + 1, by omega, h⟩
      rw [hst]
  · have hk' : l.length ≤ k := by simpa using h
    rw [List.take_of_length_le hk']
    conv => whnf
    repeat (first | (refine Conf.mk (by kernel_rfl) ?_; conv => whnf) | (refine SeqOk.go ?_; conv => whnf))
    subst hQ1
    conv => whnf
    have hfl := List.length_filter_le p l
    refine .eff [0] _ _ _ _ 0 (sortFunc_ok _ (by rw [List.length_map]; omega)) rfl rfl rfl rfl rfl ?_
    conv => whnf
    repeat (first | (refine Conf.mk (by kernel_rfl) ?_; conv => whnf) | (refine SeqOk.go ?_; conv => whnf))
    exact Ret.to rfl
theorem past1_ok (x : Id) (e : Entry') : PCall Tryz.prog 102 [e.arg, .dat (.ptr x.enc)] (dBool (isThe x e)) := by
  refine pcall_intro tab_all tab_mixed Tryz.func102 (by kernel_rfl) Tryz.ntmps102 rfl ?_
  conv => whnf
  exact Ret.bool rfl
theorem heads1_ok (c : Int) (e : Entry') : PCall Tryz.prog 96 [e.arg, .dat (.ptr [.int .i64 c])] (dBool (bothOf e.colors c)) := by
  refine pcall_intro tab_all tab_mixed Tryz.func96 (by kernel_rfl) Tryz.ntmps96 rfl ?_
  conv => whnf
  exact Ret.bool rfl
theorem heads2_ok (c : Int) (past : List Id) (hp : past.length ≤ 1000) (e : Entry') : PCall Tryz.prog 99 [e.arg, .dat (.ptr [.fn (.func 96) [] [.ptr [.int .i64 c]]]), .dat (.ptr [.list (past.map Id.enc)])] (dBool (bothOf e.colors c && !past.any (isId2 e.id))) := by
  refine pcall_intro tab_all tab_mixed Tryz.func99 (by kernel_rfl) Tryz.ntmps99 rfl ?_
  conv => whnf
  refine .look _ _ (heads1_ok c e) rfl rfl ?_
  conv => whnf
  repeat (first | (refine Conf.mk (by kernel_rfl) ?_; conv => whnf) | (refine SeqOk.go ?_; conv => whnf))
  refine ⟨fun h3 => ?_, fun h3 => ?_⟩
  · conv => whnf
    repeat (first | (refine Conf.mk (by kernel_rfl) ?_; conv => whnf) | (refine SeqOk.go ?_; conv => whnf))
    refine .look _ _ (containsId_ok e.id past (by omega)) rfl rfl ?_
    conv => whnf
    repeat (first | (refine Conf.mk (by kernel_rfl) ?_; conv => whnf) | (refine SeqOk.go ?_; conv => whnf))
    exact Ret.bool (by rw [h3, Bool.true_and])
  · conv => whnf
    repeat (first | (refine Conf.mk (by kernel_rfl) ?_; conv => whnf) | (refine SeqOk.go ?_; conv => whnf))
    exact Ret.bool (by rw [h3, Bool.false_and])
end Go.Proofs.YtlioojekjnigiafGreat.AM
/- Logs: the calls of package dag, and what must be in any case. -/
namespace Go.Proofs.YtlioojekjnigiafGreat.AM
set_option linter.unusedVariables false
set_option linter.unusedSimpArgs false

theorem BoolCase.yes {b : Bool} {t f : Prop} (h : b = true) (k : t) : BoolCase b t f := ⟨fun _ => k, fun h' => (by rw [h] at h'; cases h')⟩
theorem BoolCase.no {b : Bool} {t f : Prop} (h : b = false) (k : f) : BoolCase b t f := ⟨fun h' => (by rw [h] at h'; cases h'), fun _ => k⟩
/-- A bool that is known. -/
theorem PCall.kb {P : Program} {f : FuncId} {args : List AVal} {b : Bool} (h : PCall P f args (dBool b)) : PCall P f args (.kb b) := by
  refine ⟨h.1, fun r A w vs hr hc hs hv => (h.2 r A w vs hr hc hs hv).mono fun e w' he => ?_⟩
  obtain ⟨v, r', A', x, H', n', rfl, ⟨rfl, rfl, rfl⟩, k1, k2, k3, k4, k5, k6, k7⟩ := he
  refine ⟨v, r', A', .kb b, [], 0, rfl, ⟨rfl, rfl, rfl⟩, k1, k2, k3, k4, ?_, k6, k7⟩
  cases k5 with | dat hh => cases hh; exact .kb b
def LA (l : List Entry') : AVal := .dat (.list (l.map Entry'.enc))
def IA (l : List Id) : AVal := .dat (.list (l.map Id.enc))
def pastErr (l : List Entry') (x : Id) : Int := if logErr l = 0 then (if l.any (isThe x) = true then 0 else 5) else logErr l
def pastAns (l : List Entry') (x : Id) : List Id := if pastErr l x = 0 then pastOfId l x else []
theorem pastErr_ok {l : List Entry'} {x : Id} (h : pastErr l x = 0) : Right l ∧ ∃ e ∈ l, e.id = x := by
  unfold pastErr at h
  split at h
  · rename_i h1
    split at h
    · rename_i h2; exact ⟨right_iff.1 h1, any_isThe.1 h2⟩
    · simp at h
  · rename_i h1; exact absurd h h1
set_option maxHeartbeats 0 in
theorem past_ok (l : List Entry') (hl : LogOk l) (x : Id) : PCall Tryz.prog 26 [.dat (.list (l.map Entry'.enc)), x.arg] (.tup [.dat (.list ((pastAns l x).map Id.enc)), dInt (pastErr l x)]) := by
  refine pcall_intro tab_all tab_mixed Tryz.func26 (by kernel_rfl) Tryz.ntmps26 rfl ?_
  conv => whnf
  refine .data _ _ (dagCheck_ok l hl) rfl ?_
  conv => whnf
  repeat (first | (refine Conf.mk (by kernel_rfl) ?_; conv => whnf) | (refine SeqOk.go ?_; conv => whnf))
  refine ⟨fun h1 => ?_, fun h1 => ?_⟩
  · have h1 : logErr l ≠ 0 := by simpa using h1
    have he : pastErr l x = logErr l := by unfold pastErr; rw [if_neg h1]
    have ha : pastAns l x = [] := by unfold pastAns; rw [he, if_neg h1]
    conv => whnf
    repeat (first | (refine Conf.mk (by kernel_rfl) ?_; conv => whnf) | (refine SeqOk.go ?_; conv => whnf))
    exact Ret.to (by rw [he, ha]; rfl)
  · have h1 : logErr l = 0 := by simpa using h1
    have hr := right_iff.1 h1
    conv => whnf
    repeat (first | (refine Conf.mk (by kernel_rfl) ?_; conv => whnf) | (refine SeqOk.go ?_; conv => whnf))
    refine .look _ _ (has_ok x l hl.len) rfl rfl ?_
    conv => whnf
    repeat (first | (refine Conf.mk (by kernel_rfl) ?_; conv => whnf) | (refine SeqOk.go ?_; conv => whnf))
    refine ⟨fun h2 => ?_, fun h2 => ?_⟩
    · have h2 : l.any (isThe x) = false := (Bool.not_eq_true' _).mp h2
      have he : pastErr l x = 5 := by unfold pastErr; rw [if_pos h1, h2]; rfl
      have ha : pastAns l x = [] := by unfold pastAns; rw [he]; rfl
      conv => whnf
      repeat (first | (refine Conf.mk (by kernel_rfl) ?_; conv => whnf) | (refine SeqOk.go ?_; conv => whnf))
      exact Ret.to (by rw [he, ha]; rfl)
    · have h2 : l.any (isThe x) = true := (Bool.not_eq_false' (b := l.any (isThe x))).mp h2
      have he : pastErr l x = 0 := by unfold pastErr; rw [if_pos h1, if_pos h2]
      have ha : pastAns l x = pastOfId l x := by unfold pastAns; rw [he]; rfl
      conv => whnf
      repeat (first | (refine Conf.mk (by kernel_rfl) ?_; conv => whnf) | (refine SeqOk.go ?_; conv => whnf))
      refine .keep [0] _ _ (pastOf_ok l hr.len (fun e he => hr.six he) fun e _ => past1_ok x e) rfl rfl rfl rfl ?_
      conv => whnf
      repeat (first | (refine Conf.mk (by kernel_rfl) ?_; conv => whnf) | (refine SeqOk.go ?_; conv => whnf))
      exact Ret.to (by rw [he, ha]; rfl)
def colErr (l : List Entry') (c : Int) : Int := if logErr l = 0 then (if c < 1 ∨ 7 < c then 3 else 0) else logErr l
def headsAns (l : List Entry') (c : Int) : List Id := if colErr l c = 0 then headsOf c l else []
theorem colErr_ok {l : List Entry'} {c : Int} (h : colErr l c = 0) : Right l ∧ 1 ≤ c ∧ c ≤ 7 := by
  unfold colErr at h
  split at h
  · rename_i h1
    split at h
    · simp at h
    · rename_i h2; exact ⟨right_iff.1 h1, by omega⟩
  · rename_i h1; exact absurd h h1
set_option maxHeartbeats 0 in
theorem heads_ok (l : List Entry') (hl : LogOk l) (c : Int) : PCall Tryz.prog 25 [.dat (.list (l.map Entry'.enc)), dInt c] (.tup [.dat (.list ((headsAns l c).map Id.enc)), dInt (colErr l c)]) := by
  refine pcall_intro tab_all tab_mixed Tryz.func25 (by kernel_rfl) Tryz.ntmps25 rfl ?_
  conv => whnf
  refine .data _ _ (dagCheck_ok l hl) rfl ?_
  conv => whnf
  repeat (first | (refine Conf.mk (by kernel_rfl) ?_; conv => whnf) | (refine SeqOk.go ?_; conv => whnf))
  refine ⟨fun h1 => ?_, fun h1 => ?_⟩
  · have h1 : logErr l ≠ 0 := by simpa using h1
    have he : colErr l c = logErr l := by unfold colErr; rw [if_neg h1]
    have ha : headsAns l c = [] := by unfold headsAns; rw [he, if_neg h1]
    conv => whnf
    repeat (first | (refine Conf.mk (by kernel_rfl) ?_; conv => whnf) | (refine SeqOk.go ?_; conv => whnf))
    exact Ret.to (by rw [he, ha]; rfl)
  · have h1 : logErr l = 0 := by simpa using h1
    have hr := right_iff.1 h1
    conv => whnf
    repeat (first | (refine Conf.mk (by kernel_rfl) ?_; conv => whnf) | (refine SeqOk.go ?_; conv => whnf))
    refine ⟨fun h2 => ?_, fun h2 => ?_⟩
    · have hc : c < 1 ∨ 7 < c := .inl (by simpa using h2)
      have he : colErr l c = 3 := by unfold colErr; rw [if_pos h1, if_pos hc]
      have ha : headsAns l c = [] := by unfold headsAns; rw [he]; rfl
      conv => whnf
      repeat (first | (refine Conf.mk (by kernel_rfl) ?_; conv => whnf) | (refine SeqOk.go ?_; conv => whnf))
      exact Ret.to (by rw [he, ha]; rfl)
    · have h2 : ¬ c < 1 := by simpa using h2
      conv => whnf
      repeat (first | (refine Conf.mk (by kernel_rfl) ?_; conv => whnf) | (refine SeqOk.go ?_; conv => whnf))
      refine ⟨fun h3 => ?_, fun h3 => ?_⟩
      · have hc : c < 1 ∨ 7 < c := .inr (by simpa using h3)
        have he : colErr l c = 3 := by unfold colErr; rw [if_pos h1, if_pos hc]
        have ha : headsAns l c = [] := by unfold headsAns; rw [he]; rfl
        conv => whnf
        repeat (first | (refine Conf.mk (by kernel_rfl) ?_; conv => whnf) | (refine SeqOk.go ?_; conv => whnf))
        exact Ret.to (by rw [he, ha]; rfl)
      · have h3 : ¬ 7 < c := by simpa using h3
        have he : colErr l c = 0 := by unfold colErr; rw [if_pos h1, if_neg (by omega)]
        have ha : headsAns l c = headsOf c l := by unfold headsAns; rw [he]; rfl
        conv => whnf
        repeat (first | (refine Conf.mk (by kernel_rfl) ?_; conv => whnf) | (refine SeqOk.go ?_; conv => whnf))
        refine .keep [0, 1] _ _ (pastOf_ok l hr.len (fun e he => hr.six he) fun e _ => heads1_ok c e) rfl rfl rfl rfl ?_
        conv => whnf
        repeat (first | (refine Conf.mk (by kernel_rfl) ?_; conv => whnf) | (refine SeqOk.go ?_; conv => whnf))
        have hfl := pastFold_len (fun e => bothOf e.colors c) (l := l) fun e he => hr.six he
        have hll := hr.len
        refine .keep [2] _ _ (idsOf_ok l hr.len fun e _ => heads2_ok c (sortIds (pastFold (fun e => bothOf e.colors c) l)) (by rw [sortIds_len]; omega) e) rfl rfl rfl rfl ?_
        conv => whnf
        repeat (first | (refine Conf.mk (by kernel_rfl) ?_; conv => whnf) | (refine SeqOk.go ?_; conv => whnf))
        refine Ret.to ?_
        rw [he, ha]
        have : (fun e : Entry' => bothOf e.colors c && !(sortIds (pastFold (fun e => bothOf e.colors c) l)).any (isId2 e.id)) = fun e => bothOf e.colors c && !(pastFold (fun e => bothOf e.colors c) l).any (isId2 e.id) := funext fun e => by
          congr 2
          rw [Bool.eq_iff_iff, any_isId2, any_isId2, mem_sortIds]
        rw [this]
        rfl
def cntv (r : Int) (l : List Entry') : Int := if logErr l = 0 then (cnt r l : Int) else 0
def countA (l : List Entry') : AVal := vecA (cntv 0 l) (cntv 1 l)
set_option maxHeartbeats 0 in
theorem Count_ok (l : List Entry') (hl : LogOk l) : PCall Tryz.prog 57 [.dat (.list (l.map Entry'.enc))] (.tup [countA l, dInt (logErr l)]) := by
  refine pcall_intro tab_all tab_mixed Tryz.func57 (by kernel_rfl) Tryz.ntmps57 rfl ?_
  conv => whnf
  refine .data _ _ (dagCheck_ok l hl) rfl ?_
  conv => whnf
  repeat (first | (refine Conf.mk (by kernel_rfl) ?_; conv => whnf) | (refine SeqOk.go ?_; conv => whnf))
  refine ⟨fun h1 => ?_, fun h1 => ?_⟩
  · have h1 : logErr l ≠ 0 := by simpa using h1
    conv => whnf
    repeat (first | (refine Conf.mk (by kernel_rfl) ?_; conv => whnf) | (refine SeqOk.go ?_; conv => whnf))
    exact Ret.to (by unfold countA cntv; rw [if_neg h1, if_neg h1]; rfl)
  · have h1 : logErr l = 0 := by simpa using h1
    have hr := right_iff.1 h1
    conv => whnf
    repeat (first | (refine Conf.mk (by kernel_rfl) ?_; conv => whnf) | (refine SeqOk.go ?_; conv => whnf))
    refine .data _ _ (count_ok l hl.len hr.regs) rfl ?_
    conv => whnf
    repeat (first | (refine Conf.mk (by kernel_rfl) ?_; conv => whnf) | (refine SeqOk.go ?_; conv => whnf))
    exact Ret.to (by unfold countA cntv; rw [if_pos h1, if_pos h1, h1]; rfl)
theorem id_ok (r n : Int) : PCall Tryz.prog 27 [dInt r, dInt n] (Id.arg ⟨r, n⟩) := by
  refine pcall_intro tab_all tab_mixed Tryz.func27 (by kernel_rfl) Tryz.ntmps27 rfl ?_
  conv => whnf
  exact Ret.to rfl
def someLog : List Entry' := [⟨⟨0, 1⟩, 1, ⟨#[112, 117, 116, 32, 97, 32, 120]⟩, []⟩, ⟨⟨1, 1⟩, 3, ⟨#[112, 117, 116, 32, 97, 32, 121]⟩, []⟩, ⟨⟨0, 2⟩, 3, ⟨#[100, 114, 111, 112, 32, 97]⟩, [⟨0, 1⟩]⟩, ⟨⟨1, 2⟩, 2, ⟨#[112, 117, 116, 32, 98, 32, 122]⟩, [⟨0, 2⟩, ⟨1, 1⟩]⟩]
set_option maxHeartbeats 0 in
theorem entries_ok : PCall Tryz.prog 35 [] (.dat (.list (someLog.map Entry'.enc))) := by
  refine pcall_intro tab_all tab_mixed Tryz.func35 (by kernel_rfl) Tryz.ntmps35 rfl ?_
  conv => whnf
  refine .data _ _ (id_ok _ _) rfl ?_
  conv => whnf
  repeat (first | (refine Conf.mk (by kernel_rfl) ?_; conv => whnf) | (refine SeqOk.go ?_; conv => whnf))
  refine .data _ _ (id_ok _ _) rfl ?_
  conv => whnf
  repeat (first | (refine Conf.mk (by kernel_rfl) ?_; conv => whnf) | (refine SeqOk.go ?_; conv => whnf))
  refine .data _ _ (id_ok _ _) rfl ?_
  conv => whnf
  repeat (first | (refine Conf.mk (by kernel_rfl) ?_; conv => whnf) | (refine SeqOk.go ?_; conv => whnf))
  refine .data _ _ (id_ok _ _) rfl ?_
  conv => whnf
  repeat (first | (refine Conf.mk (by kernel_rfl) ?_; conv => whnf) | (refine SeqOk.go ?_; conv => whnf))
  refine .data _ _ (id_ok _ _) rfl ?_
  conv => whnf
  repeat (first | (refine Conf.mk (by kernel_rfl) ?_; conv => whnf) | (refine SeqOk.go ?_; conv => whnf))
  refine .data _ _ (id_ok _ _) rfl ?_
  conv => whnf
  repeat (first | (refine Conf.mk (by kernel_rfl) ?_; conv => whnf) | (refine SeqOk.go ?_; conv => whnf))
  refine .data _ _ (id_ok _ _) rfl ?_
  conv => whnf
  repeat (first | (refine Conf.mk (by kernel_rfl) ?_; conv => whnf) | (refine SeqOk.go ?_; conv => whnf))
  exact Ret.to rfl
theorem someLog_ok : LogOk someLog := ⟨by decide, by decide⟩
theorem someLog_right : logErr someLog = 0 := by kernel_rfl
theorem same_ok (a : List Id) (h : a.length ≤ 140737488355328) : PCall Tryz.prog 37 [.dat (.list (a.map Id.enc)), .dat (.list (a.map Id.enc))] (.kb true) := by
  have := (sameIds_ok a a h).kb
  rwa [sameIds_iff.2 rfl] at this
set_option maxHeartbeats 0 in
theorem dagBegun_ok : PCall Tryz.prog 8 [] (dBool true) := by
  have p1 : pastErr someLog ⟨1, 2⟩ = 0 := by kernel_rfl
  have p2 : pastAns someLog ⟨1, 2⟩ = [⟨0, 1⟩, ⟨0, 2⟩, ⟨1, 1⟩] := by kernel_rfl
  have q1 : colErr someLog 1 = 0 := by kernel_rfl
  have q2 : headsAns someLog 1 = [⟨0, 2⟩, ⟨1, 1⟩] := by kernel_rfl
  have r1 : countA someLog = vecA 2 2 := by kernel_rfl
  have hp := past_ok someLog someLog_ok ⟨1, 2⟩
  have hh := heads_ok someLog someLog_ok 1
  have hc := Count_ok someLog someLog_ok
  have hk := dagCheck_ok someLog someLog_ok
  rw [p1, p2] at hp
  rw [q1, q2] at hh
  rw [r1, someLog_right] at hc
  rw [someLog_right] at hk
  refine pcall_intro tab_all tab_mixed Tryz.func8 (by kernel_rfl) Tryz.ntmps8 rfl ?_
  conv => whnf
  refine .data _ _ entries_ok rfl ?_
  conv => whnf
  repeat (first | (refine Conf.mk (by kernel_rfl) ?_; conv => whnf) | (refine SeqOk.go ?_; conv => whnf))
  refine .data _ _ (id_ok _ _) rfl ?_
  conv => whnf
  repeat (first | (refine Conf.mk (by kernel_rfl) ?_; conv => whnf) | (refine SeqOk.go ?_; conv => whnf))
  refine .data _ _ hp rfl ?_
  conv => whnf
  repeat (first | (refine Conf.mk (by kernel_rfl) ?_; conv => whnf) | (refine SeqOk.go ?_; conv => whnf))
  refine .data _ _ entries_ok rfl ?_
  conv => whnf
  repeat (first | (refine Conf.mk (by kernel_rfl) ?_; conv => whnf) | (refine SeqOk.go ?_; conv => whnf))
  refine .data _ _ hh rfl ?_
  conv => whnf
  repeat (first | (refine Conf.mk (by kernel_rfl) ?_; conv => whnf) | (refine SeqOk.go ?_; conv => whnf))
  refine .data _ _ entries_ok rfl ?_
  conv => whnf
  repeat (first | (refine Conf.mk (by kernel_rfl) ?_; conv => whnf) | (refine SeqOk.go ?_; conv => whnf))
  refine .data _ _ hc rfl ?_
  conv => whnf
  repeat (first | (refine Conf.mk (by kernel_rfl) ?_; conv => whnf) | (refine SeqOk.go ?_; conv => whnf))
  refine .data _ _ entries_ok rfl ?_
  conv => whnf
  repeat (first | (refine Conf.mk (by kernel_rfl) ?_; conv => whnf) | (refine SeqOk.go ?_; conv => whnf))
  refine .data _ _ hk rfl ?_
  conv => whnf
  repeat (first | (refine Conf.mk (by kernel_rfl) ?_; conv => whnf) | (refine SeqOk.go ?_; conv => whnf))
  refine BoolCase.yes rfl ?_
  conv => whnf
  repeat (first | (refine Conf.mk (by kernel_rfl) ?_; conv => whnf) | (refine SeqOk.go ?_; conv => whnf))
  refine BoolCase.yes rfl ?_
  conv => whnf
  repeat (first | (refine Conf.mk (by kernel_rfl) ?_; conv => whnf) | (refine SeqOk.go ?_; conv => whnf))
  refine BoolCase.yes rfl ?_
  conv => whnf
  repeat (first | (refine Conf.mk (by kernel_rfl) ?_; conv => whnf) | (refine SeqOk.go ?_; conv => whnf))
  refine BoolCase.yes rfl ?_
  conv => whnf
  repeat (first | (refine Conf.mk (by kernel_rfl) ?_; conv => whnf) | (refine SeqOk.go ?_; conv => whnf))
  refine .data _ _ (id_ok _ _) rfl ?_
  conv => whnf
  repeat (first | (refine Conf.mk (by kernel_rfl) ?_; conv => whnf) | (refine SeqOk.go ?_; conv => whnf))
  refine .data _ _ (id_ok _ _) rfl ?_
  conv => whnf
  repeat (first | (refine Conf.mk (by kernel_rfl) ?_; conv => whnf) | (refine SeqOk.go ?_; conv => whnf))
  refine .data _ _ (id_ok _ _) rfl ?_
  conv => whnf
  repeat (first | (refine Conf.mk (by kernel_rfl) ?_; conv => whnf) | (refine SeqOk.go ?_; conv => whnf))
  refine .look _ _ (same_ok [⟨0, 1⟩, ⟨0, 2⟩, ⟨1, 1⟩] (by decide)) rfl rfl ?_
  conv => whnf
  repeat (first | (refine Conf.mk (by kernel_rfl) ?_; conv => whnf) | (refine SeqOk.go ?_; conv => whnf))
  refine .data _ _ (id_ok _ _) rfl ?_
  conv => whnf
  repeat (first | (refine Conf.mk (by kernel_rfl) ?_; conv => whnf) | (refine SeqOk.go ?_; conv => whnf))
  refine .data _ _ (id_ok _ _) rfl ?_
  conv => whnf
  repeat (first | (refine Conf.mk (by kernel_rfl) ?_; conv => whnf) | (refine SeqOk.go ?_; conv => whnf))
  refine .look _ _ (same_ok [⟨0, 2⟩, ⟨1, 1⟩] (by decide)) rfl rfl ?_
  conv => whnf
  repeat (first | (refine Conf.mk (by kernel_rfl) ?_; conv => whnf) | (refine SeqOk.go ?_; conv => whnf))
  exact Ret.bool rfl
theorem idsAre_ok (l want : List Id) (e w : Int) (hl : l.length ≤ 140737488355328) : PCall Tryz.prog 24 [.dat (.list (l.map Id.enc)), dInt e, dInt w, .dat (.list (want.map Id.enc))] (dBool (e == w && sameIds l (if w = 0 then want else []))) := by
  refine pcall_intro tab_all tab_mixed Tryz.func24 (by kernel_rfl) Tryz.ntmps24 rfl ?_
  conv => whnf
  refine ⟨fun h1 => ?_, fun h1 => ?_⟩
  · have h1 : w ≠ 0 := by simpa using h1
    conv => whnf
    repeat (first | (refine Conf.mk (by kernel_rfl) ?_; conv => whnf) | (refine SeqOk.go ?_; conv => whnf))
    refine ⟨fun h2 => ?_, fun h2 => ?_⟩
    · conv => whnf
      repeat (first | (refine Conf.mk (by kernel_rfl) ?_; conv => whnf) | (refine SeqOk.go ?_; conv => whnf))
      refine .look _ _ (sameIds_ok l [] hl) rfl rfl ?_
      conv => whnf
      repeat (first | (refine Conf.mk (by kernel_rfl) ?_; conv => whnf) | (refine SeqOk.go ?_; conv => whnf))
      exact Ret.bool (by rw [h2, if_neg h1, Bool.true_and])
    · conv => whnf
      repeat (first | (refine Conf.mk (by kernel_rfl) ?_; conv => whnf) | (refine SeqOk.go ?_; conv => whnf))
      exact Ret.bool (by rw [h2]; rfl)
  · have h1 : w = 0 := by simpa using h1
    conv => whnf
    repeat (first | (refine Conf.mk (by kernel_rfl) ?_; conv => whnf) | (refine SeqOk.go ?_; conv => whnf))
    refine ⟨fun h2 => ?_, fun h2 => ?_⟩
    · conv => whnf
      repeat (first | (refine Conf.mk (by kernel_rfl) ?_; conv => whnf) | (refine SeqOk.go ?_; conv => whnf))
      refine .look _ _ (sameIds_ok l want hl) rfl rfl ?_
      conv => whnf
      repeat (first | (refine Conf.mk (by kernel_rfl) ?_; conv => whnf) | (refine SeqOk.go ?_; conv => whnf))
      exact Ret.bool (by rw [h2, if_pos h1, Bool.true_and])
    · conv => whnf
      repeat (first | (refine Conf.mk (by kernel_rfl) ?_; conv => whnf) | (refine SeqOk.go ?_; conv => whnf))
      exact Ret.bool (by rw [h2]; rfl)
end Go.Proofs.YtlioojekjnigiafGreat.AM
/- What came in, opened: ids, entries, logs. -/
namespace Go.Proofs.YtlioojekjnigiafGreat
theorem ownT : ownKnob Tryz.prog.godebug = none := by kernel_rfl
theorem laidT : laidOutB Tryz.prog = true := by kernel_rfl
namespace AM
set_option linter.unusedVariables false
set_option linter.unusedSimpArgs false

theorem allWT_cons {tab : Tab} {n t : Nat} {ts : List Nat} {dss : List (List D)} (h : AllWT tab n (t :: ts) dss) : ∃ d ds, dss = d :: ds ∧ WT tab n t d ∧ AllWT tab n ts ds := by
  cases dss with
  | nil => exact h.elim
  | cons d ds => exact ⟨d, ds, rfl, h.1, h.2⟩
theorem allWT_nil {tab : Tab} {n : Nat} {dss : List (List D)} (h : AllWT tab n [] dss) : dss = [] := by
  cases dss with
  | nil => rfl
  | cons d ds => exact h.elim
theorem all_enc {α : Type} {enc : α → List D} {p : List D → Prop} {q : α → Prop} (h : ∀ e, p e → ∃ x, e = enc x ∧ q x) : ∀ (es : List (List D)), (∀ e ∈ es, p e) → ∃ l : List α, es = l.map enc ∧ ∀ x ∈ l, q x
  | [], _ => ⟨[], rfl, by simp⟩
  | e :: t, hs => by
    obtain ⟨x, rfl, hx⟩ := h e (hs e (by simp))
    obtain ⟨l, rfl, hl⟩ := all_enc h t fun e he => hs e (by simp [he])
    exact ⟨x :: l, rfl, fun y hy => by
      rcases List.mem_cons.1 hy with rfl | hy
      · exact hx
      · exact hl y hy⟩
def I64 (n : Int) : Prop := -9223372036854775808 ≤ n ∧ n ≤ 9223372036854775807
theorem wt_int {n : Nat} {ds : List D} (h : WT tab (n + 1) 3 ds) : ∃ m, ds = [.int .i64 m] ∧ I64 m := by
  have h : ∃ m, ds = [.int .i64 m] ∧ (Lit.int .i64 m).wf = true := h
  obtain ⟨m, rfl, hm⟩ := h
  refine ⟨m, rfl, ?_⟩
  simp [Lit.wf, IntKind.wrap, IntKind.bits, IntKind.signed] at hm
  exact hm
theorem wt_bool {n : Nat} {ds : List D} (h : WT tab (n + 1) 4 ds) : ∃ b, ds = [.bool b] := h
theorem wt_string {n : Nat} {ds : List D} (h : WT tab (n + 1) 9 ds) : ∃ s, ds = [.str s] ∧ s.size ≤ 140737488351232 := h
theorem wt_id {n : Nat} {ds : List D} (h : WT tab (n + 2) 25 ds) : ∃ x : Id, ds = x.enc ∧ I64 x.r ∧ I64 x.n := by
  obtain ⟨a, y, rfl, h1, b, z, rfl, h2, rfl⟩ := (h : ∃ xs ys, ds = xs ++ ys ∧ WT tab (n + 1) 3 xs ∧ ∃ xs' ys', ys = xs' ++ ys' ∧ WT tab (n + 1) 3 xs' ∧ ys' = [])
  obtain ⟨r, rfl, hr⟩ := wt_int h1
  obtain ⟨m, rfl, hm⟩ := wt_int h2
  exact ⟨⟨r, m⟩, rfl, hr, hm⟩
theorem wt_ids {n : Nat} {ds : List D} (h : WT tab (n + 3) 26 ds) : ∃ l : List Id, ds = [.list (l.map Id.enc)] ∧ l.length * 16 ≤ 140737488351232 ∧ ∀ x ∈ l, I64 x.r ∧ I64 x.n := by
  obtain ⟨es, rfl, h1, h2⟩ := (h : ∃ es, ds = [.list es] ∧ es.length * 16 ≤ 140737488351232 ∧ ∀ e' ∈ es, WT tab (n + 2) 25 e')
  obtain ⟨l, rfl, hl⟩ := all_enc (fun e he => wt_id he) es h2
  exact ⟨l, rfl, by rw [List.length_map] at h1; exact h1, hl⟩
structure EntryIn (e : Entry') : Prop where
  r : I64 e.id.r
  n : I64 e.id.n
  colors : I64 e.colors
  text : e.text.size ≤ 140737488351232
  len : e.links.length * 16 ≤ 140737488351232
  links : ∀ x ∈ e.links, I64 x.r ∧ I64 x.n
theorem wt_entry {n : Nat} {ds : List D} (h : WT tab (n + 4) 28 ds) : ∃ e : Entry', ds = e.enc ∧ EntryIn e := by
  obtain ⟨a, y, rfl, h1, b, z, rfl, h2, c, u, rfl, h3, d, v, rfl, h4, rfl⟩ := (h : ∃ a y, ds = a ++ y ∧ WT tab (n + 3) 25 a ∧ ∃ b z, y = b ++ z ∧ WT tab (n + 3) 3 b ∧ ∃ c u, z = c ++ u ∧ WT tab (n + 3) 9 c ∧ ∃ d v, u = d ++ v ∧ WT tab (n + 3) 26 d ∧ v = [])
  obtain ⟨x, rfl, hx⟩ := wt_id h1
  obtain ⟨k, rfl, hk⟩ := wt_int h2
  obtain ⟨s, rfl, hs⟩ := wt_string h3
  obtain ⟨l, rfl, hl, hl2⟩ := wt_ids h4
  exact ⟨⟨x, k, s, l⟩, rfl, hx.1, hx.2, hk, hs, hl, hl2⟩
theorem wt_log {n : Nat} {ds : List D} (h : WT tab (n + 5) 22 ds) : ∃ l : List Entry', ds = [.list (l.map Entry'.enc)] ∧ l.length * 64 ≤ 140737488351232 ∧ ∀ e ∈ l, EntryIn e := by
  obtain ⟨es, rfl, h1, h2⟩ := (h : ∃ es, ds = [.list es] ∧ es.length * 64 ≤ 140737488351232 ∧ ∀ e' ∈ es, WT tab (n + 4) 28 e')
  obtain ⟨l, rfl, hl⟩ := all_enc (fun e he => wt_entry he) es h2
  exact ⟨l, rfl, by rw [List.length_map] at h1; exact h1, hl⟩
theorem logOk_in {l : List Entry'} (h : l.length * 64 ≤ 140737488351232) (k : ∀ e ∈ l, EntryIn e) : LogOk l := ⟨by omega, fun e he => by have := (k e he).len; omega⟩
end AM
end Go.Proofs.YtlioojekjnigiafGreat
/- Logs: what the document says of them, called. -/
namespace Go.Proofs.YtlioojekjnigiafGreat.AM
set_option linter.unusedVariables false
set_option linter.unusedSimpArgs false

theorem SeqOk.cut' {N : Nat} {a b : (X → St → Prop) → St → Prop} {Q : X → St → Prop} {s : St} (s1 : St) (ha : a (fun e s' => match e with
      | .normal => Into N s' fun s2 => s2 = s1
      | .exit id => Q (.exit id) s'
      | .ret => Q .ret s') s) (hb : b Q s1) : SeqOk N a b Q s := .cut (fun s2 => s2 = s1) ha fun s2 h => by rw [h]; exact hb
end Go.Proofs.YtlioojekjnigiafGreat.AM
/- Logs: pasts of what is past. -/
namespace Go.Proofs.YtlioojekjnigiafGreat.AM
set_option linter.unusedVariables false
set_option linter.unusedSimpArgs false

theorem past_in {l : List Entry'} (hr : Right l) {x : Id} (h : ∃ e ∈ l, e.id = x) : PCall Tryz.prog 26 [.dat (.list (l.map Entry'.enc)), x.arg] (.tup [.dat (.list ((pastOfId l x).map Id.enc)), dInt 0]) := by
  have he : pastErr l x = 0 := by unfold pastErr; rw [if_pos (right_iff.2 hr), if_pos (any_isThe.2 h)]
  have ha : pastAns l x = pastOfId l x := by unfold pastAns; rw [if_pos he]
  have := past_ok l hr.logOk x
  rwa [he, ha] at this
theorem pastOfId_len {l : List Entry'} (hr : Right l) (x : Id) : (pastOfId l x).length ≤ 240 := by
  have := pastFold_len (isThe x) fun e he => hr.six he
  have := hr.len
  unfold pastOfId
  rw [sortIds_len]
  omega
theorem checkRight {l : List Entry'} (hr : Right l) : PCall Tryz.prog 9 [.dat (.list (l.map Entry'.enc))] (dInt 0) := by
  have := dagCheck_ok l hr.logOk
  rwa [right_iff.2 hr] at this
theorem lt_of_cast {i n : Nat} (h : decide ((i : Int) < (n : Int)) = true) : i < n := by simpa using h
theorem ge_of_cast {i n : Nat} (h : decide ((i : Int) < (n : Int)) = false) : n ≤ i := by simpa using h
theorem lt_of_len {α : Type} {enc : α → List D} {l : List α} {i : Nat} (h : decide ((i : Int) < ((l.map enc).length : Int)) = true) : i < l.length := by simpa using h
theorem ge_of_len {α : Type} {enc : α → List D} {l : List α} {i : Nat} (h : decide ((i : Int) < ((l.map enc).length : Int)) = false) : l.length ≤ i := by simpa using h
end Go.Proofs.YtlioojekjnigiafGreat.AM
/- Logs: their beginnings. -/
namespace Go.Proofs.YtlioojekjnigiafGreat.AM
set_option linter.unusedVariables false
set_option linter.unusedSimpArgs false

theorem cnt_all {l : List Entry'} (h : ∀ e ∈ l, e.id.r = 0 ∨ e.id.r = 1) : cnt 0 l + cnt 1 l = l.length := by
  induction l with
  | nil => rfl
  | cons e t ih =>
    have := ih fun x hx => h x (by simp [hx])
    unfold cnt at *
    rw [List.countP_cons, List.countP_cons, List.length_cons]
    rcases h e (by simp) with h1 | h1 <;> simp [h1] <;> omega
theorem cnt_mono (r : Int) {l : List Entry'} {i n : Nat} (h : i ≤ n) : cnt r (l.take i) ≤ cnt r (l.take n) := by
  unfold cnt
  exact (List.take_sublist_take_left h).countP_le
/-- Pasts in a beginning are as in the whole. -/
theorem past_part {l : List Entry'} (hr : Right l) {n i : Nat} (hi : i < n) (hil : i < l.length) : pastOfId (l.take n) l[i].id = pastOfId l l[i].id := by
  have hrt := hr.take n
  refine sorted_ext (pastOfId_sorted _ _) (pastOfId_sorted _ _) fun y => ?_
  rw [mem_pastOfId hrt, mem_pastOfId hr]
  refine ⟨fun h => h.mono fun e he => List.mem_of_mem_take he, fun h => ?_⟩
  obtain ⟨j, hj, _, _, h5⟩ := h.ahead hr i hil rfl
  exact h5.mono fun e he => (List.take_subset_take_left l (by omega)) he
end Go.Proofs.YtlioojekjnigiafGreat.AM
/- Plain: sites. -/
namespace Go.Proofs.YtlioojekjnigiafGreat.AM
set_option linter.unusedVariables false
set_option linter.unusedSimpArgs false

structure Site' where
  region : Int
  log : List Entry'
  waits : List Entry'
/-- May an entry stand right behind a log? -/
def readyP (l : List Entry') (e : Entry') : Bool := decide (e.id.n = (cnt e.id.r l : Int) + 1) && e.links.all fun x => l.any (isThe x)
def settleN : Nat → List Entry' → List Entry' → List Entry' × List Entry'
  | 0, l, w => (l, w)
  | n + 1, l, w => match isIdx (readyP l) w 0 with
    | none => (l, w)
    | some i => match w[i]? with
      | none => (l, w)
      | some e => settleN n (l ++ [e]) (w.eraseIdx i)
def settle (l w : List Entry') : List Entry' × List Entry' := settleN w.length l w
theorem isIdx_first {α : Type} {p : α → Bool} : ∀ {l : List α} {i j : Nat}, isIdx p l i = some j → ∀ k (hk : k < l.length), i + k < j → p l[k] = false
  | [], i, j, h, k, hk, _ => by simp at hk
  | a :: t, i, j, h, k, hk, hkj => by
    unfold isIdx at h
    split at h
    · obtain rfl : i = j := by simpa using h
      omega
    · rename_i hp
      match k with
      | 0 => simpa using hp
      | k + 1 => exact isIdx_first h k (by simpa using hk) (by omega)
theorem settle_none {l w : List Entry'} (h : isIdx (readyP l) w 0 = none) : settle l w = (l, w) := by
  unfold settle
  cases w with
  | nil => rfl
  | cons e t => simp only [List.length_cons, settleN, h]
theorem settle_some {l w : List Entry'} {i : Nat} (h : isIdx (readyP l) w 0 = some i) (hi : i < w.length) : settle l w = settle (l ++ [w[i]]) (w.eraseIdx i) := by
  unfold settle
  rw [List.length_eraseIdx_of_lt hi]
  obtain ⟨n, hn⟩ : ∃ n, w.length = n + 1 := ⟨w.length - 1, by omega⟩
  rw [hn]
  simp only [settleN, h, List.getElem?_eq_getElem hi, Nat.add_sub_cancel]
theorem readyP_behind {l : List Entry'} {e : Entry'} (he : e.err = 0) (hn : ∀ x ∈ l, x.id ≠ e.id) (h : readyP l e = true) : Behind l e := by
  unfold readyP at h
  rw [Bool.and_eq_true, decide_eq_true_eq, List.all_eq_true] at h
  exact ⟨he, hn, h.1, fun y hy => any_isThe.1 (h.2 y hy)⟩
/-- Numbers of a region of a right log: 1, 2, .. -/
theorem Right.num_le {l : List Entry'} (hr : Right l) {e : Entry'} (he : e ∈ l) : 1 ≤ e.id.n ∧ e.id.n ≤ (cnt e.id.r l : Int) := by
  obtain ⟨i, hi, rfl⟩ := List.getElem_of_mem he
  have h1 := (hr.get hi).num
  have h2 := cnt_succ l[i].id.r hi
  simp only [beq_self_eq_true, if_true] at h2
  have h3 : cnt l[i].id.r (l.take (i + 1)) ≤ cnt l[i].id.r l := (List.take_sublist (i + 1) l).countP_le
  omega
theorem Right.cnt_twenty {l : List Entry'} (hr : Right l) (r : Int) : cnt r l ≤ 20 := by
  rcases Nat.eq_zero_or_pos (cnt r l) with h | h
  · omega
  · -- the last of that region
    have key : ∀ k, k ≤ l.length → 0 < cnt r (l.take k) → ∃ e ∈ l, e.id.r = r ∧ e.id.n = (cnt r (l.take k) : Int) := by
      intro k
      induction k with
      | zero => intro _ h; simp [cnt] at h
      | succ k ih =>
        intro hk hc
        have hs := cnt_succ r (l := l) (i := k) hk
        by_cases hx : l[k].id.r = r
        · rw [if_pos (by simp [hx])] at hs
          refine ⟨l[k], List.getElem_mem hk, hx, ?_⟩
          have := (hr.get hk).num
          rw [hx] at this
          omega
        · rw [if_neg (by simp [hx])] at hs
          obtain ⟨e, he, h1, h2⟩ := ih (by omega) (by omega)
          exact ⟨e, he, h1, by omega⟩
    obtain ⟨e, he, h1, h2⟩ := key l.length (Nat.le_refl _) (by rw [List.take_of_length_le (Nat.le_refl _)]; exact h)
    rw [List.take_of_length_le (Nat.le_refl _)] at h2
    have hok := hr.ok he
    simp [Id.ok] at hok
    omega
/-- A right log with one more. -/
theorem Right.snoc {l : List Entry'} (hr : Right l) {e : Entry'} (h : Behind l e) : Right (l ++ [e]) := by
  have hat : ∀ a x b, l ++ [e] = a ++ x :: b → Behind a x := fun a x b hh => by
    rcases List.append_eq_append_iff.1 hh with ⟨c, h1, h2⟩ | ⟨c, h1, h2⟩
    · cases c with
      | nil =>
        simp only [List.append_nil, List.nil_append, List.cons.injEq] at h1 h2
        rw [h1, ← h2.1]; exact h
      | cons y c =>
        simp at h2
    · cases c with
      | nil =>
        simp only [List.append_nil, List.nil_append, List.cons.injEq] at h1 h2
        rw [← h1, h2.1]; exact h
      | cons y c =>
        simp only [List.cons_append, List.cons.injEq] at h2
        obtain ⟨rfl, _⟩ := h2
        exact hr.at' a x c h1
  refine ⟨?_, hat⟩
  have hok := ok_of_err h.err
  simp [Id.ok] at hok
  have h0 := cnt_all (l := l ++ [e]) fun x hx => by
    rcases List.mem_append.1 hx with hx | hx
    · exact hr.regs x hx
    · have : x = e := by simpa using hx
      rw [this]; exact r_of_ok (ok_of_err h.err)
  have a0 := hr.cnt_twenty 0
  have a1 := hr.cnt_twenty 1
  have hnum := h.num
  have s0 : cnt 0 (l ++ [e]) = cnt 0 l + if e.id.r == 0 then 1 else 0 := by simp [cnt, List.countP_append, List.countP_cons]
  have s1 : cnt 1 (l ++ [e]) = cnt 1 l + if e.id.r == 1 then 1 else 0 := by simp [cnt, List.countP_append, List.countP_cons]
  rcases r_of_ok (ok_of_err h.err) with hr0 | hr0
  · rw [hr0] at hnum s0 s1
    simp at s0 s1
    omega
  · rw [hr0] at hnum s0 s1
    simp at s0 s1
    omega
end Go.Proofs.YtlioojekjnigiafGreat.AM
/- One more in the midst of a row of one's own, told as a call. -/
namespace Go.Proofs.YtlioojekjnigiafGreat.AM
open Go.RowKit
set_option linter.unusedVariables false
set_option linter.unusedSimpArgs false

theorem get_two {e0 e1 : Entry} {h : Nat} : Heap.get [(0, e0), (1, e1)] h = if h = 0 then e0 else if h = 1 then e1 else .dead := by
  match h with
  | 0 => rfl
  | 1 => rfl
  | h + 2 => rfl
theorem get_three {e : Entry} {h : Nat} : Heap.get [(0, .dead), (1, .dead), (2, e)] h = if h = 2 then e else .dead := by
  match h with
  | 0 => rfl
  | 1 => rfl
  | 2 => rfl
  | h + 3 => rfl
/-- The cells of a row that is one's own. -/
theorem row_cells {k : Nat} {cur : Array Value} {es : List (List D)} {A : View} (hs : ∀ e ∈ es, e.length = k) (hle : es.length * k ≤ cur.size)
    (h6 : ∀ i e, es[i]? = some e → ∀ j d, e[j]? = some d → Rep A (cur.getD (i * k + j) undef) d) : ∀ u ∈ cur.toList.take (es.length * k), u.oneCell' = true := fun u hu => by
  obtain ⟨p, hp, rfl⟩ := List.mem_take_iff_getElem.1 hu
  have hp2 : p < es.length * k := by omega
  have hk0 : 0 < k := by
    rcases Nat.eq_zero_or_pos k with h | h
    · subst h; simp at hp2
    · exact h
  have hi : p / k < es.length := Nat.div_lt_of_lt_mul (by rw [Nat.mul_comm]; exact hp2)
  have hm : p % k < k := Nat.mod_lt _ hk0
  have hd : (es[p / k])[p % k]? = some ((es[p / k])[p % k]'(by rw [hs _ (List.getElem_mem hi)]; exact hm)) := List.getElem?_eq_getElem _
  have := (h6 (p / k) es[p / k] (List.getElem?_eq_getElem hi) (p % k) _ hd).one
  rw [Nat.mul_comm, Nat.div_add_mod] at this
  have hpc : p < cur.size := by omega
  rw [Array.getD_eq_getD_getElem?, Array.getElem?_eq_getElem hpc, Option.getD_some] at this
  simpa using this
theorem acall_insert {P : Program} {f T k : Nat} (hk0 : 0 < k) (hcall : callable P f = true) (es : List (List D)) (x : List D) (i : Nat) (hi : i < es.length) (hn : es.length ≤ 1000)
    (hins : ∀ (n i : Nat) (v : Value) (cs xs : List Value) (vb vc : Nat) (xv : Array Value) (w : World), w.ownsRow 0 T k v n cs → w.heap[vb]? = some (.cells xv T (0, 0)) → v.ownBlock ≠ some vb → xs.length = k → xv.toList.take k = xs → xv.size = vc * k → 1 ≤ vc → (∀ u ∈ xs, u.oneCell' = true) → (∀ u ∈ cs, u.oneCell' = true) → n ≤ 1000 → i ≤ n →
      Calls P f #[v, .int .i64 i, .slice (some ⟨vb, 0, none⟩) 1 vc] w fun e w' => ∃ g cap, e = .returned (.slice (some ⟨g, 0, none⟩) (n + 1) cap) ∧ w'.ownsRow 0 T k (.slice (some ⟨g, 0, none⟩) (n + 1) cap) (n + 1) (cs.take (i * k) ++ xs ++ cs.drop (i * k)) ∧ w.grownBy w' v.ownBlock ∧ (v.ownBlock = some g ∨ w.heap.size ≤ g)) :
    ECall P f [.row 0, .dat (.int .i64 i), .row 1] [(0, .rows T k es true), (1, .rows T k [x] true)] 2 (.row 2) [(0, .dead), (1, .dead), (2, .rows T k (es.take i ++ x :: es.drop i) true)] 1 := by
  refine ⟨hcall, fun r A w vs hr hc hs hv => ?_⟩
  obtain ⟨v0, v1, v2, rfl⟩ : ∃ v0 v1 v2, vs = #[v0, v1, v2] := by
    match vs, hs with
    | ⟨[v0, v1, v2]⟩, _ => exact ⟨v0, v1, v2, rfl⟩
  have h0 : VRel r A v0 (.row 0) := hv 0 _ rfl
  have h1 : VRel r A v1 (.dat (.int .i64 i)) := hv 1 _ rfl
  have h2 : VRel r A v2 (.row 1) := hv 2 _ rfl
  obtain rfl : v1 = .int .i64 i := by
    cases h1 with | dat hr => cases hr; rfl
  have e0 := hc.ent 0
  have e1 := hc.ent 1
  rw [get_two, if_pos rfl] at e0
  rw [get_two, if_neg (by decide), if_pos rfl] at e1
  obtain ⟨k0, ⟨q1, q2⟩ | ⟨g, cap, cur, a1, a2, a3, a4, a5, a6, a7⟩⟩ := e0
  · subst q2; simp at hi
  obtain ⟨k1, ⟨q1, q2⟩ | ⟨vb, vc, xv, b1, b2, b3, b4, b5, b6, b7⟩⟩ := e1
  · cases q2
  cases h0 with
  | rowNil _ a ha hb => rw [hb] at a1; cases a1
  | row _ b n cap' hb =>
  rw [hb] at a1
  simp only [Option.some.injEq, Loc.mk.injEq] at a1
  obtain ⟨rfl, rfl, rfl⟩ := a1
  cases h2 with
  | rowNil _ a ha hb2 => rw [hb2] at b1; cases b1
  | row _ b2' n2 cap2 hb2 =>
  rw [hb2] at b1
  simp only [Option.some.injEq, Loc.mk.injEq, List.length_singleton] at b1
  obtain ⟨rfl, rfl, rfl⟩ := b1
  have hxl : x.length = k := k1 x (by simp)
  have hne : b ≠ b2' := fun e => by
    have := hc.dis 0 1 b rfl rfl (by simp [Rho.blk, hb]) (by simp [Rho.blk, hb2, e])
    cases this
  have hlen : es.length * k ≤ cur.size := by rw [a3]; exact Nat.mul_le_mul_right _ a5
  have hvlen : 1 * k ≤ xv.size := by rw [b3]; exact Nat.mul_le_mul_right _ b5
  rw [Nat.one_mul] at hvlen
  let cs := cur.toList.take (es.length * k)
  let xs := xv.toList.take k
  have hcsl : cs.length = es.length * k := by simp [cs]; omega
  have hxsl : xs.length = k := by simp [xs]; omega
  have hown : w.ownsRow 0 T k (.slice (some ⟨b, 0, none⟩) es.length cap') es.length cs := ⟨hcsl, .inr ⟨b, cap', cur, rfl, Nat.zero_le _, a2, a5, a4, a3, rfl⟩⟩
  refine (hins es.length i _ cs xs b2' cap2 xv w hown b2 (fun e => hne (by simpa [Value.ownBlock] using e)) hxsl rfl b3 b5 (fun u hu => ?_) (fun u hu => row_cells k0 hlen a6 u hu) hn (by omega)).mono fun e w' he => ?_
  · have := row_cells (es := [x]) k1 (by simpa using hvlen) b6 u
    simp only [List.length_singleton, Nat.one_mul] at this
    exact this hu
  obtain ⟨g', cap3, rfl, ho, hgr, hat⟩ := he
  obtain ⟨hol, ⟨q1, _⟩ | ⟨g2, cap4, cur', q1, _, hg', hle', hcm', hsz', ht'⟩⟩ := ho
  · cases q1
  simp only [Value.slice.injEq, Option.some.injEq, Addr.mk.injEq, and_true, true_and] at q1
  obtain ⟨rfl, rfl⟩ := q1
  have hr2 : r 2 = none := hr 2 (Nat.le_refl _)
  have hsub := Rho.set_sub (l := ⟨some g', es.length + 1, cap3⟩) hr2
  have hlb : ∀ x, LiveB r (Heap.get [(0, .rows T k es true), (1, .rows T k [x] true)]) b := fun x => ⟨0, rfl, by simp [Rho.blk, hb]⟩
  have hAg : ∀ o, A g' o = none := fun o => by
    rcases hat with e | e
    · have : b = g' := by simpa [Value.ownBlock] using e
      rw [← this]; exact a7 o
    · cases hA : A g' o with
      | none => rfl
      | some v => have := hc.view_lt hA; omega
  have hfr : Fr w A w' A (fun x => x = b) := ⟨hgr.os, hgr.tape, hgr.output, hgr.size, fun y hy hny => hgr.block y hy (by simpa [Value.ownBlock] using hny), Sub.refl A, fun _ _ _ => rfl⟩
  have hnew : (es.take i ++ x :: es.drop i).length = es.length + 1 := by simp; omega
  refine ⟨_, r.set 2 ⟨some g', es.length + 1, cap3⟩, A, .row 2, _, 3, rfl, ⟨rfl, rfl, rfl⟩, by decide, fun h hh => Rho.set_ne (by omega), fun h hh => (Rho.set_ne (by omega)).trans (hr h (by omega)), ⟨fun b3 o v hA => ?_, fun h => ?_, fun h h' b3 hl hl' _ _ => ?_⟩, .row 2 g' _ cap3 Rho.set_same, hfr.weaken fun y hy => by rw [hy]; exact hlb x, fun b3 hb3 => ?_⟩
  · have hv3 := hc.view b3 o v hA
    have hny : b3 ≠ b := fun e => by rw [e, a7] at hA; cases hA
    rw [← hv3]
    exact World.cell?_of_block (w := w) (hfr.block b3 (cell_lt' hv3) hny)
  · rw [get_three]
    by_cases hh : h = 2
    · subst hh
      rw [if_pos rfl]
      refine ⟨fun e he => ?_, .inr ⟨g', cap3, cur', by rw [Rho.set_same, hnew], hg', hsz', hcm', by rw [hnew]; exact hle', fun i' e he j d hd => ?_, hAg⟩⟩
      · rcases List.mem_append.1 he with he | he
        · exact k0 e (List.mem_of_mem_take he)
        · rcases List.mem_cons.1 he with rfl | he
          · exact hxl
          · exact k0 e (List.mem_of_mem_drop he)
      · have hi' : i' < es.length + 1 := by rw [← hnew]; exact (List.getElem?_eq_some_iff.1 he).1
        have hel : e.length = k := by
          rcases List.mem_append.1 (List.mem_of_getElem? he) with he | he
          · exact k0 e (List.mem_of_mem_take he)
          · rcases List.mem_cons.1 he with rfl | he
            · exact hxl
            · exact k0 e (List.mem_of_mem_drop he)
        have hj : j < k := by rw [← hel]; exact (List.getElem?_eq_some_iff.1 hd).1
        have hpos : i' * k + j < (es.length + 1) * k := by
          have h5 : (i' + 1) * k ≤ (es.length + 1) * k := Nat.mul_le_mul_right _ hi'
          rw [Nat.add_mul, Nat.one_mul] at h5
          omega
        have hcell : cur'.getD (i' * k + j) undef = ((cs.take (i * k) ++ xs ++ cs.drop (i * k))[i' * k + j]?).getD undef := by
          rw [← ht', List.getElem?_take, if_pos hpos, Array.getElem?_toList, Array.getD_eq_getD_getElem?]
        rw [hcell]
        have hti : (cs.take (i * k)).length = i * k := by
          rw [List.length_take, hcsl]
          exact Nat.min_eq_left (Nat.mul_le_mul_right _ (by omega))
        have csg : ∀ p, p < es.length * k → cs[p]? = cur[p]? := fun p hp => by
          simp only [cs]
          rw [List.getElem?_take, if_pos hp, Array.getElem?_toList]
        rcases Nat.lt_trichotomy i' i with hlt | heq | hgt
        · rw [List.getElem?_append_left (by simp; omega)] at he
          rw [List.getElem?_take, if_pos hlt] at he
          have hp1 : i' * k + j < i * k := by
            have h5 : (i' + 1) * k ≤ i * k := Nat.mul_le_mul_right _ hlt
            rw [Nat.add_mul, Nat.one_mul] at h5
            omega
          rw [List.append_assoc, List.getElem?_append_left (by rw [hti]; exact hp1), List.getElem?_take, if_pos hp1, csg _ (Nat.lt_of_lt_of_le hp1 (Nat.mul_le_mul_right _ (by omega))), ← Array.getD_eq_getD_getElem?]
          exact a6 i' e he j d hd
        · subst heq
          rw [List.getElem?_append_right (by simp; omega)] at he
          have : i' - (es.take i').length = 0 := by simp; omega
          rw [this] at he
          obtain rfl : x = e := by simpa using he
          rw [List.append_assoc, List.getElem?_append_right (by rw [hti]; omega), hti, show i' * k + j - i' * k = j by omega, List.getElem?_append_left (by rw [hxsl]; exact hj)]
          simp only [xs]
          rw [List.getElem?_take, if_pos hj, Array.getElem?_toList, ← Array.getD_eq_getD_getElem?]
          have := b6 0 x rfl j d hd
          rwa [Nat.zero_mul, Nat.zero_add] at this
        · rw [List.getElem?_append_right (by simp; omega)] at he
          have hsub1 : i' - (es.take i).length = (i' - 1 - i) + 1 := by simp; omega
          rw [hsub1, List.getElem?_cons_succ, List.getElem?_drop, show i + (i' - 1 - i) = i' - 1 by omega] at he
          have hp2 : i * k + k ≤ i' * k + j := by
            have h5 : (i + 1) * k ≤ i' * k := Nat.mul_le_mul_right _ hgt
            rw [Nat.add_mul, Nat.one_mul] at h5
            omega
          have hp3 : i' * k + j - k = (i' - 1) * k + j := by
            rw [Nat.sub_mul, Nat.one_mul]
            have h5 : 1 * k ≤ i' * k := Nat.mul_le_mul_right _ (by omega)
            rw [Nat.one_mul] at h5
            omega
          have h7 : (es.length + 1) * k = es.length * k + k := by rw [Nat.add_mul, Nat.one_mul]
          have h9 : (i' - 1) * k + j < es.length * k := by
            have h5 : 1 * k ≤ i' * k := Nat.mul_le_mul_right _ (by omega)
            rw [Nat.one_mul] at h5
            omega
          rw [List.getElem?_append_right (by rw [List.length_append, hti, hxsl]; exact hp2), List.length_append, hti, hxsl, List.getElem?_drop, show i * k + (i' * k + j - (i * k + k)) = i' * k + j - k by omega, hp3, csg _ h9, ← Array.getD_eq_getD_getElem?]
          exact a6 (i' - 1) e he j d hd
    · rw [if_neg hh]; trivial
  · rw [get_three] at hl hl'
    by_cases hh : h = 2
    · by_cases hh' : h' = 2
      · rw [hh, hh']
      · rw [if_neg hh'] at hl'; cases hl'
    · rw [if_neg hh] at hl; cases hl
  · obtain ⟨h, hl, hbb⟩ := hb3
    rw [get_three] at hl
    by_cases hh : h = 2
    · subst hh
      obtain rfl : g' = b3 := by simpa [Rho.blk, Rho.set_same] using hbb
      rcases hat with e | e
      · have : b = g' := by simpa [Value.ownBlock] using e
        rw [← this]; exact .inl (hlb x)
      · exact .inr e
    · rw [if_neg hh] at hl; cases hl
end Go.Proofs.YtlioojekjnigiafGreat.AM
/- Orders: what must be of ids that are handed in; orders or not. -/
namespace Go.Proofs.YtlioojekjnigiafGreat.AM
set_option linter.unusedVariables false
set_option linter.unusedSimpArgs false

def idsLoop (l : List Entry') (ahead : List Id) : List Id → Int
  | [] => 0
  | x :: t => if l.any (isThe x) = false then 5 else if hasId ahead x = true then 6 else idsLoop l (ahead ++ [x]) t
def idsErr (l : List Entry') (ids : List Id) : Int := if logErr l = 0 then idsLoop l [] ids else logErr l
theorem idsLoop_iff {l : List Entry'} : ∀ {t ahead : List Id}, idsLoop l ahead t = 0 ↔ (∀ x ∈ t, ∃ e ∈ l, e.id = x) ∧ (∀ x ∈ t, x ∉ ahead) ∧ t.Nodup
  | [], ahead => by simp [idsLoop]
  | x :: t, ahead => by
    unfold idsLoop
    by_cases h1 : l.any (isThe x) = false
    · rw [if_pos h1]
      refine ⟨fun h => by simp at h, fun h => ?_⟩
      have := any_isThe.2 (h.1 x (by simp))
      rw [h1] at this; cases this
    · rw [if_neg h1]
      have h1' : ∃ e ∈ l, e.id = x := any_isThe.1 (by simpa using h1)
      by_cases h2 : hasId ahead x = true
      · rw [if_pos h2]
        refine ⟨fun h => by simp at h, fun h => absurd (hasId_iff.1 h2) (h.2.1 x (by simp))⟩
      · rw [if_neg h2, idsLoop_iff (t := t)]
        have h2' : x ∉ ahead := fun h => h2 (hasId_iff.2 h)
        constructor
        · rintro ⟨k1, k2, k3⟩
          refine ⟨fun y hy => ?_, fun y hy => ?_, List.nodup_cons.2 ⟨fun hx => k2 x hx (by simp), k3⟩⟩
          · rcases List.mem_cons.1 hy with rfl | hy
            · exact h1'
            · exact k1 y hy
          · rcases List.mem_cons.1 hy with rfl | hy
            · exact h2'
            · exact fun hh => k2 y hy (by simp [hh])
        · rintro ⟨k1, k2, k3⟩
          rw [List.nodup_cons] at k3
          refine ⟨fun y hy => k1 y (by simp [hy]), fun y hy hm => ?_, k3.2⟩
          rcases List.mem_append.1 hm with hm | hm
          · exact k2 y (by simp [hy]) hm
          · simp only [List.mem_singleton] at hm
            subst hm
            exact k3.1 hy
theorem idsErr_ok {l : List Entry'} {ids : List Id} (h : idsErr l ids = 0) : Right l ∧ (∀ x ∈ ids, ∃ e ∈ l, e.id = x) ∧ ids.Nodup := by
  unfold idsErr at h
  split at h
  · rename_i h1
    obtain ⟨k1, _, k3⟩ := idsLoop_iff.1 h
    exact ⟨right_iff.1 h1, k1, k3⟩
  · rename_i h1; exact absurd h h1
theorem nodup_len : ∀ {a b : List Id}, a.Nodup → (∀ x ∈ a, x ∈ b) → a.length ≤ b.length
  | [], b, _, _ => Nat.zero_le _
  | x :: t, b, h, hs => by
    rw [List.nodup_cons] at h
    have hx := hs x (by simp)
    have := nodup_len (a := t) (b := b.erase x) h.2 fun y hy => (List.mem_erase_of_ne (fun e => h.1 (by rw [← e]; exact hy))).2 (hs y (by simp [hy]))
    rw [List.length_erase_of_mem hx] at this
    have := List.length_pos_of_mem hx
    simp only [List.length_cons]
    omega
/-- Ids of a log, each once, are no more than it. -/
theorem ids_len {l : List Entry'} {ids : List Id} (h1 : ∀ x ∈ ids, ∃ e ∈ l, e.id = x) (h2 : ids.Nodup) : ids.length ≤ l.length := by
  have := nodup_len (b := l.map (·.id)) h2 fun x hx => by
    obtain ⟨e, he, rfl⟩ := h1 x hx
    exact List.mem_map_of_mem he
  simpa using this
theorem check1_ok (x : Id) (e : Entry') : PCall Tryz.prog 175 [e.arg, .dat (.ptr x.enc)] (dBool (isThe x e)) := by
  refine pcall_intro tab_all tab_mixed Tryz.func175 (by kernel_rfl) Tryz.ntmps175 rfl ?_
  conv => whnf
  exact Ret.bool rfl
set_option maxHeartbeats 0 in
theorem orderCheck_ok (l : List Entry') (hl : LogOk l) (ids : List Id) (hi : ids.length ≤ 140737488355327) : PCall Tryz.prog 91 [.dat (.list (l.map Entry'.enc)), .dat (.list (ids.map Id.enc))] (dInt (idsErr l ids)) := by
  refine pcall_cut tab_all tab_mixed Tryz.func91 (by kernel_rfl) Tryz.ntmps91 rfl ?_
  conv => whnf
  conv => whnf
  repeat (first | (refine Conf.mk (by kernel_rfl) ?_; conv => whnf) | (refine SeqOk.go ?_; conv => whnf))
  refine .data _ _ (dagCheck_ok l hl) rfl ?_
  conv => whnf
  repeat (first | (refine Conf.mk (by kernel_rfl) ?_; conv => whnf) | (refine SeqOk.go ?_; conv => whnf))
  by_cases h0 : logErr l = 0
  · have he : idsErr l ids = idsLoop l [] ids := by unfold idsErr; rw [if_pos h0]
    refine BoolCase.no (by rw [h0]; rfl) ?_
    conv => whnf
    repeat (first | (refine Conf.mk (by kernel_rfl) ?_; conv => whnf) | (refine SeqOk.go ?_; conv => whnf))
    refine LoopOk.hide fun Q1 hQ1 => ?_
    refine LoopOk.mk (fun m s => ∃ i, i + m = ids.length ∧ idsErr l ids = idsLoop l (ids.take i) (ids.drop i) ∧ s = ⟨[(15, dInt i), (14, dInt (ids.map Id.enc).length), (13, .dat (.list (ids.map Id.enc))), (0, .dat (.list (l.map Entry'.enc))), (1, .dat (.list (ids.map Id.enc)))], 0, []⟩) ids.length (Into.mono (Into.to [] [(15, dInt (0 : Nat)), (14, dInt (ids.map Id.enc).length), (13, .dat (.list (ids.map Id.enc))), (0, .dat (.list (l.map Entry'.enc))), (1, .dat (.list (ids.map Id.enc)))] [] (by repeat (first | exact trivial | refine ⟨.same (congrArg dInt (wrap_up (by omega))), ?_⟩ | refine ⟨.same rfl, ?_⟩ | refine ⟨.any _, ?_⟩)) trivial rfl rfl) fun s' h => ⟨0, by omega, he, h⟩) ?_
    rintro m s ⟨i, him, hp, rfl⟩
    conv => whnf
    repeat (first | (refine Conf.mk (by kernel_rfl) ?_; conv => whnf) | (refine SeqOk.go ?_; conv => whnf))
    refine ⟨fun h => ?_, fun h => ?_⟩
    · have hi' := lt_of_len h
      rw [List.drop_eq_getElem_cons hi', idsLoop] at hp
      conv => whnf
      repeat (first | (refine Conf.mk (by kernel_rfl) ?_; conv => whnf) | (refine SeqOk.go ?_; conv => whnf))
      refine AtIdx.ofMap hi' rfl ?_
      conv => whnf
      repeat (first | (refine Conf.mk (by kernel_rfl) ?_; conv => whnf) | (refine SeqOk.go ?_; conv => whnf))
      refine .look _ _ (containsFunc_entry hl.len fun e _ => check1_ok ids[i] e) rfl rfl ?_
      conv => whnf
      repeat (first | (refine Conf.mk (by kernel_rfl) ?_; conv => whnf) | (refine SeqOk.go ?_; conv => whnf))
      refine ⟨fun h2 => ?_, fun h2 => ?_⟩
      · have h2 : l.any (isThe ids[i]) = false := (Bool.not_eq_true' _).mp h2
        conv => whnf
        repeat (first | (refine Conf.mk (by kernel_rfl) ?_; conv => whnf) | (refine SeqOk.go ?_; conv => whnf))
        subst hQ1
        conv => whnf
        exact Ret.int (by rw [hp, if_pos h2])
      · have h2 : l.any (isThe ids[i]) = true := (Bool.not_eq_false' (b := l.any (isThe ids[i]))).mp h2
        rw [if_neg (by simp [h2])] at hp
        conv => whnf
        repeat (first | (refine Conf.mk (by kernel_rfl) ?_; conv => whnf) | (refine SeqOk.go ?_; conv => whnf))
        refine .mk 0 i rfl rfl (Nat.zero_le _) (by simp; omega) ?_
        rw [List.map_take.symm]
        conv => whnf
        repeat (first | (refine Conf.mk (by kernel_rfl) ?_; conv => whnf) | (refine SeqOk.go ?_; conv => whnf))
        refine .look _ _ (containsId_ok ids[i] (ids.take i) (by rw [List.length_take]; omega)) rfl rfl ?_
        conv => whnf
        repeat (first | (refine Conf.mk (by kernel_rfl) ?_; conv => whnf) | (refine SeqOk.go ?_; conv => whnf))
        refine ⟨fun h3 => ?_, fun h3 => ?_⟩
        · have h3 : hasId (ids.take i) ids[i] = true := hasId_iff.2 (any_isId2.1 h3)
          conv => whnf
          repeat (first | (refine Conf.mk (by kernel_rfl) ?_; conv => whnf) | (refine SeqOk.go ?_; conv => whnf))
          subst hQ1
          conv => whnf
          exact Ret.int (by rw [hp, if_pos h3])
        · have h3 : ¬ hasId (ids.take i) ids[i] = true := fun k => by
            have := any_isId2.2 (hasId_iff.1 k)
            rw [h3] at this; cases this
          rw [if_neg h3, ← take_snoc hi'] at hp
          conv => whnf
          repeat (first | (refine Conf.mk (by kernel_rfl) ?_; conv => whnf) | (refine SeqOk.go ?_; conv => whnf))
          exact Into.mono (Into.to [] [(15, dInt (i + 1 : Nat)), (14, dInt (ids.map Id.enc).length), (13, .dat (.list (ids.map Id.enc))), (0, .dat (.list (l.map Entry'.enc))), (1, .dat (.list (ids.map Id.enc)))] [] (by repeat (first | exact trivial | refine ⟨.same (congrArg dInt (wrap_up (by omega))), ?_⟩ | refine ⟨.same rfl, ?_⟩ | refine ⟨.any _, ?_⟩)) trivial rfl rfl) fun s' h => ⟨m - 1, by omega, i + 1, by omega, hp, h⟩
    · have hi' := ge_of_len h
      conv => whnf
      repeat (first | (refine Conf.mk (by kernel_rfl) ?_; conv => whnf) | (refine SeqOk.go ?_; conv => whnf))
      subst hQ1
      conv => whnf
      exact Ret.int (by rw [hp, List.drop_eq_nil_of_le hi']; rfl)
  · have he : idsErr l ids = logErr l := by unfold idsErr; rw [if_neg h0]
    refine BoolCase.yes (by simpa using h0) ?_
    conv => whnf
    repeat (first | (refine Conf.mk (by kernel_rfl) ?_; conv => whnf) | (refine SeqOk.go ?_; conv => whnf))
    exact Ret.int (by rw [he])
set_option maxHeartbeats 0 in
theorem checkIds_ok (l : List Entry') (hl : LogOk l) (ids : List Id) (hi : ids.length ≤ 140737488355327) : PCall Tryz.prog 84 [.dat (.list (l.map Entry'.enc)), .dat (.list (ids.map Id.enc))] (dInt (idsLoop l [] ids)) := by
  refine pcall_cut tab_all tab_mixed Tryz.func84 (by kernel_rfl) Tryz.ntmps84 rfl ?_
  conv => whnf
  conv => whnf
  repeat (first | (refine Conf.mk (by kernel_rfl) ?_; conv => whnf) | (refine SeqOk.go ?_; conv => whnf))
  refine LoopOk.hide fun Q1 hQ1 => ?_
  refine LoopOk.mk (fun m s => ∃ i, i + m = ids.length ∧ idsLoop l [] ids = idsLoop l (ids.take i) (ids.drop i) ∧ s = ⟨[(5, dInt i), (0, .dat (.list (l.map Entry'.enc))), (1, .dat (.list (ids.map Id.enc)))], 0, []⟩) ids.length (Into.mono (Into.to [] [(5, dInt (0 : Nat)), (0, .dat (.list (l.map Entry'.enc))), (1, .dat (.list (ids.map Id.enc)))] [] (by repeat (first | exact trivial | refine ⟨.same (congrArg dInt (wrap_up (by omega))), ?_⟩ | refine ⟨.same rfl, ?_⟩ | refine ⟨.any _, ?_⟩)) trivial rfl rfl) fun s' h => ⟨0, by omega, rfl, h⟩) ?_
  rintro m s ⟨i, him, hp, rfl⟩
  conv => whnf
  repeat (first | (refine Conf.mk (by kernel_rfl) ?_; conv => whnf) | (refine SeqOk.go ?_; conv => whnf))
  refine ⟨fun h => ?_, fun h => ?_⟩
  · have hi' := lt_of_len h
    rw [List.drop_eq_getElem_cons hi', idsLoop] at hp
    conv => whnf
    repeat (first | (refine Conf.mk (by kernel_rfl) ?_; conv => whnf) | (refine SeqOk.go ?_; conv => whnf))
    refine AtIdx.ofMap hi' rfl ?_
    conv => whnf
    repeat (first | (refine Conf.mk (by kernel_rfl) ?_; conv => whnf) | (refine SeqOk.go ?_; conv => whnf))
    refine .look _ _ (entryAt_ok ids[i] l hl.len) rfl rfl ?_
    conv => whnf
    repeat (first | (refine Conf.mk (by kernel_rfl) ?_; conv => whnf) | (refine SeqOk.go ?_; conv => whnf))
    refine ⟨fun h2 => ?_, fun h2 => ?_⟩
    · have h2 : l.any (isThe ids[i]) = false := by
        rw [Bool.eq_false_iff]
        intro k
        have := entryAt_iff.2 k
        simp at h2
        omega
      conv => whnf
      repeat (first | (refine Conf.mk (by kernel_rfl) ?_; conv => whnf) | (refine SeqOk.go ?_; conv => whnf))
      subst hQ1
      conv => whnf
      exact Ret.int (by rw [hp, if_pos h2])
    · have h2 : l.any (isThe ids[i]) = true := entryAt_iff.1 (by simpa using h2)
      rw [if_neg (by simp [h2])] at hp
      conv => whnf
      repeat (first | (refine Conf.mk (by kernel_rfl) ?_; conv => whnf) | (refine SeqOk.go ?_; conv => whnf))
      refine .mk 0 i rfl rfl (Nat.zero_le _) (by simp; omega) ?_
      rw [List.map_take.symm]
      conv => whnf
      repeat (first | (refine Conf.mk (by kernel_rfl) ?_; conv => whnf) | (refine SeqOk.go ?_; conv => whnf))
      refine AtIdx.ofMap hi' rfl ?_
      conv => whnf
      repeat (first | (refine Conf.mk (by kernel_rfl) ?_; conv => whnf) | (refine SeqOk.go ?_; conv => whnf))
      refine .look _ _ (hasId_ok ids[i] (ids.take i) (by rw [List.length_take]; omega)) rfl rfl ?_
      conv => whnf
      repeat (first | (refine Conf.mk (by kernel_rfl) ?_; conv => whnf) | (refine SeqOk.go ?_; conv => whnf))
      refine ⟨fun h3 => ?_, fun h3 => ?_⟩
      · conv => whnf
        repeat (first | (refine Conf.mk (by kernel_rfl) ?_; conv => whnf) | (refine SeqOk.go ?_; conv => whnf))
        subst hQ1
        conv => whnf
        exact Ret.int (by rw [hp, if_pos h3])
      · rw [if_neg (by simp [h3]), ← take_snoc hi'] at hp
        conv => whnf
        repeat (first | (refine Conf.mk (by kernel_rfl) ?_; conv => whnf) | (refine SeqOk.go ?_; conv => whnf))
        exact Into.mono (Into.to [] [(5, dInt (i + 1 : Nat)), (0, .dat (.list (l.map Entry'.enc))), (1, .dat (.list (ids.map Id.enc)))] [] (by repeat (first | exact trivial | refine ⟨.same (congrArg dInt (wrap_up (by omega))), ?_⟩ | refine ⟨.same rfl, ?_⟩ | refine ⟨.any _, ?_⟩)) trivial rfl rfl) fun s' h => ⟨m - 1, by omega, i + 1, by omega, hp, h⟩
  · have hi' := ge_of_len h
    conv => whnf
    repeat (first | (refine Conf.mk (by kernel_rfl) ?_; conv => whnf) | (refine SeqOk.go ?_; conv => whnf))
    subst hQ1
    conv => whnf
    exact Ret.int (by rw [hp, List.drop_eq_nil_of_le hi']; rfl)
end Go.Proofs.YtlioojekjnigiafGreat.AM
/- Orders: is it one; may one come. -/
namespace Go.Proofs.YtlioojekjnigiafGreat.AM
set_option linter.unusedVariables false
set_option linter.unusedSimpArgs false
theorem map_drop' {α β : Type} {f : α → β} {l : List α} {i : Nat} : (l.map f).drop i = (l.drop i).map f := by rw [List.map_drop]
theorem map_take' {α β : Type} {f : α → β} {l : List α} {i : Nat} : (l.map f).take i = (l.take i).map f := by rw [List.map_take]
set_option maxHeartbeats 0 in
theorem indexFunc_id {cl : Nat} {ds : List D} {ids : List Id} {p : Id → Bool} (hl : ids.length ≤ 140737488355327) (hcl : ∀ x ∈ ids, PCall Tryz.prog cl [x.arg, .dat (.ptr ds)] (dBool (p x))) :
    PCall Tryz.prog 225 [.dat (.list (ids.map Id.enc)), .fn (.func cl) [] [.dat (.ptr ds)]] (dInt (idxOf (isIdx p ids 0))) := by
  refine pcall_cut tab_all tab_mixed Tryz.func225 (by kernel_rfl) Tryz.ntmps225 rfl ?_
  conv => whnf
  conv => whnf
  repeat (first | (refine Conf.mk (by kernel_rfl) ?_; conv => whnf) | (refine SeqOk.go ?_; conv => whnf))
  refine LoopOk.hide fun Q1 hQ1 => ?_
  refine LoopOk.mk (fun m s => ∃ i, i + m = ids.length ∧ isIdx p ids 0 = isIdx p (ids.drop i) i ∧ s = ⟨[(8, dInt i), (7, dInt (ids.map Id.enc).length), (1, .fn (.func cl) [] [.dat (.ptr ds)]), (0, .dat (.list (ids.map Id.enc)))], 0, []⟩) ids.length (Into.mono (Into.to [] [(8, dInt (0 : Nat)), (7, dInt (ids.map Id.enc).length), (1, .fn (.func cl) [] [.dat (.ptr ds)]), (0, .dat (.list (ids.map Id.enc)))] [] (by repeat (first | exact trivial | refine ⟨.same (congrArg dInt (wrap_up (by omega))), ?_⟩ | refine ⟨.same rfl, ?_⟩ | refine ⟨.any _, ?_⟩)) trivial rfl rfl) fun s' h => ⟨0, by omega, rfl, h⟩) ?_
  rintro m s ⟨i, hi, hp, rfl⟩
  conv => whnf
  repeat (first | (refine Conf.mk (by kernel_rfl) ?_; conv => whnf) | (refine SeqOk.go ?_; conv => whnf))
  refine ⟨fun h => ?_, fun h => ?_⟩
  · have hi' := lt_of_len h
    rw [List.drop_eq_getElem_cons hi'] at hp
    conv => whnf
    repeat (first | (refine Conf.mk (by kernel_rfl) ?_; conv => whnf) | (refine SeqOk.go ?_; conv => whnf))
    refine AtIdx.ofMap hi' rfl ?_
    conv => whnf
    repeat (first | (refine Conf.mk (by kernel_rfl) ?_; conv => whnf) | (refine SeqOk.go ?_; conv => whnf))
    refine .look _ _ (hcl ids[i] (List.getElem_mem hi')) rfl rfl ?_
    conv => whnf
    repeat (first | (refine Conf.mk (by kernel_rfl) ?_; conv => whnf) | (refine SeqOk.go ?_; conv => whnf))
    refine ⟨fun h => ?_, fun h => ?_⟩
    · conv => whnf
      repeat (first | (refine Conf.mk (by kernel_rfl) ?_; conv => whnf) | (refine SeqOk.go ?_; conv => whnf))
      subst hQ1
      conv => whnf
      exact Ret.int (by rw [hp]; simp [isIdx, h, idxOf])
    · conv => whnf
      repeat (first | (refine Conf.mk (by kernel_rfl) ?_; conv => whnf) | (refine SeqOk.go ?_; conv => whnf))
      exact Into.mono (Into.to [] [(8, dInt (i + 1 : Nat)), (7, dInt (ids.map Id.enc).length), (1, .fn (.func cl) [] [.dat (.ptr ds)]), (0, .dat (.list (ids.map Id.enc)))] [] (by repeat (first | exact trivial | refine ⟨.same (congrArg dInt (wrap_up (by omega))), ?_⟩ | refine ⟨.same rfl, ?_⟩ | refine ⟨.any _, ?_⟩)) trivial rfl rfl) fun s' h' => ⟨m - 1, by omega, i + 1, by omega, by rw [hp]; simp [isIdx, h], h'⟩
  · conv => whnf
    repeat (first | (refine Conf.mk (by kernel_rfl) ?_; conv => whnf) | (refine SeqOk.go ?_; conv => whnf))
    subst hQ1
    conv => whnf
    exact Ret.int (by rw [hp, List.drop_eq_nil_of_le (ge_of_len h)]; rfl)
theorem containsFunc_id {cl : Nat} {ds : List D} {ids : List Id} {p : Id → Bool} (hl : ids.length ≤ 140737488355327) (hcl : ∀ x ∈ ids, PCall Tryz.prog cl [x.arg, .dat (.ptr ds)] (dBool (p x))) :
    PCall Tryz.prog 152 [.dat (.list (ids.map Id.enc)), .fn (.func cl) [] [.dat (.ptr ds)]] (dBool (ids.any p)) := by
  refine pcall_intro tab_all tab_mixed Tryz.func152 (by kernel_rfl) Tryz.ntmps152 rfl ?_
  conv => whnf
  refine .look _ _ (indexFunc_id hl hcl) rfl rfl ?_
  conv => whnf
  exact Ret.bool (by rw [← idx_any p ids 0])
theorem orderPastOf_ok (l : List Entry') (hl : LogOk l) (x : Id) : PCall Tryz.prog 151 [.dat (.list (l.map Entry'.enc)), x.arg] (.dat (.list ((pastAns l x).map Id.enc))) := by
  refine pcall_intro tab_all tab_mixed Tryz.func151 (by kernel_rfl) Tryz.ntmps151 rfl ?_
  conv => whnf
  refine .data _ _ (past_ok l hl x) rfl ?_
  conv => whnf
  repeat (first | (refine Conf.mk (by kernel_rfl) ?_; conv => whnf) | (refine SeqOk.go ?_; conv => whnf))
  exact Ret.to rfl
theorem orderPast_in {l : List Entry'} (hr : Right l) {x : Id} (h : ∃ e ∈ l, e.id = x) : PCall Tryz.prog 151 [.dat (.list (l.map Entry'.enc)), x.arg] (.dat (.list ((pastOfId l x).map Id.enc))) := by
  refine pcall_intro tab_all tab_mixed Tryz.func151 (by kernel_rfl) Tryz.ntmps151 rfl ?_
  conv => whnf
  refine .data _ _ (past_in hr h) rfl ?_
  conv => whnf
  repeat (first | (refine Conf.mk (by kernel_rfl) ?_; conv => whnf) | (refine SeqOk.go ?_; conv => whnf))
  exact Ret.to rfl
theorem is1_ok (past : List Id) (hp : past.length ≤ 140737488355328) (x : Id) : PCall Tryz.prog 153 [x.arg, .dat (.ptr [.list (past.map Id.enc)])] (dBool (past.any (isId2 x))) := by
  refine pcall_intro tab_all tab_mixed Tryz.func153 (by kernel_rfl) Tryz.ntmps153 rfl ?_
  conv => whnf
  refine .look _ _ (containsId_ok x past hp) rfl rfl ?_
  conv => whnf
  repeat (first | (refine Conf.mk (by kernel_rfl) ?_; conv => whnf) | (refine SeqOk.go ?_; conv => whnf))
  exact Ret.bool rfl
theorem all_not (t past : List Id) : t.all (fun y => !hasId past y) = !(t.any fun x => past.any (isId2 x)) := by
  have e : (fun x => past.any (isId2 x)) = hasId past := funext fun x => by rw [Bool.eq_iff_iff, any_isId2, hasId_iff]
  rw [e]
  induction t with
  | nil => rfl
  | cons x t ih => rw [List.all_cons, List.any_cons, ih, Bool.not_or]
def isAns (l : List Entry') (ids : List Id) : Bool := decide (idsErr l ids = 0) && isOrder l ids
set_option maxHeartbeats 0 in
theorem Is_ok (l : List Entry') (hl : LogOk l) (ids : List Id) (hi : ids.length ≤ 140737488355326) : PCall Tryz.prog 68 [.dat (.list (l.map Entry'.enc)), .dat (.list (ids.map Id.enc))] (.tup [dBool (isAns l ids), dInt (idsErr l ids)]) := by
  refine pcall_cut tab_all tab_mixed Tryz.func68 (by kernel_rfl) Tryz.ntmps68 rfl ?_
  conv => whnf
  conv => whnf
  repeat (first | (refine Conf.mk (by kernel_rfl) ?_; conv => whnf) | (refine SeqOk.go ?_; conv => whnf))
  refine .data _ _ (orderCheck_ok l hl ids (by omega)) rfl ?_
  conv => whnf
  repeat (first | (refine Conf.mk (by kernel_rfl) ?_; conv => whnf) | (refine SeqOk.go ?_; conv => whnf))
  by_cases h0 : idsErr l ids = 0
  · obtain ⟨hr, hin, hnd⟩ := idsErr_ok h0
    have ha : isAns l ids = isOrder l ids := by unfold isAns; rw [h0]; rfl
    refine BoolCase.no (by rw [h0]; rfl) ?_
    conv => whnf
    repeat (first | (refine Conf.mk (by kernel_rfl) ?_; conv => whnf) | (refine SeqOk.go ?_; conv => whnf))
    refine LoopOk.hide fun Q1 hQ1 => ?_
    refine LoopOk.mk (fun m s => ∃ i, i + m = ids.length ∧ isOrder l ids = isOrder l (ids.drop i) ∧ s = ⟨[(18, dInt i), (17, dInt (ids.map Id.enc).length), (16, .dat (.list (ids.map Id.enc))), (0, .dat (.list (l.map Entry'.enc))), (1, .dat (.list (ids.map Id.enc)))], 0, []⟩) ids.length (Into.mono (Into.to [] [(18, dInt (0 : Nat)), (17, dInt (ids.map Id.enc).length), (16, .dat (.list (ids.map Id.enc))), (0, .dat (.list (l.map Entry'.enc))), (1, .dat (.list (ids.map Id.enc)))] [] (by repeat (first | exact trivial | refine ⟨.same (congrArg dInt (wrap_up (by omega))), ?_⟩ | refine ⟨.same rfl, ?_⟩ | refine ⟨.any _, ?_⟩)) trivial rfl rfl) fun s' h => ⟨0, by omega, rfl, h⟩) ?_
    rintro m s ⟨i, him, hp, rfl⟩
    conv => whnf
    repeat (first | (refine Conf.mk (by kernel_rfl) ?_; conv => whnf) | (refine SeqOk.go ?_; conv => whnf))
    refine ⟨fun h => ?_, fun h => ?_⟩
    · have hi' := lt_of_len h
      have hpl := pastOfId_len hr ids[i]
      rw [List.drop_eq_getElem_cons hi', isOrder] at hp
      conv => whnf
      repeat (first | (refine Conf.mk (by kernel_rfl) ?_; conv => whnf) | (refine SeqOk.go ?_; conv => whnf))
      refine AtIdx.ofMap hi' rfl ?_
      conv => whnf
      repeat (first | (refine Conf.mk (by kernel_rfl) ?_; conv => whnf) | (refine SeqOk.go ?_; conv => whnf))
      refine .data _ _ (orderPast_in hr (hin _ (List.getElem_mem hi'))) rfl ?_
      conv => whnf
      repeat (first | (refine Conf.mk (by kernel_rfl) ?_; conv => whnf) | (refine SeqOk.go ?_; conv => whnf))
      refine .mk (i + 1) ids.length (by rw [wrap_id (by omega) (by omega)]; rfl) (by simp) (by omega) (by simp) ?_
      refine ⟨by simp [Id.enc], ?_⟩
      rw [map_drop']
      conv => whnf
      repeat (first | (refine Conf.mk (by kernel_rfl) ?_; conv => whnf) | (refine SeqOk.go ?_; conv => whnf))
      refine .look _ _ (containsFunc_id (by rw [List.length_drop]; omega) fun x _ => is1_ok (pastOfId l ids[i]) (by omega) x) rfl rfl ?_
      conv => whnf
      repeat (first | (refine Conf.mk (by kernel_rfl) ?_; conv => whnf) | (refine SeqOk.go ?_; conv => whnf))
      have hb := all_not (ids.drop (i + 1)) (pastOfId l ids[i])
      rw [hb] at hp
      refine ⟨fun h2 => ?_, fun h2 => ?_⟩
      · rw [h2] at hp
        conv => whnf
        repeat (first | (refine Conf.mk (by kernel_rfl) ?_; conv => whnf) | (refine SeqOk.go ?_; conv => whnf))
        subst hQ1
        conv => whnf
        exact Ret.to (by rw [ha, h0, hp]; rfl)
      · rw [h2, Bool.not_false, Bool.true_and] at hp
        conv => whnf
        repeat (first | (refine Conf.mk (by kernel_rfl) ?_; conv => whnf) | (refine SeqOk.go ?_; conv => whnf))
        exact Into.mono (Into.to [] [(18, dInt (i + 1 : Nat)), (17, dInt (ids.map Id.enc).length), (16, .dat (.list (ids.map Id.enc))), (0, .dat (.list (l.map Entry'.enc))), (1, .dat (.list (ids.map Id.enc)))] [] (by repeat (first | exact trivial | refine ⟨.same (congrArg dInt (wrap_up (by omega))), ?_⟩ | refine ⟨.same rfl, ?_⟩ | refine ⟨.any _, ?_⟩)) trivial rfl rfl) fun s' h => ⟨m - 1, by omega, i + 1, by omega, hp, h⟩
    · conv => whnf
      repeat (first | (refine Conf.mk (by kernel_rfl) ?_; conv => whnf) | (refine SeqOk.go ?_; conv => whnf))
      subst hQ1
      conv => whnf
      exact Ret.to (by rw [ha, h0, hp, List.drop_eq_nil_of_le (ge_of_len h)]; rfl)
  · have ha : isAns l ids = false := by unfold isAns; rw [decide_eq_false h0]; rfl
    refine BoolCase.yes (by simpa using h0) ?_
    conv => whnf
    repeat (first | (refine Conf.mk (by kernel_rfl) ?_; conv => whnf) | (refine SeqOk.go ?_; conv => whnf))
    exact Ret.to (by rw [ha]; rfl)
set_option maxHeartbeats 0 in
theorem inPast_ok {l : List Entry'} (hr : Right l) {x y : Id} (hx : ∃ e ∈ l, e.id = x) (hy : ∃ e ∈ l, e.id = y) : PCall Tryz.prog 174 [.dat (.list (l.map Entry'.enc)), x.arg, y.arg] (dBool (hasId (pastOfId l y) x)) := by
  obtain ⟨i, hi, rfl⟩ := Right.idx_mem.1 hx
  obtain ⟨j, hj, rfl⟩ := Right.idx_mem.1 hy
  have hai : entryAt l l[i].id = (i : Int) := by rw [entryAt_eq, idx_of hr hi]; rfl
  have haj : entryAt l l[j].id = (j : Int) := by rw [entryAt_eq, idx_of hr hj]; rfl
  have hlen := hr.len
  have hei := entryAt_ok l[i].id l (by omega)
  have hej := entryAt_ok l[j].id l (by omega)
  rw [hai] at hei
  rw [haj] at hej
  have hpl : i < (pastBs l j).length := by rw [pastBs, pastB_length]; exact hi
  refine pcall_cut tab_all tab_mixed Tryz.func174 (by kernel_rfl) Tryz.ntmps174 rfl ?_
  conv => whnf
  conv => whnf
  repeat (first | (refine Conf.mk (by kernel_rfl) ?_; conv => whnf) | (refine SeqOk.go ?_; conv => whnf))
  refine .data _ _ hej rfl ?_
  conv => whnf
  repeat (first | (refine Conf.mk (by kernel_rfl) ?_; conv => whnf) | (refine SeqOk.go ?_; conv => whnf))
  refine .data _ _ (pastOfB_ok l hr j hj) rfl ?_
  conv => whnf
  repeat (first | (refine Conf.mk (by kernel_rfl) ?_; conv => whnf) | (refine SeqOk.go ?_; conv => whnf))
  refine .data _ _ hei rfl ?_
  conv => whnf
  repeat (first | (refine Conf.mk (by kernel_rfl) ?_; conv => whnf) | (refine SeqOk.go ?_; conv => whnf))
  refine AtIdx.ofMap hpl rfl ?_
  conv => whnf
  repeat (first | (refine Conf.mk (by kernel_rfl) ?_; conv => whnf) | (refine SeqOk.go ?_; conv => whnf))
  refine Ret.bool ?_
  rw [Bool.eq_iff_iff, hasId_iff, mem_pastOfId hr, ← pastBs_iff hr hj hi]
  unfold isIn
  rw [List.getElem?_eq_getElem hpl]
  rfl
set_option maxHeartbeats 0 in
theorem isOrderRef_ok {l : List Entry'} (hr : Right l) (ids : List Id) (hin : ∀ x ∈ ids, ∃ e ∈ l, e.id = x) (hi : ids.length ≤ 140737488355326) : PCall Tryz.prog 89 [.dat (.list (l.map Entry'.enc)), .dat (.list (ids.map Id.enc))] (dBool (isOrder l ids)) := by
  refine pcall_cut tab_all tab_mixed Tryz.func89 (by kernel_rfl) Tryz.ntmps89 rfl ?_
  conv => whnf
  conv => whnf
  repeat (first | (refine Conf.mk (by kernel_rfl) ?_; conv => whnf) | (refine SeqOk.go ?_; conv => whnf))
  refine LoopOk.hide fun Q1 hQ1 => ?_
  refine LoopOk.mk (fun m s => ∃ i, i + m = ids.length ∧ isOrder l ids = isOrder l (ids.drop i) ∧ s = ⟨[(5, dInt i), (0, .dat (.list (l.map Entry'.enc))), (1, .dat (.list (ids.map Id.enc)))], 0, []⟩) ids.length (Into.mono (Into.to [] [(5, dInt (0 : Nat)), (0, .dat (.list (l.map Entry'.enc))), (1, .dat (.list (ids.map Id.enc)))] [] (by repeat (first | exact trivial | refine ⟨.same (congrArg dInt (wrap_up (by omega))), ?_⟩ | refine ⟨.same rfl, ?_⟩ | refine ⟨.any _, ?_⟩)) trivial rfl rfl) fun s' h => ⟨0, by omega, rfl, h⟩) ?_
  rintro m s ⟨i, him, hp, rfl⟩
  conv => whnf
  repeat (first | (refine Conf.mk (by kernel_rfl) ?_; conv => whnf) | (refine SeqOk.go ?_; conv => whnf))
  refine ⟨fun h => ?_, fun h => ?_⟩
  · have hi' := lt_of_len h
    rw [List.drop_eq_getElem_cons hi', isOrder] at hp
    conv => whnf
    repeat (first | (refine Conf.mk (by kernel_rfl) ?_; conv => whnf) | (refine SeqOk.go ?_; conv => whnf))
    refine LoopOk.hide fun Q2 hQ2 => ?_
    refine LoopOk.mk (fun m s => ∃ k, k + m = ids.length ∧ i < k ∧ isOrder l ids = ((ids.drop k).all (fun y => !hasId (pastOfId l ids[i]) y) && isOrder l (ids.drop (i + 1))) ∧ s = ⟨[(6, dInt k), (5, dInt i), (0, .dat (.list (l.map Entry'.enc))), (1, .dat (.list (ids.map Id.enc)))], 0, []⟩) (ids.length - (i + 1)) (Into.mono (Into.to [] [(6, dInt (i + 1 : Nat)), (5, dInt i), (0, .dat (.list (l.map Entry'.enc))), (1, .dat (.list (ids.map Id.enc)))] [] (by repeat (first | exact trivial | refine ⟨.same (congrArg dInt (wrap_up (by omega))), ?_⟩ | refine ⟨.same rfl, ?_⟩ | refine ⟨.any _, ?_⟩)) trivial rfl rfl) fun s' h => ⟨i + 1, by omega, by omega, hp, h⟩) ?_
    rintro m' s ⟨k, hk, hik, hq, rfl⟩
    conv => whnf
    repeat (first | (refine Conf.mk (by kernel_rfl) ?_; conv => whnf) | (refine SeqOk.go ?_; conv => whnf))
    refine ⟨fun h2 => ?_, fun h2 => ?_⟩
    · have hk' := lt_of_len h2
      rw [List.drop_eq_getElem_cons hk', List.all_cons] at hq
      conv => whnf
      repeat (first | (refine Conf.mk (by kernel_rfl) ?_; conv => whnf) | (refine SeqOk.go ?_; conv => whnf))
      refine AtIdx.ofMap hk' rfl ?_
      conv => whnf
      repeat (first | (refine Conf.mk (by kernel_rfl) ?_; conv => whnf) | (refine SeqOk.go ?_; conv => whnf))
      refine AtIdx.ofMap hi' rfl ?_
      conv => whnf
      repeat (first | (refine Conf.mk (by kernel_rfl) ?_; conv => whnf) | (refine SeqOk.go ?_; conv => whnf))
      refine .look _ _ (inPast_ok hr (hin _ (List.getElem_mem hk')) (hin _ (List.getElem_mem hi'))) rfl rfl ?_
      conv => whnf
      repeat (first | (refine Conf.mk (by kernel_rfl) ?_; conv => whnf) | (refine SeqOk.go ?_; conv => whnf))
      refine ⟨fun h3 => ?_, fun h3 => ?_⟩
      · conv => whnf
        repeat (first | (refine Conf.mk (by kernel_rfl) ?_; conv => whnf) | (refine SeqOk.go ?_; conv => whnf))
        subst hQ2
        conv => whnf
        subst hQ1
        conv => whnf
        exact Ret.bool (by rw [hq, h3]; rfl)
      · conv => whnf
        repeat (first | (refine Conf.mk (by kernel_rfl) ?_; conv => whnf) | (refine SeqOk.go ?_; conv => whnf))
        exact Into.mono (Into.to [] [(6, dInt (k + 1 : Nat)), (5, dInt i), (0, .dat (.list (l.map Entry'.enc))), (1, .dat (.list (ids.map Id.enc)))] [] (by repeat (first | exact trivial | refine ⟨.same (congrArg dInt (wrap_up (by omega))), ?_⟩ | refine ⟨.same rfl, ?_⟩ | refine ⟨.any _, ?_⟩)) trivial rfl rfl) fun s' h => ⟨m' - 1, by omega, k + 1, by omega, by omega, by rw [hq, h3]; rfl, h⟩
    · rw [List.drop_eq_nil_of_le (ge_of_len h2)] at hq
      conv => whnf
      repeat (first | (refine Conf.mk (by kernel_rfl) ?_; conv => whnf) | (refine SeqOk.go ?_; conv => whnf))
      subst hQ2
      conv => whnf
      exact Into.mono (Into.to [] [(5, dInt (i + 1 : Nat)), (0, .dat (.list (l.map Entry'.enc))), (1, .dat (.list (ids.map Id.enc)))] [] (by repeat (first | exact trivial | refine ⟨.same (congrArg dInt (wrap_up (by omega))), ?_⟩ | refine ⟨.same rfl, ?_⟩ | refine ⟨.any _, ?_⟩)) trivial rfl rfl) fun s' h => ⟨m - 1, by omega, i + 1, by omega, hq, h⟩
  · conv => whnf
    repeat (first | (refine Conf.mk (by kernel_rfl) ?_; conv => whnf) | (refine SeqOk.go ?_; conv => whnf))
    subst hQ1
    conv => whnf
    exact Ret.bool (by rw [hp, List.drop_eq_nil_of_le (ge_of_len h)]; rfl)
set_option maxHeartbeats 0 in
theorem mayCome_ok {l : List Entry'} (hr : Right l) (c : Int) (i : Nat) (hi : i < l.length) (ids : List Id) (hl : ids.length ≤ 140737488355326) : PCall Tryz.prog 88 [.dat (.list (l.map Entry'.enc)), dInt c, dInt i, .dat (.list (ids.map Id.enc))] (dBool ((needs l c l[i].id).all (hasId ids))) := by
  have hlen := hr.len
  have hpl : (pastBs l i).length = l.length := by rw [pastBs, pastB_length]
  have hin : ∀ k (hk : k < l.length), isIn (pastBs l i) k = true → meets l[k].colors c = true → l[k].id ∈ needs l c l[i].id := fun k hk h1 h2 =>
    (mem_needs hr).2 ⟨(pastBs_iff hr hi hk).1 h1, colored_iff.2 ⟨l[k], List.getElem_mem hk, rfl, h2⟩⟩
  refine pcall_cut tab_all tab_mixed Tryz.func88 (by kernel_rfl) Tryz.ntmps88 rfl ?_
  conv => whnf
  conv => whnf
  repeat (first | (refine Conf.mk (by kernel_rfl) ?_; conv => whnf) | (refine SeqOk.go ?_; conv => whnf))
  refine .data _ _ (pastOfB_ok l hr i hi) rfl ?_
  conv => whnf
  repeat (first | (refine Conf.mk (by kernel_rfl) ?_; conv => whnf) | (refine SeqOk.go ?_; conv => whnf))
  refine LoopOk.hide fun Q1 hQ1 => ?_
  refine LoopOk.mk (fun m s => ∃ k, k + m = l.length ∧ (∀ j (hj : j < l.length), j < k → isIn (pastBs l i) j = true → meets l[j].colors c = true → hasId ids l[j].id = true) ∧ s = ⟨[(10, dInt k), (9, .dat (.list ((pastBs l i).map Bool.encB))), (0, .dat (.list (l.map Entry'.enc))), (1, dInt c), (3, .dat (.list (ids.map Id.enc)))], 0, []⟩) l.length (Into.mono (Into.to [] [(10, dInt (0 : Nat)), (9, .dat (.list ((pastBs l i).map Bool.encB))), (0, .dat (.list (l.map Entry'.enc))), (1, dInt c), (3, .dat (.list (ids.map Id.enc)))] [] (by repeat (first | exact trivial | refine ⟨.same (congrArg dInt (wrap_up (by omega))), ?_⟩ | refine ⟨.same rfl, ?_⟩ | refine ⟨.any _, ?_⟩)) trivial rfl rfl) fun s' h => ⟨0, by omega, fun j _ hj => by omega, h⟩) ?_
  rintro m s ⟨k, hk, hq, rfl⟩
  conv => whnf
  repeat (first | (refine Conf.mk (by kernel_rfl) ?_; conv => whnf) | (refine SeqOk.go ?_; conv => whnf))
  refine ⟨fun h => ?_, fun h => ?_⟩
  · have hk' := lt_of_len h
    have hkb : k < (pastBs l i).length := by omega
    have hib : isIn (pastBs l i) k = (pastBs l i)[k] := by unfold isIn; rw [List.getElem?_eq_getElem hkb]; rfl
    conv => whnf
    repeat (first | (refine Conf.mk (by kernel_rfl) ?_; conv => whnf) | (refine SeqOk.go ?_; conv => whnf))
    refine AtIdx.ofMap hkb rfl ?_
    conv => whnf
    repeat (first | (refine Conf.mk (by kernel_rfl) ?_; conv => whnf) | (refine SeqOk.go ?_; conv => whnf))
    refine ⟨fun h1 => ?_, fun h1 => ?_⟩
    · conv => whnf
      repeat (first | (refine Conf.mk (by kernel_rfl) ?_; conv => whnf) | (refine SeqOk.go ?_; conv => whnf))
      refine AtIdx.ofMap hk' rfl ?_
      conv => whnf
      repeat (first | (refine Conf.mk (by kernel_rfl) ?_; conv => whnf) | (refine SeqOk.go ?_; conv => whnf))
      refine .look _ _ (meets_ok l[k].colors c) rfl rfl ?_
      conv => whnf
      repeat (first | (refine Conf.mk (by kernel_rfl) ?_; conv => whnf) | (refine SeqOk.go ?_; conv => whnf))
      refine ⟨fun h2 => ?_, fun h2 => ?_⟩
      · conv => whnf
        repeat (first | (refine Conf.mk (by kernel_rfl) ?_; conv => whnf) | (refine SeqOk.go ?_; conv => whnf))
        refine AtIdx.ofMap hk' rfl ?_
        conv => whnf
        repeat (first | (refine Conf.mk (by kernel_rfl) ?_; conv => whnf) | (refine SeqOk.go ?_; conv => whnf))
        refine .look _ _ (hasId_ok l[k].id ids (by omega)) rfl rfl ?_
        conv => whnf
        repeat (first | (refine Conf.mk (by kernel_rfl) ?_; conv => whnf) | (refine SeqOk.go ?_; conv => whnf))
        refine ⟨fun h3 => ?_, fun h3 => ?_⟩
        · have h3 : hasId ids l[k].id = false := (Bool.not_eq_true' _).mp h3
          conv => whnf
          repeat (first | (refine Conf.mk (by kernel_rfl) ?_; conv => whnf) | (refine SeqOk.go ?_; conv => whnf))
          subst hQ1
          conv => whnf
          refine Ret.bool ?_
          symm
          rw [Bool.eq_false_iff]
          intro hh
          rw [List.all_eq_true] at hh
          have := hh _ (hin k hk' (hib.trans h1) h2)
          rw [h3] at this; cases this
        · have h3 : hasId ids l[k].id = true := (Bool.not_eq_false' (b := hasId ids l[k].id)).mp h3
          have hn : isIn (pastBs l i) k = true → meets l[k].colors c = true → hasId ids l[k].id = true := fun _ _ => h3
          conv => whnf
          repeat (first | (refine Conf.mk (by kernel_rfl) ?_; conv => whnf) | (refine SeqOk.go ?_; conv => whnf))
          exact Into.mono (Into.to [] [(10, dInt (k + 1 : Nat)), (9, .dat (.list ((pastBs l i).map Bool.encB))), (0, .dat (.list (l.map Entry'.enc))), (1, dInt c), (3, .dat (.list (ids.map Id.enc)))] [] (by repeat (first | exact trivial | refine ⟨.same (congrArg dInt (wrap_up (by omega))), ?_⟩ | refine ⟨.same rfl, ?_⟩ | refine ⟨.any _, ?_⟩)) trivial rfl rfl) fun s' h => ⟨m - 1, by omega, k + 1, by omega, fun j hj hjk a b => (by
            by_cases e : j = k
            · subst e; exact hn a b
            · exact hq j hj (by omega) a b), h⟩
      · have hn : isIn (pastBs l i) k = true → meets l[k].colors c = true → hasId ids l[k].id = true := fun _ b => by rw [h2] at b; cases b
        conv => whnf
        repeat (first | (refine Conf.mk (by kernel_rfl) ?_; conv => whnf) | (refine SeqOk.go ?_; conv => whnf))
        exact Into.mono (Into.to [] [(10, dInt (k + 1 : Nat)), (9, .dat (.list ((pastBs l i).map Bool.encB))), (0, .dat (.list (l.map Entry'.enc))), (1, dInt c), (3, .dat (.list (ids.map Id.enc)))] [] (by repeat (first | exact trivial | refine ⟨.same (congrArg dInt (wrap_up (by omega))), ?_⟩ | refine ⟨.same rfl, ?_⟩ | refine ⟨.any _, ?_⟩)) trivial rfl rfl) fun s' h => ⟨m - 1, by omega, k + 1, by omega, fun j hj hjk a b => (by
          by_cases e : j = k
          · subst e; exact hn a b
          · exact hq j hj (by omega) a b), h⟩
    · have hn : isIn (pastBs l i) k = true → meets l[k].colors c = true → hasId ids l[k].id = true := fun a _ => by rw [hib] at a; exact absurd (h1.symm.trans a) (by simp)
      conv => whnf
      repeat (first | (refine Conf.mk (by kernel_rfl) ?_; conv => whnf) | (refine SeqOk.go ?_; conv => whnf))
      exact Into.mono (Into.to [] [(10, dInt (k + 1 : Nat)), (9, .dat (.list ((pastBs l i).map Bool.encB))), (0, .dat (.list (l.map Entry'.enc))), (1, dInt c), (3, .dat (.list (ids.map Id.enc)))] [] (by repeat (first | exact trivial | refine ⟨.same (congrArg dInt (wrap_up (by omega))), ?_⟩ | refine ⟨.same rfl, ?_⟩ | refine ⟨.any _, ?_⟩)) trivial rfl rfl) fun s' h => ⟨m - 1, by omega, k + 1, by omega, fun j hj hjk a b => (by
        by_cases e : j = k
        · subst e; exact hn a b
        · exact hq j hj (by omega) a b), h⟩
  · have hk' := ge_of_len h
    conv => whnf
    repeat (first | (refine Conf.mk (by kernel_rfl) ?_; conv => whnf) | (refine SeqOk.go ?_; conv => whnf))
    subst hQ1
    conv => whnf
    refine Ret.bool ?_
    symm
    rw [List.all_eq_true]
    intro x hx
    obtain ⟨ha, hcx⟩ := (mem_needs hr).1 hx
    obtain ⟨e, he, rfl, hm⟩ := colored_iff.1 hcx
    obtain ⟨j, hj, rfl⟩ := List.getElem_of_mem he
    exact hq j hj (by omega) ((pastBs_iff hr hi hj).2 ha) hm
end Go.Proofs.YtlioojekjnigiafGreat.AM
/- Sites: what is there, what is ready; the same ones. -/
namespace Go.Proofs.YtlioojekjnigiafGreat.AM
set_option linter.unusedVariables false
set_option linter.unusedSimpArgs false

def Site'.arg (s : Site') : AVal := .agg [dInt s.region, .dat (.list (s.log.map Entry'.enc)), .dat (.list (s.waits.map Entry'.enc))]
theorem siteHas1_ok (x : Id) (e : Entry') : PCall Tryz.prog 221 [e.arg, .dat (.ptr x.enc)] (dBool (isThe x e)) := by
  refine pcall_intro tab_all tab_mixed Tryz.func221 (by kernel_rfl) Tryz.ntmps221 rfl ?_
  conv => whnf
  exact Ret.bool rfl
theorem siteHas_ok (x : Id) (l : List Entry') (hl : l.length ≤ 140737488355328) : PCall Tryz.prog 146 [.dat (.list (l.map Entry'.enc)), x.arg] (dBool (l.any (isThe x))) := by
  refine pcall_intro tab_all tab_mixed Tryz.func146 (by kernel_rfl) Tryz.ntmps146 rfl ?_
  conv => whnf
  refine .look _ _ (containsFunc_entry hl fun e _ => siteHas1_ok x e) rfl rfl ?_
  conv => whnf
  exact Ret.bool rfl
set_option maxHeartbeats 0 in
theorem siteCount_ok (l : List Entry') (hl : l.length ≤ 140737488355328) (r : Int) : PCall Tryz.prog 259 [.dat (.list (l.map Entry'.enc)), dInt r] (dInt (cnt r l)) := by
  refine pcall_intro tab_all tab_mixed Tryz.func259 (by kernel_rfl) Tryz.ntmps259 rfl ?_
  conv => whnf
  refine LoopOk.mk (fun m s => ∃ i, i + m = l.length ∧ s = ⟨[(10, dInt i), (9, dInt (l.map Entry'.enc).length), (8, (.dat (.list (l.map Entry'.enc)))), (1, dInt r), (5, dInt (cnt r (l.take i)))], 0, []⟩) l.length (Into.mono (Into.to [] [(10, dInt (0 : Nat)), (9, dInt (l.map Entry'.enc).length), (8, (.dat (.list (l.map Entry'.enc)))), (1, dInt r), (5, dInt (cnt r (l.take 0)))] [] (by repeat (first | exact trivial | refine ⟨.same (congrArg dInt (wrap_up (by omega))), ?_⟩ | refine ⟨.same rfl, ?_⟩ | refine ⟨.any _, ?_⟩)) trivial rfl rfl) fun s' h => ⟨0, by omega, h⟩) ?_
  rintro m s ⟨i, hi, rfl⟩
  conv => whnf
  repeat (first | (refine Conf.mk (by kernel_rfl) ?_; conv => whnf) | (refine SeqOk.go ?_; conv => whnf))
  refine ⟨fun h => ?_, fun h => ?_⟩
  · have hil := lt_of_len h
    have hs := cnt_succ r hil
    have hc := cnt_le r (l.take i)
    rw [List.length_take] at hc
    conv => whnf
    repeat (first | (refine Conf.mk (by kernel_rfl) ?_; conv => whnf) | (refine SeqOk.go ?_; conv => whnf))
    refine AtIdx.ofMap hil rfl ?_
    conv => whnf
    repeat (first | (refine Conf.mk (by kernel_rfl) ?_; conv => whnf) | (refine SeqOk.go ?_; conv => whnf))
    refine ⟨fun h1 => ?_, fun h1 => ?_⟩
    · have h1 : (l[i].id.r == r) = true := h1
      rw [if_pos h1] at hs
      conv => whnf
      repeat (first | (refine Conf.mk (by kernel_rfl) ?_; conv => whnf) | (refine SeqOk.go ?_; conv => whnf))
      exact Into.mono (Into.to [] [(10, dInt (i + 1 : Nat)), (9, dInt (l.map Entry'.enc).length), (8, (.dat (.list (l.map Entry'.enc)))), (1, dInt r), (5, dInt (cnt r (l.take (i + 1))))] [] ⟨.same (congrArg dInt (wrap_up (by omega))), .same rfl, .same rfl, .same rfl, .same (by rw [hs]; exact congrArg dInt (wrap_up (by omega))), trivial⟩ trivial rfl rfl) fun s' h => ⟨m - 1, by omega, i + 1, by omega, h⟩
    · have h1 : (l[i].id.r == r) = false := h1
      rw [if_neg (by rw [h1]; decide)] at hs
      conv => whnf
      repeat (first | (refine Conf.mk (by kernel_rfl) ?_; conv => whnf) | (refine SeqOk.go ?_; conv => whnf))
      exact Into.mono (Into.to [] [(10, dInt (i + 1 : Nat)), (9, dInt (l.map Entry'.enc).length), (8, (.dat (.list (l.map Entry'.enc)))), (1, dInt r), (5, dInt (cnt r (l.take (i + 1))))] [] ⟨.same (congrArg dInt (wrap_up (by omega))), .same rfl, .same rfl, .same rfl, .same (by rw [hs]; rfl), trivial⟩ trivial rfl rfl) fun s' h => ⟨m - 1, by omega, i + 1, by omega, h⟩
  · have hil := ge_of_len h
    conv => whnf
    repeat (first | (refine Conf.mk (by kernel_rfl) ?_; conv => whnf) | (refine SeqOk.go ?_; conv => whnf))
    refine Ret.int ?_
    rw [List.take_of_length_le hil]
theorem siteReady1_ok (l : List Entry') (hl : l.length ≤ 140737488355328) (x : Id) : PCall Tryz.prog 260 [x.arg, .dat (.ptr [.list (l.map Entry'.enc)])] (dBool (!l.any (isThe x))) := by
  refine pcall_intro tab_all tab_mixed Tryz.func260 (by kernel_rfl) Tryz.ntmps260 rfl ?_
  conv => whnf
  refine .look _ _ (siteHas_ok x l hl) rfl rfl ?_
  conv => whnf
  repeat (first | (refine Conf.mk (by kernel_rfl) ?_; conv => whnf) | (refine SeqOk.go ?_; conv => whnf))
  exact Ret.bool rfl
theorem not_any_not {α : Type} (p : α → Bool) : ∀ l : List α, (!l.any fun x => !p x) = l.all p
  | [] => rfl
  | x :: t => by simp only [List.any_cons, List.all_cons, ← not_any_not p t, Bool.not_or, Bool.not_not]
set_option maxHeartbeats 0 in
theorem siteReady_ok (l : List Entry') (hl : l.length ≤ 1000) (e : Entry') (he : e.links.length ≤ 140737488355327) : PCall Tryz.prog 219 [.dat (.list (l.map Entry'.enc)), e.arg] (dBool (readyP l e)) := by
  have hc := cnt_le e.id.r l
  refine pcall_intro tab_all tab_mixed Tryz.func219 (by kernel_rfl) Tryz.ntmps219 rfl ?_
  conv => whnf
  conv => whnf
  repeat (first | (refine Conf.mk (by kernel_rfl) ?_; conv => whnf) | (refine SeqOk.go ?_; conv => whnf))
  refine .data _ _ (siteCount_ok l (by omega) e.id.r) rfl ?_
  conv => whnf
  repeat (first | (refine Conf.mk (by kernel_rfl) ?_; conv => whnf) | (refine SeqOk.go ?_; conv => whnf))
  have hw : IntKind.i64.wrap ((cnt e.id.r l : Int) + 1) = (cnt e.id.r l : Int) + 1 := wrap_id (by omega) (by omega)
  refine ⟨fun h => ?_, fun h => ?_⟩
  · have h : e.id.n ≠ (cnt e.id.r l : Int) + 1 := by
      rw [hw] at h
      simpa using h
    conv => whnf
    repeat (first | (refine Conf.mk (by kernel_rfl) ?_; conv => whnf) | (refine SeqOk.go ?_; conv => whnf))
    refine Ret.bool ?_
    unfold readyP
    rw [decide_eq_false h]
    rfl
  · have h : e.id.n = (cnt e.id.r l : Int) + 1 := by
      rw [hw] at h
      simpa using h
    conv => whnf
    repeat (first | (refine Conf.mk (by kernel_rfl) ?_; conv => whnf) | (refine SeqOk.go ?_; conv => whnf))
    refine .look _ _ (containsFunc_id he fun x _ => siteReady1_ok l (by omega) x) rfl rfl ?_
    conv => whnf
    repeat (first | (refine Conf.mk (by kernel_rfl) ?_; conv => whnf) | (refine SeqOk.go ?_; conv => whnf))
    refine Ret.bool ?_
    unfold readyP
    rw [decide_eq_true h, not_any_not]
    rfl
def sameE (a b : Entry') : Bool := isThe b.id a && (a.colors == b.colors && (decide (a.text = b.text) && sameIds a.links b.links))
theorem sameE_iff {a b : Entry'} : sameE a b = true ↔ a = b := by
  unfold sameE
  simp only [Bool.and_eq_true, isThe_iff, beq_iff_eq, decide_eq_true_eq, sameIds_iff]
  constructor
  · rintro ⟨h1, h2, h3, h4⟩
    cases a; cases b
    simp only at h1 h2 h3 h4
    rw [h1, h2, h3, h4]
  · rintro rfl
    exact ⟨rfl, rfl, rfl, rfl⟩
def sameL : List Entry' → List Entry' → Bool
  | [], [] => true
  | a :: t, b :: u => sameE a b && sameL t u
  | _, _ => false
theorem sameL_iff : ∀ {a b : List Entry'}, sameL a b = true ↔ a = b
  | [], [] => by simp [sameL]
  | [], b :: u => by simp [sameL]
  | a :: t, [] => by simp [sameL]
  | a :: t, b :: u => by simp [sameL, sameE_iff, sameL_iff (a := t) (b := u)]
set_option maxHeartbeats 0 in
theorem sameEntry_ok (a b : Entry') (ha : a.links.length ≤ 140737488355328) : PCall Tryz.prog 66 [a.arg, b.arg] (dBool (sameE a b)) := by
  refine pcall_intro tab_all tab_mixed Tryz.func66 (by kernel_rfl) Tryz.ntmps66 rfl ?_
  conv => whnf
  refine ⟨fun h1 => ?_, fun h1 => ?_⟩
  · have h1 : isThe b.id a = true := h1
    conv => whnf
    repeat (first | (refine Conf.mk (by kernel_rfl) ?_; conv => whnf) | (refine SeqOk.go ?_; conv => whnf))
    refine ⟨fun h2 => ?_, fun h2 => ?_⟩
    · have h2 : (a.colors == b.colors) = true := h2
      conv => whnf
      repeat (first | (refine Conf.mk (by kernel_rfl) ?_; conv => whnf) | (refine SeqOk.go ?_; conv => whnf))
      refine ⟨fun h3 => ?_, fun h3 => ?_⟩
      · have h3 : decide (a.text = b.text) = true := h3
        conv => whnf
        repeat (first | (refine Conf.mk (by kernel_rfl) ?_; conv => whnf) | (refine SeqOk.go ?_; conv => whnf))
        refine .data _ _ (sameIds_ok a.links b.links ha) rfl ?_
        conv => whnf
        repeat (first | (refine Conf.mk (by kernel_rfl) ?_; conv => whnf) | (refine SeqOk.go ?_; conv => whnf))
        exact Ret.bool (by unfold sameE; rw [h1, h2, h3]; rfl)
      · have h3 : decide (a.text = b.text) = false := h3
        conv => whnf
        repeat (first | (refine Conf.mk (by kernel_rfl) ?_; conv => whnf) | (refine SeqOk.go ?_; conv => whnf))
        exact Ret.bool (by unfold sameE; rw [h1, h2, h3]; rfl)
    · have h2 : (a.colors == b.colors) = false := h2
      conv => whnf
      repeat (first | (refine Conf.mk (by kernel_rfl) ?_; conv => whnf) | (refine SeqOk.go ?_; conv => whnf))
      exact Ret.bool (by unfold sameE; rw [h1, h2]; rfl)
  · have h1 : isThe b.id a = false := h1
    conv => whnf
    repeat (first | (refine Conf.mk (by kernel_rfl) ?_; conv => whnf) | (refine SeqOk.go ?_; conv => whnf))
    exact Ret.bool (by unfold sameE; rw [h1]; rfl)
theorem sameL_len : ∀ {a b : List Entry'}, a.length ≠ b.length → sameL a b = false := fun {a b} h => by
  rw [Bool.eq_false_iff]
  intro k
  exact h (by rw [sameL_iff.1 k])
set_option maxHeartbeats 0 in
theorem sameLog_ok (a b : List Entry') (ha : LogOk a) : PCall Tryz.prog 13 [.dat (.list (a.map Entry'.enc)), .dat (.list (b.map Entry'.enc))] (dBool (sameL a b)) := by
  have hlen := ha.len
  refine pcall_intro tab_all tab_mixed Tryz.func13 (by kernel_rfl) Tryz.ntmps13 rfl ?_
  conv => whnf
  conv => whnf
  repeat (first | (refine Conf.mk (by kernel_rfl) ?_; conv => whnf) | (refine SeqOk.go ?_; conv => whnf))
  refine ⟨fun h => ?_, fun h => ?_⟩
  · have h : a.length ≠ b.length := by simp at h; omega
    conv => whnf
    repeat (first | (refine Conf.mk (by kernel_rfl) ?_; conv => whnf) | (refine SeqOk.go ?_; conv => whnf))
    exact Ret.bool (sameL_len h).symm
  · have h : a.length = b.length := by simp at h; omega
    conv => whnf
    repeat (first | (refine Conf.mk (by kernel_rfl) ?_; conv => whnf) | (refine SeqOk.go ?_; conv => whnf))
    refine LoopOk.hide fun Q1 hQ1 => ?_
    refine LoopOk.mk (fun m s => ∃ i, i + m = a.length ∧ sameL a b = sameL (a.drop i) (b.drop i) ∧ s = ⟨[(5, dInt i), (0, .dat (.list (a.map Entry'.enc))), (1, .dat (.list (b.map Entry'.enc)))], 0, []⟩) a.length (Into.mono (Into.to [] [(5, dInt (0 : Nat)), (0, .dat (.list (a.map Entry'.enc))), (1, .dat (.list (b.map Entry'.enc)))] [] (by repeat (first | exact trivial | refine ⟨.same (congrArg dInt (wrap_up (by omega))), ?_⟩ | refine ⟨.same rfl, ?_⟩ | refine ⟨.any _, ?_⟩)) trivial rfl rfl) fun s' h => ⟨0, by omega, rfl, h⟩) ?_
    rintro m s ⟨i, him, hp, rfl⟩
    conv => whnf
    repeat (first | (refine Conf.mk (by kernel_rfl) ?_; conv => whnf) | (refine SeqOk.go ?_; conv => whnf))
    refine ⟨fun h3 => ?_, fun h3 => ?_⟩
    · have hia := lt_of_len h3
      have hib : i < b.length := by omega
      rw [List.drop_eq_getElem_cons hia, List.drop_eq_getElem_cons hib, sameL] at hp
      conv => whnf
      repeat (first | (refine Conf.mk (by kernel_rfl) ?_; conv => whnf) | (refine SeqOk.go ?_; conv => whnf))
      refine AtIdx.ofMap hia rfl ?_
      conv => whnf
      repeat (first | (refine Conf.mk (by kernel_rfl) ?_; conv => whnf) | (refine SeqOk.go ?_; conv => whnf))
      refine AtIdx.ofMap hib rfl ?_
      conv => whnf
      repeat (first | (refine Conf.mk (by kernel_rfl) ?_; conv => whnf) | (refine SeqOk.go ?_; conv => whnf))
      refine .data _ _ (sameEntry_ok a[i] b[i] (ha.links _ (List.getElem_mem hia))) rfl ?_
      conv => whnf
      repeat (first | (refine Conf.mk (by kernel_rfl) ?_; conv => whnf) | (refine SeqOk.go ?_; conv => whnf))
      refine ⟨fun h4 => ?_, fun h4 => ?_⟩
      · have h4 : sameE a[i] b[i] = false := by rw [← Bool.not_eq_true']; exact h4
        conv => whnf
        repeat (first | (refine Conf.mk (by kernel_rfl) ?_; conv => whnf) | (refine SeqOk.go ?_; conv => whnf))
        subst hQ1
        conv => whnf
        exact Ret.bool (by rw [hp, h4]; rfl)
      · have h4 : sameE a[i] b[i] = true := by rw [← Bool.not_eq_false']; exact h4
        rw [h4, Bool.true_and] at hp
        conv => whnf
        repeat (first | (refine Conf.mk (by kernel_rfl) ?_; conv => whnf) | (refine SeqOk.go ?_; conv => whnf))
        exact Into.mono (Into.to [] [(5, dInt (i + 1 : Nat)), (0, .dat (.list (a.map Entry'.enc))), (1, .dat (.list (b.map Entry'.enc)))] [] (by repeat (first | exact trivial | refine ⟨.same (congrArg dInt (wrap_up (by omega))), ?_⟩ | refine ⟨.same rfl, ?_⟩ | refine ⟨.any _, ?_⟩)) trivial rfl rfl) fun s' h => ⟨m - 1, by omega, i + 1, by omega, hp, h⟩
    · have hia := ge_of_len h3
      conv => whnf
      repeat (first | (refine Conf.mk (by kernel_rfl) ?_; conv => whnf) | (refine SeqOk.go ?_; conv => whnf))
      subst hQ1
      conv => whnf
      refine Ret.bool ?_
      rw [hp, List.drop_eq_nil_of_le hia, List.drop_eq_nil_of_le (by omega)]
      rfl
def sameS (a b : Site') : Bool := (a.region == b.region) && (sameL a.log b.log && sameL a.waits b.waits)
theorem sameS_iff {a b : Site'} : sameS a b = true ↔ a = b := by
  unfold sameS
  simp only [Bool.and_eq_true, beq_iff_eq, sameL_iff]
  constructor
  · rintro ⟨h1, h2, h3⟩
    cases a; cases b
    simp only at h1 h2 h3
    rw [h1, h2, h3]
  · rintro rfl
    exact ⟨rfl, rfl, rfl⟩
structure SiteOk (s : Site') : Prop where
  log : LogOk s.log
  waits : LogOk s.waits
set_option maxHeartbeats 0 in
theorem sameSite_ok (a b : Site') (ha : SiteOk a) : PCall Tryz.prog 128 [a.arg, b.arg] (dBool (sameS a b)) := by
  refine pcall_intro tab_all tab_mixed Tryz.func128 (by kernel_rfl) Tryz.ntmps128 rfl ?_
  conv => whnf
  refine ⟨fun h1 => ?_, fun h1 => ?_⟩
  · have h1 : (a.region == b.region) = true := h1
    conv => whnf
    repeat (first | (refine Conf.mk (by kernel_rfl) ?_; conv => whnf) | (refine SeqOk.go ?_; conv => whnf))
    refine .data _ _ (sameLog_ok a.log b.log ha.log) rfl ?_
    conv => whnf
    repeat (first | (refine Conf.mk (by kernel_rfl) ?_; conv => whnf) | (refine SeqOk.go ?_; conv => whnf))
    refine ⟨fun h2 => ?_, fun h2 => ?_⟩
    · have h2 : sameL a.log b.log = true := h2
      conv => whnf
      repeat (first | (refine Conf.mk (by kernel_rfl) ?_; conv => whnf) | (refine SeqOk.go ?_; conv => whnf))
      refine .data _ _ (sameLog_ok a.waits b.waits ha.waits) rfl ?_
      conv => whnf
      repeat (first | (refine Conf.mk (by kernel_rfl) ?_; conv => whnf) | (refine SeqOk.go ?_; conv => whnf))
      exact Ret.bool (by unfold sameS; rw [h1, h2]; rfl)
    · have h2 : sameL a.log b.log = false := h2
      conv => whnf
      repeat (first | (refine Conf.mk (by kernel_rfl) ?_; conv => whnf) | (refine SeqOk.go ?_; conv => whnf))
      exact Ret.bool (by unfold sameS; rw [h1, h2]; rfl)
  · have h1 : (a.region == b.region) = false := h1
    conv => whnf
    repeat (first | (refine Conf.mk (by kernel_rfl) ?_; conv => whnf) | (refine SeqOk.go ?_; conv => whnf))
    exact Ret.bool (by unfold sameS; rw [h1]; rfl)
end Go.Proofs.YtlioojekjnigiafGreat.AM
/- What came in, opened: sites. -/
namespace Go.Proofs.YtlioojekjnigiafGreat.AM
set_option linter.unusedVariables false
set_option linter.unusedSimpArgs false

def Site'.enc (s : Site') : List D := [.int .i64 s.region, .list (s.log.map Entry'.enc), .list (s.waits.map Entry'.enc)]
structure SiteIn (s : Site') : Prop where
  region : I64 s.region
  log : s.log.length * 64 ≤ 140737488351232
  logs : ∀ e ∈ s.log, EntryIn e
  waits : s.waits.length * 64 ≤ 140737488351232
  waitss : ∀ e ∈ s.waits, EntryIn e
theorem wt_site {n : Nat} {ds : List D} (h : WT tab (n + 6) 32 ds) : ∃ s : Site', ds = s.enc ∧ SiteIn s := by
  obtain ⟨a, y, rfl, h1, b, z, rfl, h2, c, u, rfl, h3, rfl⟩ := (h : ∃ a y, ds = a ++ y ∧ WT tab (n + 5) 3 a ∧ ∃ b z, y = b ++ z ∧ WT tab (n + 5) 22 b ∧ ∃ c u, z = c ++ u ∧ WT tab (n + 5) 22 c ∧ u = [])
  obtain ⟨r, rfl, hr⟩ := wt_int h1
  obtain ⟨l, rfl, hl, hl2⟩ := wt_log h2
  obtain ⟨w, rfl, hw, hw2⟩ := wt_log h3
  exact ⟨⟨r, l, w⟩, rfl, hr, hl, hl2, hw, hw2⟩
theorem siteOk_in {s : Site'} (h : SiteIn s) : SiteOk s := ⟨logOk_in h.log h.logs, logOk_in h.waits h.waitss⟩
end Go.Proofs.YtlioojekjnigiafGreat.AM
/- Logs: pasts of one that is a row of one's own. -/
namespace Go.Proofs.YtlioojekjnigiafGreat.AM
set_option linter.unusedVariables false
set_option linter.unusedSimpArgs false
set_option maxHeartbeats 0 in
theorem pastOfOwn_ok {cl : Nat} {p : Entry' → Bool} (c : Int) (l : List Entry') (hl : l.length ≤ 40) (h6 : ∀ e ∈ l, e.links.length ≤ 6) (hcl : ∀ e ∈ l, PCall Tryz.prog cl [e.arg, .dat (.ptr [.int .i64 c])] (dBool (p e))) :
    ECall Tryz.prog 97 [.row 0, .fn (.func cl) [] [.ptr 1 0]] [(0, .rows 28 5 (l.map Entry'.enc) true), (1, .vars 3 1 [dInt c] true)] 2 (.dat (.list ((sortIds (pastFold p l)).map Id.enc))) [(0, .rows 28 5 (l.map Entry'.enc) true), (1, .vars 3 1 [dInt c] true)] 0 := by
  refine acall_intro tab_all tab_mixed Tryz.func97 (by kernel_rfl) Tryz.ntmps97 rfl ?_
  conv => whnf
  refine LoopOk.hide fun Q1 hQ1 => ?_
  refine LoopOk.mk (fun m s => ∃ k, k + m = l.length ∧ s = ⟨[(6, dInt ((l.length : Int) - 1 - k)), (0, .row 0), (1, .fn (.func cl) [] [.ptr 1 0]), (5, .row 2)], 3, [(0, .rows 28 5 (l.map Entry'.enc) true), (1, .vars 3 1 [dInt c] true), (2, .rows 25 2 ((pastFold p (l.drop (l.length - k))).map Id.enc) true)]⟩) l.length ((Into.row 5 25 2 rfl).trans fun s' hs' => by
    subst hs'
    exact Into.mono (Into.to [0, 1, 2] [(6, dInt ((l.length : Int) - 1 - (0 : Nat))), (0, .row 0), (1, .fn (.func cl) [] [.ptr 1 0]), (5, .row 2)] [(0, .rows 28 5 (l.map Entry'.enc) true), (1, .vars 3 1 [dInt c] true), (2, .rows 25 2 ((pastFold p (l.drop (l.length - 0))).map Id.enc) true)] ⟨.same (congrArg dInt (by rw [wrap_id (by simp; omega) (by simp; omega)]; simp)), .same rfl, .same rfl, .same rfl, trivial⟩ ⟨⟨rfl, rfl, rfl, rfl⟩, ⟨rfl, rfl, rfl, .same rfl, rfl, trivial⟩, ⟨rfl, rfl, rfl, by rw [List.drop_of_length_le (by omega)]; rfl⟩, trivial⟩ rfl rfl) fun s' h => ⟨0, by omega, h⟩) ?_
  rintro m s ⟨k, hk, rfl⟩
  conv => whnf
  repeat (first | (refine Conf.mk (by kernel_rfl) ?_; conv => whnf) | (refine SeqOk.go ?_; conv => whnf))
  refine ⟨fun h => ?_, fun h => ?_⟩
  · have hk' : k < l.length := by simp at h; omega
    have hsub : ((l.length : Int) - 1 - k) = ((l.length - 1 - k : Nat) : Int) := by omega
    have hlt : l.length - 1 - k < l.length := by omega
    have hfl := pastFold_len p (l := l.drop (l.length - k)) fun e he => h6 e (List.mem_of_mem_drop he)
    rw [List.length_drop] at hfl
    have hst : pastFold p (l.drop (l.length - (k + 1))) = if p l[l.length - 1 - k] || (pastFold p (l.drop (l.length - k))).any (isId2 l[l.length - 1 - k].id) then joinIds (pastFold p (l.drop (l.length - k))) l[l.length - 1 - k].links else pastFold p (l.drop (l.length - k)) := by
      rw [drop_last hk']
      rfl
    conv => whnf
    repeat (first | (refine Conf.mk (by kernel_rfl) ?_; conv => whnf) | (refine SeqOk.go ?_; conv => whnf))
    refine AtIdx.ofMap' _ hsub hlt rfl ?_
    conv => whnf
    repeat (first | (refine Conf.mk (by kernel_rfl) ?_; conv => whnf) | (refine SeqOk.go ?_; conv => whnf))
    refine .mk _ (by rw [List.getElem?_map, List.getElem?_eq_getElem hlt]; rfl) ?_
    conv => whnf
    repeat (first | (refine Conf.mk (by kernel_rfl) ?_; conv => whnf) | (refine SeqOk.go ?_; conv => whnf))
    refine .look _ _ (hcl _ (List.getElem_mem hlt)) rfl rfl ?_
    conv => whnf
    repeat (first | (refine Conf.mk (by kernel_rfl) ?_; conv => whnf) | (refine SeqOk.go ?_; conv => whnf))
    refine ⟨fun h3 => ?_, fun h3 => ?_⟩
    · have hc : (p l[l.length - 1 - k] || (pastFold p (l.drop (l.length - k))).any (isId2 l[l.length - 1 - k].id)) = true := by rw [h3]; rfl
      conv => whnf
      repeat (first | (refine Conf.mk (by kernel_rfl) ?_; conv => whnf) | (refine SeqOk.go ?_; conv => whnf))
      refine AtIdx.ofMap' _ hsub hlt rfl ?_
      conv => whnf
      repeat (first | (refine Conf.mk (by kernel_rfl) ?_; conv => whnf) | (refine SeqOk.go ?_; conv => whnf))
      refine .mk _ (by rw [List.getElem?_map, List.getElem?_eq_getElem hlt]; rfl) ?_
      conv => whnf
      repeat (first | (refine Conf.mk (by kernel_rfl) ?_; conv => whnf) | (refine SeqOk.go ?_; conv => whnf))
      refine .eff [2] _ _ _ _ 1 (join_ok _ _ (by omega) (by have := h6 _ (List.getElem_mem hlt); omega)) rfl rfl rfl rfl rfl ?_
      conv => whnf
      repeat (first | (refine Conf.mk (by kernel_rfl) ?_; conv => whnf) | (refine SeqOk.go ?_; conv => whnf))
      refine Into.mono (Into.to [0, 1, 3] [(6, dInt ((l.length : Int) - 1 - (k + 1 : Nat))), (0, .row 0), (1, .fn (.func cl) [] [.ptr 1 0]), (5, .row 2)] [(0, .rows 28 5 (l.map Entry'.enc) true), (1, .vars 3 1 [dInt c] true), (2, .rows 25 2 ((pastFold p (l.drop (l.length - (k + 1)))).map Id.enc) true)] ⟨.same (congrArg dInt (by rw [wrap_id (by omega) (by omega)]; omega)), .same rfl, .same rfl, .same rfl, trivial⟩ ⟨⟨rfl, rfl, rfl, rfl⟩, ⟨rfl, rfl, rfl, .same rfl, rfl, trivial⟩, ⟨rfl, rfl, rfl, ?_⟩, trivial⟩ rfl rfl) fun s' h => ⟨m - 1, by omega, k + 1, by omega, h⟩
      rw [hst, if_pos hc]
    · conv => whnf
      repeat (first | (refine Conf.mk (by kernel_rfl) ?_; conv => whnf) | (refine SeqOk.go ?_; conv => whnf))
      refine AtIdx.ofMap' _ hsub hlt rfl ?_
      conv => whnf
      repeat (first | (refine Conf.mk (by kernel_rfl) ?_; conv => whnf) | (refine SeqOk.go ?_; conv => whnf))
      refine .mk _ (by rw [List.getElem?_map, List.getElem?_eq_getElem hlt]; rfl) ?_
      conv => whnf
      repeat (first | (refine Conf.mk (by kernel_rfl) ?_; conv => whnf) | (refine SeqOk.go ?_; conv => whnf))
      refine .look _ _ (containsId_ok l[l.length - 1 - k].id (pastFold p (l.drop (l.length - k))) (by omega)) rfl rfl ?_
      conv => whnf
      repeat (first | (refine Conf.mk (by kernel_rfl) ?_; conv => whnf) | (refine SeqOk.go ?_; conv => whnf))
      refine ⟨fun h4 => ?_, fun h4 => ?_⟩
      · have hc : (p l[l.length - 1 - k] || (pastFold p (l.drop (l.length - k))).any (isId2 l[l.length - 1 - k].id)) = true := by rw [h3, h4]; rfl
        conv => whnf
        repeat (first | (refine Conf.mk (by kernel_rfl) ?_; conv => whnf) | (refine SeqOk.go ?_; conv => whnf))
        refine AtIdx.ofMap' _ hsub hlt rfl ?_
        conv => whnf
        repeat (first | (refine Conf.mk (by kernel_rfl) ?_; conv => whnf) | (refine SeqOk.go ?_; conv => whnf))
        refine .mk _ (by rw [List.getElem?_map, List.getElem?_eq_getElem hlt]; rfl) ?_
        conv => whnf
        repeat (first | (refine Conf.mk (by kernel_rfl) ?_; conv => whnf) | (refine SeqOk.go ?_; conv => whnf))
        refine .eff [2] _ _ _ _ 1 (join_ok _ _ (by omega) (by have := h6 _ (List.getElem_mem hlt); omega)) rfl rfl rfl rfl rfl ?_
        conv => whnf
        repeat (first | (refine Conf.mk (by kernel_rfl) ?_; conv => whnf) | (refine SeqOk.go ?_; conv => whnf))
        refine Into.mono (Into.to [0, 1, 3] [(6, dInt ((l.length : Int) - 1 - (k + 1 : Nat))), (0, .row 0), (1, .fn (.func cl) [] [.ptr 1 0]), (5, .row 2)] [(0, .rows 28 5 (l.map Entry'.enc) true), (1, .vars 3 1 [dInt c] true), (2, .rows 25 2 ((pastFold p (l.drop (l.length - (k + 1)))).map Id.enc) true)] ⟨.same (congrArg dInt (by rw [wrap_id (by omega) (by omega)]; omega)), .same rfl, .same rfl, .same rfl, trivial⟩ ⟨⟨rfl, rfl, rfl, rfl⟩, ⟨rfl, rfl, rfl, .same rfl, rfl, trivial⟩, ⟨rfl, rfl, rfl, ?_⟩, trivial⟩ rfl rfl) fun s' h => ⟨m - 1, by omega, k + 1, by omega, h⟩
        rw [hst, if_pos hc]
      · conv => whnf
        repeat (first | (refine Conf.mk (by kernel_rfl) ?_; conv => whnf) | (refine SeqOk.go ?_; conv => whnf))
        refine Into.mono (Into.to [0, 1, 2] [(6, dInt ((l.length : Int) - 1 - (k + 1 : Nat))), (0, .row 0), (1, .fn (.func cl) [] [.ptr 1 0]), (5, .row 2)] [(0, .rows 28 5 (l.map Entry'.enc) true), (1, .vars 3 1 [dInt c] true), (2, .rows 25 2 ((pastFold p (l.drop (l.length - (k + 1)))).map Id.enc) true)] ⟨.same (congrArg dInt (by rw [wrap_id (by omega) (by omega)]; omega)), .same rfl, .same rfl, .same rfl, trivial⟩ ⟨⟨rfl, rfl, rfl, rfl⟩, ⟨rfl, rfl, rfl, .same rfl, rfl, trivial⟩, ⟨rfl, rfl, rfl, ?_⟩, trivial⟩ rfl rfl) fun s' h => ⟨m - 1, by omega, k + 1, by omega, h⟩
        rw [hst, if_neg (by rw [h3, h4]; simp)]
  · have hk' : k = l.length := by simp at h; omega
    subst hk'
    conv => whnf
    repeat (first | (refine Conf.mk (by kernel_rfl) ?_; conv => whnf) | (refine SeqOk.go ?_; conv => whnf))
    subst hQ1
    conv => whnf
    have hfl := pastFold_len p h6
    rw [show l.length - l.length = 0 by omega, List.drop_zero]
    refine .eff [2] _ _ _ _ 0 (sortFunc_ok _ (by omega)) rfl rfl rfl rfl rfl ?_
    conv => whnf
    repeat (first | (refine Conf.mk (by kernel_rfl) ?_; conv => whnf) | (refine SeqOk.go ?_; conv => whnf))
    exact .mk [2] [0, 1] (.dat (.list ((sortIds (pastFold p l)).map Id.enc))) [(0, .rows 28 5 (l.map Entry'.enc) true), (1, .vars 3 1 [dInt c] true)] rfl (.data rfl) ⟨⟨rfl, rfl, rfl, rfl⟩, ⟨rfl, rfl, rfl, .same rfl, rfl, trivial⟩, trivial⟩ rfl rfl ⟨rfl, rfl, rfl⟩
set_option maxHeartbeats 0 in
theorem idsOfOwn_ok {cl : Nat} {p : Entry' → Bool} (c : Int) (past : List Id) (l : List Entry') (hl : l.length ≤ 40) (hcl : ∀ e ∈ l, PCall Tryz.prog cl [e.arg, .dat (.ptr [.fn (.func 96) [] [.ptr [.int .i64 c]]]), .dat (.ptr [.list (past.map Id.enc)])] (dBool (p e))) :
    ECall Tryz.prog 98 [.row 0, .fn (.func cl) [] [.ptr 2 0, .ptr 3 0]] [(0, .rows 28 5 (l.map Entry'.enc) true), (1, .vars 3 1 [dInt c] true), (2, .vars 155 1 [.fn (.func 96) [] [.ptr 1 0]] true), (3, .vars 26 1 [.dat (.list (past.map Id.enc))] true)] 4 (.dat (.list ((sortIds ((l.filter p).map (·.id))).map Id.enc))) [(0, .rows 28 5 (l.map Entry'.enc) true), (1, .vars 3 1 [dInt c] true), (2, .vars 155 1 [.fn (.func 96) [] [.ptr 1 0]] true), (3, .vars 26 1 [.dat (.list (past.map Id.enc))] true)] 0 := by
  refine acall_intro tab_all tab_mixed Tryz.func98 (by kernel_rfl) Tryz.ntmps98 rfl ?_
  conv => whnf
  refine LoopOk.hide fun Q1 hQ1 => ?_
  refine LoopOk.mk (fun m s => ∃ k, k + m = l.length ∧ s = ⟨[(10, dInt k), (9, dInt (l.map Entry'.enc).length), (8, .row 0), (1, .fn (.func cl) [] [.ptr 2 0, .ptr 3 0]), (5, .row 4)], 5, [(0, .rows 28 5 (l.map Entry'.enc) true), (1, .vars 3 1 [dInt c] true), (2, .vars 155 1 [.fn (.func 96) [] [.ptr 1 0]] true), (3, .vars 26 1 [.dat (.list (past.map Id.enc))] true), (4, .rows 25 2 ((((l.take k).filter p).map (·.id)).map Id.enc) true)]⟩) l.length ((Into.row 5 25 2 rfl).trans fun s' hs' => by
    subst hs'
    exact Into.mono (Into.to [0, 1, 2, 3, 4] [(10, dInt (0 : Nat)), (9, dInt (l.map Entry'.enc).length), (8, .row 0), (1, .fn (.func cl) [] [.ptr 2 0, .ptr 3 0]), (5, .row 4)] [(0, .rows 28 5 (l.map Entry'.enc) true), (1, .vars 3 1 [dInt c] true), (2, .vars 155 1 [.fn (.func 96) [] [.ptr 1 0]] true), (3, .vars 26 1 [.dat (.list (past.map Id.enc))] true), (4, .rows 25 2 ((((l.take 0).filter p).map (·.id)).map Id.enc) true)] (by repeat (first | exact trivial | refine ⟨.same (congrArg dInt (wrap_up (by omega))), ?_⟩ | refine ⟨.same rfl, ?_⟩ | refine ⟨.any _, ?_⟩)) ⟨⟨rfl, rfl, rfl, rfl⟩, ⟨rfl, rfl, rfl, .same rfl, rfl, trivial⟩, ⟨rfl, rfl, rfl, .same rfl, rfl, trivial⟩, ⟨rfl, rfl, rfl, .same rfl, rfl, trivial⟩, ⟨rfl, rfl, rfl, rfl⟩, trivial⟩ rfl rfl) fun s' h => ⟨0, by omega, h⟩) ?_
  rintro m s ⟨k, hk, rfl⟩
  conv => whnf
  repeat (first | (refine Conf.mk (by kernel_rfl) ?_; conv => whnf) | (refine SeqOk.go ?_; conv => whnf))
  refine ⟨fun h => ?_, fun h => ?_⟩
  · have hk' : k < l.length := by simpa using h
    have hst := filter_snoc p (List.getElem?_eq_getElem hk')
    have hfl := List.length_filter_le p (l.take k)
    rw [List.length_take] at hfl
    conv => whnf
    repeat (first | (refine Conf.mk (by kernel_rfl) ?_; conv => whnf) | (refine SeqOk.go ?_; conv => whnf))
    refine AtIdx.ofMap hk' rfl ?_
    conv => whnf
    repeat (first | (refine Conf.mk (by kernel_rfl) ?_; conv => whnf) | (refine SeqOk.go ?_; conv => whnf))
    refine .mk _ (by rw [List.getElem?_map, List.getElem?_eq_getElem hk']; rfl) ?_
    conv => whnf
    repeat (first | (refine Conf.mk (by kernel_rfl) ?_; conv => whnf) | (refine SeqOk.go ?_; conv => whnf))
    refine .look _ _ (hcl _ (List.getElem_mem hk')) rfl rfl ?_
    conv => whnf
    repeat (first | (refine Conf.mk (by kernel_rfl) ?_; conv => whnf) | (refine SeqOk.go ?_; conv => whnf))
    refine ⟨fun h3 => ?_, fun h3 => ?_⟩
    · rw [if_pos h3] at hst
      conv => whnf
      repeat (first | (refine Conf.mk (by kernel_rfl) ?_; conv => whnf) | (refine SeqOk.go ?_; conv => whnf))
      refine ⟨by simp [Id.enc], by simp; omega, ?_⟩
      conv => whnf
      repeat (first | (refine Conf.mk (by kernel_rfl) ?_; conv => whnf) | (refine SeqOk.go ?_; conv => whnf))
      refine Into.mono (Into.to [0, 1, 2, 3, 7] [(10, dInt (k + 1 : Nat)), (9, dInt (l.map Entry'.enc).length), (8, .row 0), (1, .fn (.func cl) [] [.ptr 2 0, .ptr 3 0]), (5, .row 4)] [(0, .rows 28 5 (l.map Entry'.enc) true), (1, .vars 3 1 [dInt c] true), (2, .vars 155 1 [.fn (.func 96) [] [.ptr 1 0]] true), (3, .vars 26 1 [.dat (.list (past.map Id.enc))] true), (4, .rows 25 2 ((((l.take (k + 1)).filter p).map (·.id)).map Id.enc) true)] (by repeat (first | exact trivial | refine ⟨.same (congrArg dInt (wrap_up (by omega))), ?_⟩ | refine ⟨.same rfl, ?_⟩ | refine ⟨.any _, ?_⟩)) ⟨⟨rfl, rfl, rfl, rfl⟩, ⟨rfl, rfl, rfl, .same rfl, rfl, trivial⟩, ⟨rfl, rfl, rfl, .same rfl, rfl, trivial⟩, ⟨rfl, rfl, rfl, .same rfl, rfl, trivial⟩, ⟨rfl, rfl, rfl, ?_⟩, trivial⟩ rfl rfl) fun s' h => ⟨m - 1, by omega, k + 1, by omega, h⟩
      rw [hst, List.map_append, List.map_append]
      rfl
    · rw [if_neg (by simp [h3]), List.append_nil] at hst
      conv => whnf
      repeat (first | (refine Conf.mk (by kernel_rfl) ?_; conv => whnf) | (refine SeqOk.go ?_; conv => whnf))
      refine Into.mono (Into.to [0, 1, 2, 3, 4] [(10, dInt (k + 1 : Nat)), (9, dInt (l.map Entry'.enc).length), (8, .row 0), (1, .fn (.func cl) [] [.ptr 2 0, .ptr 3 0]), (5, .row 4)] [(0, .rows 28 5 (l.map Entry'.enc) true), (1, .vars 3 1 [dInt c] true), (2, .vars 155 1 [.fn (.func 96) [] [.ptr 1 0]] true), (3, .vars 26 1 [.dat (.list (past.map Id.enc))] true), (4, .rows 25 2 ((((l.take (k + 1)).filter p).map (·.id)).map Id.enc) true)] (by repeat (first | exact trivial | refine ⟨.same (congrArg dInt (wrap_up (by omega))), ?_⟩ | refine ⟨.same rfl, ?_⟩ | refine ⟨.any _, ?_⟩)) ⟨⟨rfl, rfl, rfl, rfl⟩, ⟨rfl, rfl, rfl, .same rfl, rfl, trivial⟩, ⟨rfl, rfl, rfl, .same rfl, rfl, trivial⟩, ⟨rfl, rfl, rfl, .same rfl, rfl, trivial⟩, ⟨rfl, rfl, rfl, ?_⟩, trivial⟩ rfl rfl) fun s' h => ⟨m - 1, by omega, k + 1, by omega, h⟩
      rw [hst]
  · have hk' : l.length ≤ k := by simpa using h
    rw [List.take_of_length_le hk']
    conv => whnf
    repeat (first | (refine Conf.mk (by kernel_rfl) ?_; conv => whnf) | (refine SeqOk.go ?_; conv => whnf))
    subst hQ1
    conv => whnf
    have hfl := List.length_filter_le p l
    refine .eff [4] _ _ _ _ 0 (sortFunc_ok _ (by rw [List.length_map]; omega)) rfl rfl rfl rfl rfl ?_
    conv => whnf
    repeat (first | (refine Conf.mk (by kernel_rfl) ?_; conv => whnf) | (refine SeqOk.go ?_; conv => whnf))
    exact .mk [4] [0, 1, 2, 3] (.dat (.list ((sortIds ((l.filter p).map (·.id))).map Id.enc))) [(0, .rows 28 5 (l.map Entry'.enc) true), (1, .vars 3 1 [dInt c] true), (2, .vars 155 1 [.fn (.func 96) [] [.ptr 1 0]] true), (3, .vars 26 1 [.dat (.list (past.map Id.enc))] true)] rfl (.data rfl) ⟨⟨rfl, rfl, rfl, rfl⟩, ⟨rfl, rfl, rfl, .same rfl, rfl, trivial⟩, ⟨rfl, rfl, rfl, .same rfl, rfl, trivial⟩, ⟨rfl, rfl, rfl, .same rfl, rfl, trivial⟩, trivial⟩ rfl rfl ⟨rfl, rfl, rfl⟩
end Go.Proofs.YtlioojekjnigiafGreat.AM
/- Logs: Heads of one that is a row of one's own; sites: the next entry of a site's own. -/
namespace Go.Proofs.YtlioojekjnigiafGreat.AM
set_option linter.unusedVariables false
set_option linter.unusedSimpArgs false
set_option maxHeartbeats 0 in
theorem headsOwn_ok (l : List Entry') (hr : Right l) (c : Int) : ECall Tryz.prog 25 [.row 0, dInt c] [(0, .rows 28 5 (l.map Entry'.enc) true)] 1 (.tup [.dat (.list ((headsAns l c).map Id.enc)), dInt (colErr l c)]) [(0, .rows 28 5 (l.map Entry'.enc) true)] 0 := by
  have h1 := right_iff.2 hr
  have hll := hr.len
  have hch := dagCheck_ok l hr.logOk
  rw [h1] at hch
  refine acall_intro tab_all tab_mixed Tryz.func25 (by kernel_rfl) Tryz.ntmps25 rfl ?_
  conv => whnf
  refine .look _ _ hch rfl rfl ?_
  conv => whnf
  repeat (first | (refine Conf.mk (by kernel_rfl) ?_; conv => whnf) | (refine SeqOk.go ?_; conv => whnf))
  refine BoolCase.no rfl ?_
  conv => whnf
  repeat (first | (refine Conf.mk (by kernel_rfl) ?_; conv => whnf) | (refine SeqOk.go ?_; conv => whnf))
  refine ⟨fun h2 => ?_, fun h2 => ?_⟩
  · have hc : c < 1 ∨ 7 < c := .inl (by simpa using h2)
    have he : colErr l c = 3 := by unfold colErr; rw [if_pos h1, if_pos hc]
    have ha : headsAns l c = [] := by unfold headsAns; rw [he]; rfl
    conv => whnf
    repeat (first | (refine Conf.mk (by kernel_rfl) ?_; conv => whnf) | (refine SeqOk.go ?_; conv => whnf))
    exact .mk [] [0] (.tup [.dat (.list []), dInt 3]) [(0, .rows 28 5 (l.map Entry'.enc) true)] rfl (.tups ⟨.data rfl, .same rfl, trivial⟩) ⟨⟨rfl, rfl, rfl, rfl⟩, trivial⟩ rfl rfl ⟨by rw [he, ha]; rfl, rfl, rfl⟩
  · have h2 : ¬ c < 1 := by simpa using h2
    conv => whnf
    repeat (first | (refine Conf.mk (by kernel_rfl) ?_; conv => whnf) | (refine SeqOk.go ?_; conv => whnf))
    refine ⟨fun h3 => ?_, fun h3 => ?_⟩
    · have hc : c < 1 ∨ 7 < c := .inr (by simpa using h3)
      have he : colErr l c = 3 := by unfold colErr; rw [if_pos h1, if_pos hc]
      have ha : headsAns l c = [] := by unfold headsAns; rw [he]; rfl
      conv => whnf
      repeat (first | (refine Conf.mk (by kernel_rfl) ?_; conv => whnf) | (refine SeqOk.go ?_; conv => whnf))
      exact .mk [] [0] (.tup [.dat (.list []), dInt 3]) [(0, .rows 28 5 (l.map Entry'.enc) true)] rfl (.tups ⟨.data rfl, .same rfl, trivial⟩) ⟨⟨rfl, rfl, rfl, rfl⟩, trivial⟩ rfl rfl ⟨by rw [he, ha]; rfl, rfl, rfl⟩
    · have h3 : ¬ 7 < c := by simpa using h3
      have he : colErr l c = 0 := by unfold colErr; rw [if_pos h1, if_neg (by omega)]
      have ha : headsAns l c = headsOf c l := by unfold headsAns; rw [he]; rfl
      conv => whnf
      repeat (first | (refine Conf.mk (by kernel_rfl) ?_; conv => whnf) | (refine SeqOk.go ?_; conv => whnf))
      refine .eff [0, 1] _ _ _ _ 0 (pastOfOwn_ok c l hr.len (fun e he => hr.six he) fun e _ => heads1_ok c e) rfl rfl rfl rfl rfl ?_
      conv => whnf
      repeat (first | (refine Conf.mk (by kernel_rfl) ?_; conv => whnf) | (refine SeqOk.go ?_; conv => whnf))
      have hfl := pastFold_len (fun e => bothOf e.colors c) (l := l) fun e he => hr.six he
      refine .eff [0, 1, 2, 3] _ _ _ _ 0 (idsOfOwn_ok c (sortIds (pastFold (fun e => bothOf e.colors c) l)) l hr.len fun e _ => heads2_ok c (sortIds (pastFold (fun e => bothOf e.colors c) l)) (by rw [sortIds_len]; omega) e) rfl rfl rfl rfl rfl ?_
      conv => whnf
      repeat (first | (refine Conf.mk (by kernel_rfl) ?_; conv => whnf) | (refine SeqOk.go ?_; conv => whnf))
      have hq : (fun e : Entry' => bothOf e.colors c && !(sortIds (pastFold (fun e => bothOf e.colors c) l)).any (isId2 e.id)) = fun e => bothOf e.colors c && !(pastFold (fun e => bothOf e.colors c) l).any (isId2 e.id) := funext fun e => by
        congr 2
        rw [Bool.eq_iff_iff, any_isId2, any_isId2, mem_sortIds]
      rw [hq]
      exact .mk [] [0] (.tup [.dat (.list ((headsOf c l).map Id.enc)), dInt 0]) [(0, .rows 28 5 (l.map Entry'.enc) true)] rfl (.tups ⟨.same rfl, .same rfl, trivial⟩) ⟨⟨rfl, rfl, rfl, rfl⟩, trivial⟩ rfl rfl ⟨by rw [he, ha], rfl, rfl⟩
def zeroE : Entry' := ⟨⟨0, 0⟩, 0, ByteArray.empty, []⟩
/-- The next entry of a region's own. -/
def newE (r : Int) (l : List Entry') (c : Int) (t : ByteArray) : Entry' := ⟨⟨r, (cnt r l : Int) + 1⟩, c, t, headsOf c l⟩
def nextErr (r : Int) (l : List Entry') (c : Int) (t : ByteArray) : Int :=
  if c < 1 ∨ 7 < c then 3 else if 12 < t.size ∨ 20 < cnt r l + 1 ∨ 6 < (headsOf c l).length then 2 else 0
def nextE (r : Int) (l : List Entry') (c : Int) (t : ByteArray) : Entry' := if nextErr r l c t = 0 then newE r l c t else zeroE
set_option maxHeartbeats 0 in
theorem next_ok (r : Int) (log ws : List Entry') (hr : Right log) (c : Int) (t : ByteArray) : ECall Tryz.prog 218 [.ptr 0 0, dInt c, .dat (.str t)] [(0, .vars 121 3 [dInt r, .row 1, .row 2] true), (1, .rows 28 5 (log.map Entry'.enc) true), (2, .rows 28 5 (ws.map Entry'.enc) true)] 3 (.tup [(nextE r log c t).arg, dInt (nextErr r log c t)]) [(0, .vars 121 3 [dInt r, .row 1, .row 2] true), (1, .rows 28 5 (log.map Entry'.enc) true), (2, .rows 28 5 (ws.map Entry'.enc) true)] 0 := by
  have h1 := right_iff.2 hr
  have hll := hr.len
  have hcl := cnt_le r log
  have hho := headsOwn_ok log hr c
  refine acall_intro tab_all tab_mixed Tryz.func218 (by kernel_rfl) Tryz.ntmps218 rfl ?_
  conv => whnf
  by_cases hc : c < 1 ∨ 7 < c
  · have he : colErr log c = 3 := by unfold colErr; rw [if_pos h1, if_pos hc]
    have hE : nextErr r log c t = 3 := by unfold nextErr; rw [if_pos hc]
    have hA : nextE r log c t = zeroE := by unfold nextE; rw [hE]; rfl
    rw [he] at hho
    refine .eff [1] _ _ _ _ 0 hho rfl rfl rfl rfl rfl ?_
    conv => whnf
    repeat (first | (refine Conf.mk (by kernel_rfl) ?_; conv => whnf) | (refine SeqOk.go ?_; conv => whnf))
    refine BoolCase.yes rfl ?_
    conv => whnf
    repeat (first | (refine Conf.mk (by kernel_rfl) ?_; conv => whnf) | (refine SeqOk.go ?_; conv => whnf))
    exact .mk [] [0, 1, 2] (.tup [zeroE.arg, dInt 3]) [(0, .vars 121 3 [dInt r, .row 1, .row 2] true), (1, .rows 28 5 (log.map Entry'.enc) true), (2, .rows 28 5 (ws.map Entry'.enc) true)] rfl (.tups ⟨.aggs ⟨.same rfl, .same rfl, .same rfl, .same rfl, .data rfl, trivial⟩, .same rfl, trivial⟩) ⟨⟨rfl, rfl, rfl, .same rfl, rfl, .same rfl, rfl, .same rfl, rfl, trivial⟩, ⟨rfl, rfl, rfl, rfl⟩, ⟨rfl, rfl, rfl, rfl⟩, trivial⟩ rfl rfl ⟨by rw [hE, hA], rfl, rfl⟩
  · have he : colErr log c = 0 := by unfold colErr; rw [if_pos h1, if_neg hc]
    have ha : headsAns log c = headsOf c log := by unfold headsAns; rw [he]; rfl
    rw [he, ha] at hho
    refine .eff [1] _ _ _ _ 0 hho rfl rfl rfl rfl rfl ?_
    conv => whnf
    repeat (first | (refine Conf.mk (by kernel_rfl) ?_; conv => whnf) | (refine SeqOk.go ?_; conv => whnf))
    refine BoolCase.no rfl ?_
    conv => whnf
    repeat (first | (refine Conf.mk (by kernel_rfl) ?_; conv => whnf) | (refine SeqOk.go ?_; conv => whnf))
    refine .look _ _ (siteCount_ok log (by omega) r) rfl rfl ?_
    conv => whnf
    repeat (first | (refine Conf.mk (by kernel_rfl) ?_; conv => whnf) | (refine SeqOk.go ?_; conv => whnf))
    refine ⟨fun h2 => ?_, fun h2 => ?_⟩
    · have hm : 12 < t.size ∨ 20 < cnt r log + 1 ∨ 6 < (headsOf c log).length := .inl (by simp at h2; omega)
      have hE : nextErr r log c t = 2 := by unfold nextErr; rw [if_neg hc, if_pos hm]
      have hA : nextE r log c t = zeroE := by unfold nextE; rw [hE]; rfl
      conv => whnf
      repeat (first | (refine Conf.mk (by kernel_rfl) ?_; conv => whnf) | (refine SeqOk.go ?_; conv => whnf))
      exact .mk [] [0, 1, 2] (.tup [zeroE.arg, dInt 2]) [(0, .vars 121 3 [dInt r, .row 1, .row 2] true), (1, .rows 28 5 (log.map Entry'.enc) true), (2, .rows 28 5 (ws.map Entry'.enc) true)] rfl (.tups ⟨.aggs ⟨.same rfl, .same rfl, .same rfl, .same rfl, .data rfl, trivial⟩, .same rfl, trivial⟩) ⟨⟨rfl, rfl, rfl, .same rfl, rfl, .same rfl, rfl, .same rfl, rfl, trivial⟩, ⟨rfl, rfl, rfl, rfl⟩, ⟨rfl, rfl, rfl, rfl⟩, trivial⟩ rfl rfl ⟨by rw [hE, hA], rfl, rfl⟩
    · have h2 : ¬ 12 < t.size := by simp at h2; omega
      conv => whnf
      repeat (first | (refine Conf.mk (by kernel_rfl) ?_; conv => whnf) | (refine SeqOk.go ?_; conv => whnf))
      refine ⟨fun h3 => ?_, fun h3 => ?_⟩
      · have hm : 12 < t.size ∨ 20 < cnt r log + 1 ∨ 6 < (headsOf c log).length := .inr (.inl (by rw [wrap_id (by omega) (by omega)] at h3; simp at h3; omega))
        have hE : nextErr r log c t = 2 := by unfold nextErr; rw [if_neg hc, if_pos hm]
        have hA : nextE r log c t = zeroE := by unfold nextE; rw [hE]; rfl
        conv => whnf
        repeat (first | (refine Conf.mk (by kernel_rfl) ?_; conv => whnf) | (refine SeqOk.go ?_; conv => whnf))
        exact .mk [] [0, 1, 2] (.tup [zeroE.arg, dInt 2]) [(0, .vars 121 3 [dInt r, .row 1, .row 2] true), (1, .rows 28 5 (log.map Entry'.enc) true), (2, .rows 28 5 (ws.map Entry'.enc) true)] rfl (.tups ⟨.aggs ⟨.same rfl, .same rfl, .same rfl, .same rfl, .data rfl, trivial⟩, .same rfl, trivial⟩) ⟨⟨rfl, rfl, rfl, .same rfl, rfl, .same rfl, rfl, .same rfl, rfl, trivial⟩, ⟨rfl, rfl, rfl, rfl⟩, ⟨rfl, rfl, rfl, rfl⟩, trivial⟩ rfl rfl ⟨by rw [hE, hA], rfl, rfl⟩
      · have h3 : ¬ 20 < cnt r log + 1 := by rw [wrap_id (by omega) (by omega)] at h3; simp at h3; omega
        conv => whnf
        repeat (first | (refine Conf.mk (by kernel_rfl) ?_; conv => whnf) | (refine SeqOk.go ?_; conv => whnf))
        refine ⟨fun h4 => ?_, fun h4 => ?_⟩
        · have hm : 12 < t.size ∨ 20 < cnt r log + 1 ∨ 6 < (headsOf c log).length := .inr (.inr (by simp at h4; omega))
          have hE : nextErr r log c t = 2 := by unfold nextErr; rw [if_neg hc, if_pos hm]
          have hA : nextE r log c t = zeroE := by unfold nextE; rw [hE]; rfl
          conv => whnf
          repeat (first | (refine Conf.mk (by kernel_rfl) ?_; conv => whnf) | (refine SeqOk.go ?_; conv => whnf))
          exact .mk [] [0, 1, 2] (.tup [zeroE.arg, dInt 2]) [(0, .vars 121 3 [dInt r, .row 1, .row 2] true), (1, .rows 28 5 (log.map Entry'.enc) true), (2, .rows 28 5 (ws.map Entry'.enc) true)] rfl (.tups ⟨.aggs ⟨.same rfl, .same rfl, .same rfl, .same rfl, .data rfl, trivial⟩, .same rfl, trivial⟩) ⟨⟨rfl, rfl, rfl, .same rfl, rfl, .same rfl, rfl, .same rfl, rfl, trivial⟩, ⟨rfl, rfl, rfl, rfl⟩, ⟨rfl, rfl, rfl, rfl⟩, trivial⟩ rfl rfl ⟨by rw [hE, hA], rfl, rfl⟩
        · have h4 : ¬ 6 < (headsOf c log).length := by simp at h4; omega
          have hE : nextErr r log c t = 0 := by unfold nextErr; rw [if_neg hc, if_neg (by simp only [not_or]; exact ⟨h2, h3, h4⟩)]
          have hA : nextE r log c t = newE r log c t := by unfold nextE; rw [hE]; rfl
          conv => whnf
          repeat (first | (refine Conf.mk (by kernel_rfl) ?_; conv => whnf) | (refine SeqOk.go ?_; conv => whnf))
          rw [wrap_id (by omega) (by omega)]
          exact .mk [] [0, 1, 2] (.tup [(newE r log c t).arg, dInt 0]) [(0, .vars 121 3 [dInt r, .row 1, .row 2] true), (1, .rows 28 5 (log.map Entry'.enc) true), (2, .rows 28 5 (ws.map Entry'.enc) true)] rfl (.same rfl) ⟨⟨rfl, rfl, rfl, .same rfl, rfl, .same rfl, rfl, .same rfl, rfl, trivial⟩, ⟨rfl, rfl, rfl, rfl⟩, ⟨rfl, rfl, rfl, rfl⟩, trivial⟩ rfl rfl ⟨by rw [hE, hA], rfl, rfl⟩
end Go.Proofs.YtlioojekjnigiafGreat.AM
/- Sites: what is wrong with one. -/
namespace Go.Proofs.YtlioojekjnigiafGreat.AM
set_option linter.unusedVariables false
set_option linter.unusedSimpArgs false

theorem siteRegion_ok (n : Int) : PCall Tryz.prog 59 [dInt n] (dBool (decide (n = 0) || decide (n = 1))) := by
  refine pcall_intro tab_all tab_mixed Tryz.func59 (by kernel_rfl) Tryz.ntmps59 rfl ?_
  conv => whnf
  refine ⟨fun h => ?_, fun h => ?_⟩
  · have h : n = 0 := by simpa using h
    conv => whnf
    exact Ret.bool (by simp [h])
  · have h : n ≠ 0 := by simpa using h
    conv => whnf
    exact Ret.bool (by simp only [h, decide_false, Bool.false_or]; rfl)
/-- Does a wait not stand behind the one ahead of it? -/
def badAhead (s : Site') (i : Nat) (x : Entry') : Bool := decide (0 < i) && !(match s.waits[i - 1]? with | some p => p.id.less x.id | none => true)
def waitErr (s : Site') (i : Nat) (x : Entry') : Int :=
  if x.err ≠ 0 then x.err else if (badAhead s i x || (decide (x.id.r = s.region) || (s.log.any (isThe x.id) || readyP s.log x))) = true then 4 else 0
def waitsFrom (s : Site') : Nat → List Entry' → Int
  | _, [] => 0
  | i, x :: t => if waitErr s i x ≠ 0 then waitErr s i x else waitsFrom s (i + 1) t
def siteErr (s : Site') : Int :=
  if s.region ≠ 0 ∧ s.region ≠ 1 then 3 else if logErr s.log ≠ 0 then logErr s.log else if 20 < s.waits.length then 2 else waitsFrom s 0 s.waits
set_option maxHeartbeats 0 in
theorem checkWait_ok (s : Site') (hs : SiteOk s) (hl : s.log.length ≤ 40) (i : Nat) (hi : i < s.waits.length) : PCall Tryz.prog 139 [s.arg, dInt i] (dInt (waitErr s i s.waits[i])) := by
  have hwl := hs.waits.len
  have hlk := hs.waits.links _ (List.getElem_mem hi)
  refine pcall_intro tab_all tab_mixed Tryz.func139 (by kernel_rfl) Tryz.ntmps139 rfl ?_
  conv => whnf
  refine AtIdx.ofMap hi rfl ?_
  conv => whnf
  repeat (first | (refine Conf.mk (by kernel_rfl) ?_; conv => whnf) | (refine SeqOk.go ?_; conv => whnf))
  refine .data _ _ (check_ok s.waits[i] hlk) rfl ?_
  conv => whnf
  repeat (first | (refine Conf.mk (by kernel_rfl) ?_; conv => whnf) | (refine SeqOk.go ?_; conv => whnf))
  refine ⟨fun h1 => ?_, fun h1 => ?_⟩
  · have h1 : s.waits[i].err ≠ 0 := by simpa using h1
    conv => whnf
    repeat (first | (refine Conf.mk (by kernel_rfl) ?_; conv => whnf) | (refine SeqOk.go ?_; conv => whnf))
    exact Ret.int (by unfold waitErr; rw [if_pos h1])
  · have h1 : s.waits[i].err = 0 := by simpa using h1
    have he : waitErr s i s.waits[i] = if (badAhead s i s.waits[i] || (decide (s.waits[i].id.r = s.region) || (s.log.any (isThe s.waits[i].id) || readyP s.log s.waits[i]))) = true then 4 else 0 := by unfold waitErr; rw [if_neg (by simp [h1])]
    by_cases h0 : 0 < i
    · refine BoolCase.yes (by simpa using h0) ?_
      have hi1 : i - 1 < s.waits.length := by omega
      have hp : s.waits[i - 1]? = some s.waits[i - 1] := List.getElem?_eq_getElem hi1
      have hba : badAhead s i s.waits[i] = !s.waits[i - 1].id.less s.waits[i].id := by unfold badAhead; rw [hp, decide_eq_true h0]; rfl
      conv => whnf
      repeat (first | (refine Conf.mk (by kernel_rfl) ?_; conv => whnf) | (refine SeqOk.go ?_; conv => whnf))
      refine AtIdx.ofMap' (i - 1) (wrap_down h0 (by omega)) hi1 rfl ?_
      conv => whnf
      repeat (first | (refine Conf.mk (by kernel_rfl) ?_; conv => whnf) | (refine SeqOk.go ?_; conv => whnf))
      refine .data _ _ (less_ok s.waits[i - 1].id s.waits[i].id) rfl ?_
      conv => whnf
      repeat (first | (refine Conf.mk (by kernel_rfl) ?_; conv => whnf) | (refine SeqOk.go ?_; conv => whnf))
      refine ⟨fun h2 => ?_, fun h2 => ?_⟩
      · have h2 : (!s.waits[i - 1].id.less s.waits[i].id) = true := h2
        conv => whnf
        repeat (first | (refine Conf.mk (by kernel_rfl) ?_; conv => whnf) | (refine SeqOk.go ?_; conv => whnf))
        exact Ret.int (by rw [he, hba, h2]; rfl)
      · have h2 : (!s.waits[i - 1].id.less s.waits[i].id) = false := h2
        have hb : badAhead s i s.waits[i] = false := by rw [hba, h2]
        conv => whnf
        repeat (first | (refine Conf.mk (by kernel_rfl) ?_; conv => whnf) | (refine SeqOk.go ?_; conv => whnf))
        refine ⟨fun h3 => ?_, fun h3 => ?_⟩
        · have h3 : s.waits[i].id.r = s.region := by simpa using h3
          conv => whnf
          repeat (first | (refine Conf.mk (by kernel_rfl) ?_; conv => whnf) | (refine SeqOk.go ?_; conv => whnf))
          exact Ret.int (by rw [he, hb, decide_eq_true h3]; rfl)
        · have h3 : s.waits[i].id.r ≠ s.region := by simpa using h3
          conv => whnf
          repeat (first | (refine Conf.mk (by kernel_rfl) ?_; conv => whnf) | (refine SeqOk.go ?_; conv => whnf))
          refine .data _ _ (siteHas_ok s.waits[i].id s.log (by omega)) rfl ?_
          conv => whnf
          repeat (first | (refine Conf.mk (by kernel_rfl) ?_; conv => whnf) | (refine SeqOk.go ?_; conv => whnf))
          refine ⟨fun h4 => ?_, fun h4 => ?_⟩
          · have h4 : s.log.any (isThe s.waits[i].id) = true := h4
            conv => whnf
            repeat (first | (refine Conf.mk (by kernel_rfl) ?_; conv => whnf) | (refine SeqOk.go ?_; conv => whnf))
            exact Ret.int (by rw [he, hb, decide_eq_false h3, h4]; rfl)
          · have h4 : s.log.any (isThe s.waits[i].id) = false := h4
            conv => whnf
            repeat (first | (refine Conf.mk (by kernel_rfl) ?_; conv => whnf) | (refine SeqOk.go ?_; conv => whnf))
            refine .data _ _ (siteReady_ok s.log (by omega) s.waits[i] (by have := (six_of h1).2; omega)) rfl ?_
            conv => whnf
            repeat (first | (refine Conf.mk (by kernel_rfl) ?_; conv => whnf) | (refine SeqOk.go ?_; conv => whnf))
            refine ⟨fun h5 => ?_, fun h5 => ?_⟩
            · have h5 : readyP s.log s.waits[i] = true := h5
              conv => whnf
              repeat (first | (refine Conf.mk (by kernel_rfl) ?_; conv => whnf) | (refine SeqOk.go ?_; conv => whnf))
              exact Ret.int (by rw [he, hb, decide_eq_false h3, h4, h5]; rfl)
            · have h5 : readyP s.log s.waits[i] = false := h5
              conv => whnf
              repeat (first | (refine Conf.mk (by kernel_rfl) ?_; conv => whnf) | (refine SeqOk.go ?_; conv => whnf))
              exact Ret.int (by rw [he, hb, decide_eq_false h3, h4, h5]; rfl)
    · have hb : badAhead s i s.waits[i] = false := by unfold badAhead; rw [decide_eq_false h0]; rfl
      refine BoolCase.no (by simpa using h0) ?_
      conv => whnf
      repeat (first | (refine Conf.mk (by kernel_rfl) ?_; conv => whnf) | (refine SeqOk.go ?_; conv => whnf))
      refine ⟨fun h3 => ?_, fun h3 => ?_⟩
      · have h3 : s.waits[i].id.r = s.region := by simpa using h3
        conv => whnf
        repeat (first | (refine Conf.mk (by kernel_rfl) ?_; conv => whnf) | (refine SeqOk.go ?_; conv => whnf))
        exact Ret.int (by rw [he, hb, decide_eq_true h3]; rfl)
      · have h3 : s.waits[i].id.r ≠ s.region := by simpa using h3
        conv => whnf
        repeat (first | (refine Conf.mk (by kernel_rfl) ?_; conv => whnf) | (refine SeqOk.go ?_; conv => whnf))
        refine .data _ _ (siteHas_ok s.waits[i].id s.log (by omega)) rfl ?_
        conv => whnf
        repeat (first | (refine Conf.mk (by kernel_rfl) ?_; conv => whnf) | (refine SeqOk.go ?_; conv => whnf))
        refine ⟨fun h4 => ?_, fun h4 => ?_⟩
        · have h4 : s.log.any (isThe s.waits[i].id) = true := h4
          conv => whnf
          repeat (first | (refine Conf.mk (by kernel_rfl) ?_; conv => whnf) | (refine SeqOk.go ?_; conv => whnf))
          exact Ret.int (by rw [he, hb, decide_eq_false h3, h4]; rfl)
        · have h4 : s.log.any (isThe s.waits[i].id) = false := h4
          conv => whnf
          repeat (first | (refine Conf.mk (by kernel_rfl) ?_; conv => whnf) | (refine SeqOk.go ?_; conv => whnf))
          refine .data _ _ (siteReady_ok s.log (by omega) s.waits[i] (by have := (six_of h1).2; omega)) rfl ?_
          conv => whnf
          repeat (first | (refine Conf.mk (by kernel_rfl) ?_; conv => whnf) | (refine SeqOk.go ?_; conv => whnf))
          refine ⟨fun h5 => ?_, fun h5 => ?_⟩
          · have h5 : readyP s.log s.waits[i] = true := h5
            conv => whnf
            repeat (first | (refine Conf.mk (by kernel_rfl) ?_; conv => whnf) | (refine SeqOk.go ?_; conv => whnf))
            exact Ret.int (by rw [he, hb, decide_eq_false h3, h4, h5]; rfl)
          · have h5 : readyP s.log s.waits[i] = false := h5
            conv => whnf
            repeat (first | (refine Conf.mk (by kernel_rfl) ?_; conv => whnf) | (refine SeqOk.go ?_; conv => whnf))
            exact Ret.int (by rw [he, hb, decide_eq_false h3, h4, h5]; rfl)
theorem waits_wrong {s : Site'} {i : Nat} (hi : i < s.waits.length) (h : waitErr s i s.waits[i] ≠ 0) : waitsFrom s i (s.waits.drop i) = waitErr s i s.waits[i] := by
  rw [List.drop_eq_getElem_cons hi, waitsFrom, if_pos h]
theorem waits_right {s : Site'} {i : Nat} (hi : i < s.waits.length) (h : waitErr s i s.waits[i] = 0) : waitsFrom s i (s.waits.drop i) = waitsFrom s (i + 1) (s.waits.drop (i + 1)) := by
  rw [List.drop_eq_getElem_cons hi, waitsFrom, if_neg (by simp [h])]
set_option maxHeartbeats 0 in
theorem siteCheck_ok (s : Site') (hs : SiteOk s) : PCall Tryz.prog 56 [s.arg] (dInt (siteErr s)) := by
  have hwl := hs.waits.len
  have hrg := siteRegion_ok s.region
  refine pcall_intro tab_all tab_mixed Tryz.func56 (by kernel_rfl) Tryz.ntmps56 rfl ?_
  conv => whnf
  by_cases h0 : s.region = 0 ∨ s.region = 1
  · rw [show (decide (s.region = 0) || decide (s.region = 1)) = true by simpa using h0] at hrg
    refine .data _ _ hrg.kb rfl ?_
    conv => whnf
    repeat (first | (refine Conf.mk (by kernel_rfl) ?_; conv => whnf) | (refine SeqOk.go ?_; conv => whnf))
    refine .data _ _ (dagCheck_ok s.log hs.log) rfl ?_
    conv => whnf
    repeat (first | (refine Conf.mk (by kernel_rfl) ?_; conv => whnf) | (refine SeqOk.go ?_; conv => whnf))
    refine ⟨fun h1 => ?_, fun h1 => ?_⟩
    · have h1 : logErr s.log ≠ 0 := by simpa using h1
      conv => whnf
      repeat (first | (refine Conf.mk (by kernel_rfl) ?_; conv => whnf) | (refine SeqOk.go ?_; conv => whnf))
      exact Ret.int (by unfold siteErr; rw [if_neg (by omega), if_pos h1])
    · have h1 : logErr s.log = 0 := by simpa using h1
      have hr := right_iff.1 h1
      have hll := hr.len
      conv => whnf
      repeat (first | (refine Conf.mk (by kernel_rfl) ?_; conv => whnf) | (refine SeqOk.go ?_; conv => whnf))
      refine ⟨fun h2 => ?_, fun h2 => ?_⟩
      · have h2 : 20 < s.waits.length := by simp at h2; omega
        conv => whnf
        repeat (first | (refine Conf.mk (by kernel_rfl) ?_; conv => whnf) | (refine SeqOk.go ?_; conv => whnf))
        exact Ret.int (by unfold siteErr; rw [if_neg (by omega), if_neg (by simp [h1]), if_pos h2])
      · have h2 : ¬ 20 < s.waits.length := by simp at h2; omega
        have he : siteErr s = waitsFrom s 0 s.waits := by unfold siteErr; rw [if_neg (by omega), if_neg (by simp [h1]), if_neg h2]
        conv => whnf
        repeat (first | (refine Conf.mk (by kernel_rfl) ?_; conv => whnf) | (refine SeqOk.go ?_; conv => whnf))
        refine LoopOk.hide fun Q1 hQ1 => ?_
        refine LoopOk.mk (fun m t => ∃ i, i + m = s.waits.length ∧ siteErr s = waitsFrom s i (s.waits.drop i) ∧ t = ⟨[(23, dInt i), (22, dInt (s.waits.map Entry'.enc).length), (1, .ptr 0 0)], 1, [(0, .vars 32 3 [dInt s.region, .dat (.list (s.log.map Entry'.enc)), .dat (.list (s.waits.map Entry'.enc))] true)]⟩) s.waits.length (Into.mono (Into.to [0] [(23, dInt (0 : Nat)), (22, dInt (s.waits.map Entry'.enc).length), (1, .ptr 0 0)] [(0, .vars 32 3 [dInt s.region, .dat (.list (s.log.map Entry'.enc)), .dat (.list (s.waits.map Entry'.enc))] true)] (by repeat (first | exact trivial | refine ⟨.same (congrArg dInt (wrap_up (by omega))), ?_⟩ | refine ⟨.same rfl, ?_⟩ | refine ⟨.any _, ?_⟩)) ⟨⟨rfl, rfl, rfl, .same rfl, rfl, .same rfl, rfl, .same rfl, rfl, trivial⟩, trivial⟩ rfl rfl) fun s' h => ⟨0, by omega, he, h⟩) ?_
        rintro m t ⟨i, him, hp, rfl⟩
        conv => whnf
        repeat (first | (refine Conf.mk (by kernel_rfl) ?_; conv => whnf) | (refine SeqOk.go ?_; conv => whnf))
        refine ⟨fun h3 => ?_, fun h3 => ?_⟩
        · have hi := lt_of_len h3
          conv => whnf
          repeat (first | (refine Conf.mk (by kernel_rfl) ?_; conv => whnf) | (refine SeqOk.go ?_; conv => whnf))
          refine .data _ _ (checkWait_ok s hs hll i hi) rfl ?_
          conv => whnf
          repeat (first | (refine Conf.mk (by kernel_rfl) ?_; conv => whnf) | (refine SeqOk.go ?_; conv => whnf))
          refine ⟨fun h4 => ?_, fun h4 => ?_⟩
          · have h4 : waitErr s i s.waits[i] ≠ 0 := by simpa using h4
            conv => whnf
            repeat (first | (refine Conf.mk (by kernel_rfl) ?_; conv => whnf) | (refine SeqOk.go ?_; conv => whnf))
            subst hQ1
            conv => whnf
            exact Ret.int (by rw [hp, waits_wrong hi h4])
          · have h4 : waitErr s i s.waits[i] = 0 := by simpa using h4
            rw [waits_right hi h4] at hp
            conv => whnf
            repeat (first | (refine Conf.mk (by kernel_rfl) ?_; conv => whnf) | (refine SeqOk.go ?_; conv => whnf))
            exact Into.mono (Into.to [0] [(23, dInt (i + 1 : Nat)), (22, dInt (s.waits.map Entry'.enc).length), (1, .ptr 0 0)] [(0, .vars 32 3 [dInt s.region, .dat (.list (s.log.map Entry'.enc)), .dat (.list (s.waits.map Entry'.enc))] true)] (by repeat (first | exact trivial | refine ⟨.same (congrArg dInt (wrap_up (by omega))), ?_⟩ | refine ⟨.same rfl, ?_⟩ | refine ⟨.any _, ?_⟩)) ⟨⟨rfl, rfl, rfl, .same rfl, rfl, .same rfl, rfl, .same rfl, rfl, trivial⟩, trivial⟩ rfl rfl) fun s' h => ⟨m - 1, by omega, i + 1, by omega, hp, h⟩
        · have hi := ge_of_len h3
          conv => whnf
          repeat (first | (refine Conf.mk (by kernel_rfl) ?_; conv => whnf) | (refine SeqOk.go ?_; conv => whnf))
          subst hQ1
          conv => whnf
          exact Ret.int (by rw [hp, List.drop_eq_nil_of_le hi]; rfl)
  · rw [show (decide (s.region = 0) || decide (s.region = 1)) = false by simpa using h0] at hrg
    refine .data _ _ hrg.kb rfl ?_
    conv => whnf
    repeat (first | (refine Conf.mk (by kernel_rfl) ?_; conv => whnf) | (refine SeqOk.go ?_; conv => whnf))
    exact Ret.int (by unfold siteErr; rw [if_pos (by omega)])
end Go.Proofs.YtlioojekjnigiafGreat.AM
/- Sites: what is wrong with one, as the document says. -/
namespace Go.Proofs.YtlioojekjnigiafGreat.AM
set_option linter.unusedVariables false
set_option linter.unusedSimpArgs false
set_option maxHeartbeats 0 in
theorem refReady_ok (l : List Entry') (hl : l.length ≤ 40) (hr : ∀ e ∈ l, e.id.r = 0 ∨ e.id.r = 1) (e : Entry') (he : e.links.length ≤ 140737488355327) (hreg : e.id.r = 0 ∨ e.id.r = 1) : PCall Tryz.prog 210 [.dat (.list (l.map Entry'.enc)), e.arg] (dBool (readyP l e)) := by
  have c0 := cnt_le 0 l
  have c1 := cnt_le 1 l
  refine pcall_intro tab_all tab_mixed Tryz.func210 (by kernel_rfl) Tryz.ntmps210 rfl ?_
  conv => whnf
  refine LoopOk.hide fun Q1 hQ1 => ?_
  refine LoopOk.mk (fun m s => ∃ i, i + m = e.links.length ∧ (e.links.all fun x => l.any (isThe x)) = ((e.links.drop i).all fun x => l.any (isThe x)) ∧ s = ⟨[(5, dInt i), (0, .dat (.list (l.map Entry'.enc))), (3, .ptr 0 0)], 1, [(0, .vars 28 5 [dInt e.id.r, dInt e.id.n, dInt e.colors, .dat (.str e.text), .dat (.list (e.links.map Id.enc))] true)]⟩) e.links.length (Into.mono (Into.to [0] [(5, dInt (0 : Nat)), (0, .dat (.list (l.map Entry'.enc))), (3, .ptr 0 0)] [(0, .vars 28 5 [dInt e.id.r, dInt e.id.n, dInt e.colors, .dat (.str e.text), .dat (.list (e.links.map Id.enc))] true)] (by repeat (first | exact trivial | refine ⟨.same (congrArg dInt (wrap_up (by omega))), ?_⟩ | refine ⟨.same rfl, ?_⟩ | refine ⟨.any _, ?_⟩)) ⟨⟨rfl, rfl, rfl, .same rfl, rfl, .same rfl, rfl, .same rfl, rfl, .same rfl, rfl, .same rfl, rfl, trivial⟩, trivial⟩ rfl rfl) fun s' h => ⟨0, by omega, rfl, h⟩) ?_
  rintro m s ⟨i, him, hp, rfl⟩
  conv => whnf
  repeat (first | (refine Conf.mk (by kernel_rfl) ?_; conv => whnf) | (refine SeqOk.go ?_; conv => whnf))
  refine ⟨fun h3 => ?_, fun h3 => ?_⟩
  · have hi := lt_of_len h3
    rw [List.drop_eq_getElem_cons hi, List.all_cons] at hp
    conv => whnf
    repeat (first | (refine Conf.mk (by kernel_rfl) ?_; conv => whnf) | (refine SeqOk.go ?_; conv => whnf))
    refine AtIdx.ofMap hi rfl ?_
    conv => whnf
    repeat (first | (refine Conf.mk (by kernel_rfl) ?_; conv => whnf) | (refine SeqOk.go ?_; conv => whnf))
    refine .data _ _ (entryAt_ok e.links[i] l (by omega)) rfl ?_
    conv => whnf
    repeat (first | (refine Conf.mk (by kernel_rfl) ?_; conv => whnf) | (refine SeqOk.go ?_; conv => whnf))
    refine ⟨fun h4 => ?_, fun h4 => ?_⟩
    · have h4 : l.any (isThe e.links[i]) = false := by
        rw [Bool.eq_false_iff]
        intro k
        have := entryAt_iff.2 k
        simp at h4
        omega
      conv => whnf
      repeat (first | (refine Conf.mk (by kernel_rfl) ?_; conv => whnf) | (refine SeqOk.go ?_; conv => whnf))
      subst hQ1
      conv => whnf
      refine Ret.bool ?_
      unfold readyP
      rw [hp, h4, Bool.false_and, Bool.and_false]
    · have h4 : l.any (isThe e.links[i]) = true := entryAt_iff.1 (by simpa using h4)
      rw [h4, Bool.true_and] at hp
      conv => whnf
      repeat (first | (refine Conf.mk (by kernel_rfl) ?_; conv => whnf) | (refine SeqOk.go ?_; conv => whnf))
      exact Into.mono (Into.to [0] [(5, dInt (i + 1 : Nat)), (0, .dat (.list (l.map Entry'.enc))), (3, .ptr 0 0)] [(0, .vars 28 5 [dInt e.id.r, dInt e.id.n, dInt e.colors, .dat (.str e.text), .dat (.list (e.links.map Id.enc))] true)] (by repeat (first | exact trivial | refine ⟨.same (congrArg dInt (wrap_up (by omega))), ?_⟩ | refine ⟨.same rfl, ?_⟩ | refine ⟨.any _, ?_⟩)) ⟨⟨rfl, rfl, rfl, .same rfl, rfl, .same rfl, rfl, .same rfl, rfl, .same rfl, rfl, .same rfl, rfl, trivial⟩, trivial⟩ rfl rfl) fun s' h => ⟨m - 1, by omega, i + 1, by omega, hp, h⟩
  · have hi := ge_of_len h3
    rw [List.drop_eq_nil_of_le hi] at hp
    conv => whnf
    repeat (first | (refine Conf.mk (by kernel_rfl) ?_; conv => whnf) | (refine SeqOk.go ?_; conv => whnf))
    subst hQ1
    conv => whnf
    repeat (first | (refine Conf.mk (by kernel_rfl) ?_; conv => whnf) | (refine SeqOk.go ?_; conv => whnf))
    refine .data _ _ (countOf_ok l (by omega) hr) rfl ?_
    conv => whnf
    repeat (first | (refine Conf.mk (by kernel_rfl) ?_; conv => whnf) | (refine SeqOk.go ?_; conv => whnf))
    rcases hreg with h1 | h1
    · refine .mk 0 h1 (by decide) ?_
      conv => whnf
      repeat (first | (refine Conf.mk (by kernel_rfl) ?_; conv => whnf) | (refine SeqOk.go ?_; conv => whnf))
      refine Ret.bool ?_
      unfold readyP
      rw [hp, h1, wrap_id (by omega) (by omega), List.all_nil, Bool.and_true, Bool.eq_iff_iff]
      simp
      omega
    · refine .mk 1 h1 (by decide) ?_
      conv => whnf
      repeat (first | (refine Conf.mk (by kernel_rfl) ?_; conv => whnf) | (refine SeqOk.go ?_; conv => whnf))
      refine Ret.bool ?_
      unfold readyP
      rw [hp, h1, wrap_id (by omega) (by omega), List.all_nil, Bool.and_true, Bool.eq_iff_iff]
      simp
      omega
set_option maxHeartbeats 0 in
theorem checkSite_ok (s : Site') (hs : SiteOk s) : PCall Tryz.prog 120 [s.arg] (dInt (siteErr s)) := by
  have hwl := hs.waits.len
  have hrg := between_ok s.region 0 1
  refine pcall_intro tab_all tab_mixed Tryz.func120 (by kernel_rfl) Tryz.ntmps120 rfl ?_
  conv => whnf
  by_cases h0 : s.region = 0 ∨ s.region = 1
  · rw [show (decide (0 ≤ s.region) && decide (s.region ≤ 1)) = true by simp; omega] at hrg
    refine .data _ _ hrg.kb rfl ?_
    conv => whnf
    repeat (first | (refine Conf.mk (by kernel_rfl) ?_; conv => whnf) | (refine SeqOk.go ?_; conv => whnf))
    refine .data _ _ (checkLog_ok s.log hs.log) rfl ?_
    conv => whnf
    repeat (first | (refine Conf.mk (by kernel_rfl) ?_; conv => whnf) | (refine SeqOk.go ?_; conv => whnf))
    refine ⟨fun h1 => ?_, fun h1 => ?_⟩
    · have h1 : logErr s.log ≠ 0 := by simpa using h1
      conv => whnf
      repeat (first | (refine Conf.mk (by kernel_rfl) ?_; conv => whnf) | (refine SeqOk.go ?_; conv => whnf))
      exact Ret.int (by unfold siteErr; rw [if_neg (by omega), if_pos h1])
    · have h1 : logErr s.log = 0 := by simpa using h1
      have hr := right_iff.1 h1
      have hll := hr.len
      conv => whnf
      repeat (first | (refine Conf.mk (by kernel_rfl) ?_; conv => whnf) | (refine SeqOk.go ?_; conv => whnf))
      refine ⟨fun h2 => ?_, fun h2 => ?_⟩
      · have h2 : 20 < s.waits.length := by simp at h2; omega
        conv => whnf
        repeat (first | (refine Conf.mk (by kernel_rfl) ?_; conv => whnf) | (refine SeqOk.go ?_; conv => whnf))
        exact Ret.int (by unfold siteErr; rw [if_neg (by omega), if_neg (by simp [h1]), if_pos h2])
      · have h2 : ¬ 20 < s.waits.length := by simp at h2; omega
        have he : siteErr s = waitsFrom s 0 s.waits := by unfold siteErr; rw [if_neg (by omega), if_neg (by simp [h1]), if_neg h2]
        conv => whnf
        repeat (first | (refine Conf.mk (by kernel_rfl) ?_; conv => whnf) | (refine SeqOk.go ?_; conv => whnf))
        refine LoopOk.hide fun Q1 hQ1 => ?_
        refine LoopOk.mk (fun m t => ∃ i, i + m = s.waits.length ∧ siteErr s = waitsFrom s i (s.waits.drop i) ∧ t = ⟨[(4, dInt i), (1, .ptr 0 0)], 1, [(0, .vars 32 3 [dInt s.region, .dat (.list (s.log.map Entry'.enc)), .dat (.list (s.waits.map Entry'.enc))] true)]⟩) s.waits.length (Into.mono (Into.to [0] [(4, dInt (0 : Nat)), (1, .ptr 0 0)] [(0, .vars 32 3 [dInt s.region, .dat (.list (s.log.map Entry'.enc)), .dat (.list (s.waits.map Entry'.enc))] true)] (by repeat (first | exact trivial | refine ⟨.same (congrArg dInt (wrap_up (by omega))), ?_⟩ | refine ⟨.same rfl, ?_⟩ | refine ⟨.any _, ?_⟩)) ⟨⟨rfl, rfl, rfl, .same rfl, rfl, .same rfl, rfl, .same rfl, rfl, trivial⟩, trivial⟩ rfl rfl) fun s' h => ⟨0, by omega, he, h⟩) ?_
        rintro m t ⟨i, him, hp, rfl⟩
        conv => whnf
        repeat (first | (refine Conf.mk (by kernel_rfl) ?_; conv => whnf) | (refine SeqOk.go ?_; conv => whnf))
        refine ⟨fun h3 => ?_, fun h3 => ?_⟩
        · have hi := lt_of_len h3
          have hlk := hs.waits.links _ (List.getElem_mem hi)
          conv => whnf
          repeat (first | (refine Conf.mk (by kernel_rfl) ?_; conv => whnf) | (refine SeqOk.go ?_; conv => whnf))
          refine AtIdx.ofMap hi rfl ?_
          conv => whnf
          repeat (first | (refine Conf.mk (by kernel_rfl) ?_; conv => whnf) | (refine SeqOk.go ?_; conv => whnf))
          refine .data _ _ (checkEntry_ok s.waits[i] hlk) rfl ?_
          conv => whnf
          repeat (first | (refine Conf.mk (by kernel_rfl) ?_; conv => whnf) | (refine SeqOk.go ?_; conv => whnf))
          refine ⟨fun h4 => ?_, fun h4 => ?_⟩
          · have h4 : s.waits[i].err ≠ 0 := by simpa using h4
            have hw : waitErr s i s.waits[i] = s.waits[i].err := by unfold waitErr; rw [if_pos h4]
            conv => whnf
            repeat (first | (refine Conf.mk (by kernel_rfl) ?_; conv => whnf) | (refine SeqOk.go ?_; conv => whnf))
            subst hQ1
            conv => whnf
            exact Ret.int (by rw [hp, waits_wrong hi (by rw [hw]; exact h4), hw])
          · have h4 : s.waits[i].err = 0 := by simpa using h4
            have hwe : waitErr s i s.waits[i] = if (badAhead s i s.waits[i] || (decide (s.waits[i].id.r = s.region) || (s.log.any (isThe s.waits[i].id) || readyP s.log s.waits[i]))) = true then 4 else 0 := by unfold waitErr; rw [if_neg (by simp [h4])]
            have hlinks := (six_of h4).2
            have hreg := r_of_ok (ok_of_err h4)
            by_cases h5 : 0 < i
            · refine BoolCase.yes (by simpa using h5) ?_
              have hi1 : i - 1 < s.waits.length := by omega
              have hpv : s.waits[i - 1]? = some s.waits[i - 1] := List.getElem?_eq_getElem hi1
              have hba : badAhead s i s.waits[i] = !s.waits[i - 1].id.less s.waits[i].id := by unfold badAhead; rw [hpv, decide_eq_true h5]; rfl
              conv => whnf
              repeat (first | (refine Conf.mk (by kernel_rfl) ?_; conv => whnf) | (refine SeqOk.go ?_; conv => whnf))
              refine AtIdx.ofMap' (i - 1) (wrap_down h5 (by omega)) hi1 rfl ?_
              conv => whnf
              repeat (first | (refine Conf.mk (by kernel_rfl) ?_; conv => whnf) | (refine SeqOk.go ?_; conv => whnf))
              refine .data _ _ (isAhead_ok s.waits[i - 1].id s.waits[i].id) rfl ?_
              conv => whnf
              repeat (first | (refine Conf.mk (by kernel_rfl) ?_; conv => whnf) | (refine SeqOk.go ?_; conv => whnf))
              refine ⟨fun h2 => ?_, fun h2 => ?_⟩
              · have h2 : (!s.waits[i - 1].id.less s.waits[i].id) = true := h2
                have hw : waitErr s i s.waits[i] = 4 := by rw [hwe, hba, h2]; rfl
                conv => whnf
                repeat (first | (refine Conf.mk (by kernel_rfl) ?_; conv => whnf) | (refine SeqOk.go ?_; conv => whnf))
                subst hQ1
                conv => whnf
                exact Ret.int (by rw [hp, waits_wrong hi (by rw [hw]; decide), hw])
              · have h2 : (!s.waits[i - 1].id.less s.waits[i].id) = false := h2
                have hb : badAhead s i s.waits[i] = false := by rw [hba, h2]
                conv => whnf
                repeat (first | (refine Conf.mk (by kernel_rfl) ?_; conv => whnf) | (refine SeqOk.go ?_; conv => whnf))
                refine ⟨fun h6 => ?_, fun h6 => ?_⟩
                · have h6 : s.waits[i].id.r = s.region := by simpa using h6
                  have hw : waitErr s i s.waits[i] = 4 := by rw [hwe, hb, decide_eq_true h6]; rfl
                  conv => whnf
                  repeat (first | (refine Conf.mk (by kernel_rfl) ?_; conv => whnf) | (refine SeqOk.go ?_; conv => whnf))
                  subst hQ1
                  conv => whnf
                  exact Ret.int (by rw [hp, waits_wrong hi (by rw [hw]; decide), hw])
                · have h6 : s.waits[i].id.r ≠ s.region := by simpa using h6
                  conv => whnf
                  repeat (first | (refine Conf.mk (by kernel_rfl) ?_; conv => whnf) | (refine SeqOk.go ?_; conv => whnf))
                  refine .data _ _ (entryAt_ok s.waits[i].id s.log (by omega)) rfl ?_
                  conv => whnf
                  repeat (first | (refine Conf.mk (by kernel_rfl) ?_; conv => whnf) | (refine SeqOk.go ?_; conv => whnf))
                  refine ⟨fun h7 => ?_, fun h7 => ?_⟩
                  · have h7 : s.log.any (isThe s.waits[i].id) = true := entryAt_iff.1 (by simpa using h7)
                    have hw : waitErr s i s.waits[i] = 4 := by rw [hwe, hb, decide_eq_false h6, h7]; rfl
                    conv => whnf
                    repeat (first | (refine Conf.mk (by kernel_rfl) ?_; conv => whnf) | (refine SeqOk.go ?_; conv => whnf))
                    subst hQ1
                    conv => whnf
                    exact Ret.int (by rw [hp, waits_wrong hi (by rw [hw]; decide), hw])
                  · have h7 : s.log.any (isThe s.waits[i].id) = false := by
                      rw [Bool.eq_false_iff]
                      intro k
                      have := entryAt_iff.2 k
                      simp at h7
                      omega
                    conv => whnf
                    repeat (first | (refine Conf.mk (by kernel_rfl) ?_; conv => whnf) | (refine SeqOk.go ?_; conv => whnf))
                    refine .data _ _ (refReady_ok s.log hll hr.regs s.waits[i] (by omega) hreg) rfl ?_
                    conv => whnf
                    repeat (first | (refine Conf.mk (by kernel_rfl) ?_; conv => whnf) | (refine SeqOk.go ?_; conv => whnf))
                    refine ⟨fun h8 => ?_, fun h8 => ?_⟩
                    · have h8 : readyP s.log s.waits[i] = true := h8
                      have hw : waitErr s i s.waits[i] = 4 := by rw [hwe, hb, decide_eq_false h6, h7, h8]; rfl
                      conv => whnf
                      repeat (first | (refine Conf.mk (by kernel_rfl) ?_; conv => whnf) | (refine SeqOk.go ?_; conv => whnf))
                      subst hQ1
                      conv => whnf
                      exact Ret.int (by rw [hp, waits_wrong hi (by rw [hw]; decide), hw])
                    · have h8 : readyP s.log s.waits[i] = false := h8
                      have hw : waitErr s i s.waits[i] = 0 := by rw [hwe, hb, decide_eq_false h6, h7, h8]; rfl
                      rw [waits_right hi hw] at hp
                      conv => whnf
                      repeat (first | (refine Conf.mk (by kernel_rfl) ?_; conv => whnf) | (refine SeqOk.go ?_; conv => whnf))
                      exact Into.mono (Into.to [0] [(4, dInt (i + 1 : Nat)), (1, .ptr 0 0)] [(0, .vars 32 3 [dInt s.region, .dat (.list (s.log.map Entry'.enc)), .dat (.list (s.waits.map Entry'.enc))] true)] (by repeat (first | exact trivial | refine ⟨.same (congrArg dInt (wrap_up (by omega))), ?_⟩ | refine ⟨.same rfl, ?_⟩ | refine ⟨.any _, ?_⟩)) ⟨⟨rfl, rfl, rfl, .same rfl, rfl, .same rfl, rfl, .same rfl, rfl, trivial⟩, trivial⟩ rfl rfl) fun s' h => ⟨m - 1, by omega, i + 1, by omega, hp, h⟩
            · have hb : badAhead s i s.waits[i] = false := by unfold badAhead; rw [decide_eq_false h5]; rfl
              refine BoolCase.no (by simpa using h5) ?_
              conv => whnf
              repeat (first | (refine Conf.mk (by kernel_rfl) ?_; conv => whnf) | (refine SeqOk.go ?_; conv => whnf))
              refine ⟨fun h6 => ?_, fun h6 => ?_⟩
              · have h6 : s.waits[i].id.r = s.region := by simpa using h6
                have hw : waitErr s i s.waits[i] = 4 := by rw [hwe, hb, decide_eq_true h6]; rfl
                conv => whnf
                repeat (first | (refine Conf.mk (by kernel_rfl) ?_; conv => whnf) | (refine SeqOk.go ?_; conv => whnf))
                subst hQ1
                conv => whnf
                exact Ret.int (by rw [hp, waits_wrong hi (by rw [hw]; decide), hw])
              · have h6 : s.waits[i].id.r ≠ s.region := by simpa using h6
                conv => whnf
                repeat (first | (refine Conf.mk (by kernel_rfl) ?_; conv => whnf) | (refine SeqOk.go ?_; conv => whnf))
                refine .data _ _ (entryAt_ok s.waits[i].id s.log (by omega)) rfl ?_
                conv => whnf
                repeat (first | (refine Conf.mk (by kernel_rfl) ?_; conv => whnf) | (refine SeqOk.go ?_; conv => whnf))
                refine ⟨fun h7 => ?_, fun h7 => ?_⟩
                · have h7 : s.log.any (isThe s.waits[i].id) = true := entryAt_iff.1 (by simpa using h7)
                  have hw : waitErr s i s.waits[i] = 4 := by rw [hwe, hb, decide_eq_false h6, h7]; rfl
                  conv => whnf
                  repeat (first | (refine Conf.mk (by kernel_rfl) ?_; conv => whnf) | (refine SeqOk.go ?_; conv => whnf))
                  subst hQ1
                  conv => whnf
                  exact Ret.int (by rw [hp, waits_wrong hi (by rw [hw]; decide), hw])
                · have h7 : s.log.any (isThe s.waits[i].id) = false := by
                    rw [Bool.eq_false_iff]
                    intro k
                    have := entryAt_iff.2 k
                    simp at h7
                    omega
                  conv => whnf
                  repeat (first | (refine Conf.mk (by kernel_rfl) ?_; conv => whnf) | (refine SeqOk.go ?_; conv => whnf))
                  refine .data _ _ (refReady_ok s.log hll hr.regs s.waits[i] (by omega) hreg) rfl ?_
                  conv => whnf
                  repeat (first | (refine Conf.mk (by kernel_rfl) ?_; conv => whnf) | (refine SeqOk.go ?_; conv => whnf))
                  refine ⟨fun h8 => ?_, fun h8 => ?_⟩
                  · have h8 : readyP s.log s.waits[i] = true := h8
                    have hw : waitErr s i s.waits[i] = 4 := by rw [hwe, hb, decide_eq_false h6, h7, h8]; rfl
                    conv => whnf
                    repeat (first | (refine Conf.mk (by kernel_rfl) ?_; conv => whnf) | (refine SeqOk.go ?_; conv => whnf))
                    subst hQ1
                    conv => whnf
                    exact Ret.int (by rw [hp, waits_wrong hi (by rw [hw]; decide), hw])
                  · have h8 : readyP s.log s.waits[i] = false := h8
                    have hw : waitErr s i s.waits[i] = 0 := by rw [hwe, hb, decide_eq_false h6, h7, h8]; rfl
                    rw [waits_right hi hw] at hp
                    conv => whnf
                    repeat (first | (refine Conf.mk (by kernel_rfl) ?_; conv => whnf) | (refine SeqOk.go ?_; conv => whnf))
                    exact Into.mono (Into.to [0] [(4, dInt (i + 1 : Nat)), (1, .ptr 0 0)] [(0, .vars 32 3 [dInt s.region, .dat (.list (s.log.map Entry'.enc)), .dat (.list (s.waits.map Entry'.enc))] true)] (by repeat (first | exact trivial | refine ⟨.same (congrArg dInt (wrap_up (by omega))), ?_⟩ | refine ⟨.same rfl, ?_⟩ | refine ⟨.any _, ?_⟩)) ⟨⟨rfl, rfl, rfl, .same rfl, rfl, .same rfl, rfl, .same rfl, rfl, trivial⟩, trivial⟩ rfl rfl) fun s' h => ⟨m - 1, by omega, i + 1, by omega, hp, h⟩
        · have hi := ge_of_len h3
          conv => whnf
          repeat (first | (refine Conf.mk (by kernel_rfl) ?_; conv => whnf) | (refine SeqOk.go ?_; conv => whnf))
          subst hQ1
          conv => whnf
          exact Ret.int (by rw [hp, List.drop_eq_nil_of_le hi]; rfl)
  · rw [show (decide (0 ≤ s.region) && decide (s.region ≤ 1)) = false by rw [Bool.eq_false_iff]; simp; omega] at hrg
    refine .data _ _ hrg.kb rfl ?_
    conv => whnf
    repeat (first | (refine Conf.mk (by kernel_rfl) ?_; conv => whnf) | (refine SeqOk.go ?_; conv => whnf))
    exact Ret.int (by unfold siteErr; rw [if_pos (by omega)])
end Go.Proofs.YtlioojekjnigiafGreat.AM
/- Sites: a new one, copies of one's own; is it what it must be? -/
namespace Go.Proofs.YtlioojekjnigiafGreat.AM
set_option linter.unusedVariables false
set_option linter.unusedSimpArgs false
def newSite (r : Int) : Site' := if r = 0 ∨ r = 1 then ⟨r, [], []⟩ else ⟨0, [], []⟩
def newErr (r : Int) : Int := if r = 0 ∨ r = 1 then 0 else 3
set_option maxHeartbeats 0 in
theorem siteNew_ok (r : Int) : PCall Tryz.prog 10 [dInt r] (.tup [(newSite r).arg, dInt (newErr r)]) := by
  have hrg := siteRegion_ok r
  refine pcall_intro tab_all tab_mixed Tryz.func10 (by kernel_rfl) Tryz.ntmps10 rfl ?_
  conv => whnf
  by_cases h0 : r = 0 ∨ r = 1
  · rw [show (decide (r = 0) || decide (r = 1)) = true by simpa using h0] at hrg
    refine .data _ _ hrg.kb rfl ?_
    conv => whnf
    repeat (first | (refine Conf.mk (by kernel_rfl) ?_; conv => whnf) | (refine SeqOk.go ?_; conv => whnf))
    exact Ret.to (by unfold newSite newErr; rw [if_pos h0, if_pos h0]; rfl)
  · rw [show (decide (r = 0) || decide (r = 1)) = false by simpa using h0] at hrg
    refine .data _ _ hrg.kb rfl ?_
    conv => whnf
    repeat (first | (refine Conf.mk (by kernel_rfl) ?_; conv => whnf) | (refine SeqOk.go ?_; conv => whnf))
    exact Ret.to (by unfold newSite newErr; rw [if_neg h0, if_neg h0]; rfl)
set_option maxHeartbeats 0 in
theorem copyEntry_ok (e : Entry') (he : e.links.length ≤ 1000) : PCall Tryz.prog 148 [e.arg] e.arg := by
  refine pcall_intro tab_all tab_mixed Tryz.func148 (by kernel_rfl) Tryz.ntmps148 rfl ?_
  conv => whnf
  refine ⟨by simp [Id.enc], by simp; omega, ?_⟩
  conv => whnf
  repeat (first | (refine Conf.mk (by kernel_rfl) ?_; conv => whnf) | (refine SeqOk.go ?_; conv => whnf))
  exact Ret.to rfl
set_option maxHeartbeats 0 in
theorem copyAll_ok (l : List Entry') (hk : ∀ e ∈ l, e.links.length ≤ 1000) (hn : l.length ≤ 1000) : ECall Tryz.prog 145 [.dat (.list (l.map Entry'.enc))] [] 0 (.row 0) [(0, .rows 28 5 (l.map Entry'.enc) true)] 1 := by
  refine acall_cut tab_all tab_mixed Tryz.func145 (by kernel_rfl) Tryz.ntmps145 rfl ?_
  conv => whnf
  conv => whnf
  repeat (first | (refine Conf.mk (by kernel_rfl) ?_; conv => whnf) | (refine SeqOk.go ?_; conv => whnf))
  refine LoopOk.hide fun Q1 hQ1 => ?_
  refine LoopOk.mk (fun m s => ∃ k, k + m = l.length ∧ s = ⟨[(8, dInt k), (7, dInt (l.map Entry'.enc).length), (6, .dat (.list (l.map Entry'.enc))), (3, .row 0)], 1, [(0, .rows 28 5 ((l.take k).map Entry'.enc) true)]⟩) l.length ((Into.row 3 28 5 rfl).trans fun s' hs' => by
    subst hs'
    exact Into.mono (Into.to [0] [(8, dInt (0 : Nat)), (7, dInt (l.map Entry'.enc).length), (6, .dat (.list (l.map Entry'.enc))), (3, .row 0)] [(0, .rows 28 5 ((l.take 0).map Entry'.enc) true)] (by repeat (first | exact trivial | refine ⟨.same (congrArg dInt (wrap_up (by omega))), ?_⟩ | refine ⟨.same rfl, ?_⟩ | refine ⟨.any _, ?_⟩)) ⟨⟨rfl, rfl, rfl, rfl⟩, trivial⟩ rfl rfl) fun s' h => ⟨0, by omega, h⟩) ?_
  rintro m s ⟨k, hkm, rfl⟩
  conv => whnf
  repeat (first | (refine Conf.mk (by kernel_rfl) ?_; conv => whnf) | (refine SeqOk.go ?_; conv => whnf))
  refine ⟨fun h => ?_, fun h => ?_⟩
  · have hk' := lt_of_len h
    have hrow : (l.take (k + 1)).map Entry'.enc = (l.take k).map Entry'.enc ++ [l[k].enc] := by rw [take_snoc hk', List.map_append]; rfl
    conv => whnf
    repeat (first | (refine Conf.mk (by kernel_rfl) ?_; conv => whnf) | (refine SeqOk.go ?_; conv => whnf))
    refine AtIdx.ofMap hk' rfl ?_
    conv => whnf
    repeat (first | (refine Conf.mk (by kernel_rfl) ?_; conv => whnf) | (refine SeqOk.go ?_; conv => whnf))
    refine .data _ _ (copyEntry_ok l[k] (hk _ (List.getElem_mem hk'))) rfl ?_
    conv => whnf
    repeat (first | (refine Conf.mk (by kernel_rfl) ?_; conv => whnf) | (refine SeqOk.go ?_; conv => whnf))
    refine ⟨by simp [Entry'.enc], by simp; omega, ?_⟩
    conv => whnf
    repeat (first | (refine Conf.mk (by kernel_rfl) ?_; conv => whnf) | (refine SeqOk.go ?_; conv => whnf))
    refine Into.mono (Into.to [3] [(8, dInt (k + 1 : Nat)), (7, dInt (l.map Entry'.enc).length), (6, .dat (.list (l.map Entry'.enc))), (3, .row 0)] [(0, .rows 28 5 ((l.take (k + 1)).map Entry'.enc) true)] (by repeat (first | exact trivial | refine ⟨.same (congrArg dInt (wrap_up (by omega))), ?_⟩ | refine ⟨.same rfl, ?_⟩ | refine ⟨.any _, ?_⟩)) ⟨⟨rfl, rfl, rfl, ?_⟩, trivial⟩ rfl rfl) fun s' h => ⟨m - 1, by omega, k + 1, by omega, h⟩
    rw [hrow]
    rfl
  · have hk' : k = l.length := by have := ge_of_len h; omega
    subst hk'
    conv => whnf
    repeat (first | (refine Conf.mk (by kernel_rfl) ?_; conv => whnf) | (refine SeqOk.go ?_; conv => whnf))
    subst hQ1
    conv => whnf
    exact .mk [] [0] (.row 0) [(0, .rows 28 5 (l.map Entry'.enc) true)] rfl (.same rfl) ⟨⟨rfl, rfl, rfl, by rw [List.take_length]⟩, trivial⟩ rfl rfl ⟨rfl, rfl, rfl⟩
set_option maxHeartbeats 0 in
theorem copyOf_ok (s : Site') (h1 : ∀ e ∈ s.log, e.links.length ≤ 1000) (h2 : s.log.length ≤ 1000) (h3 : ∀ e ∈ s.waits, e.links.length ≤ 1000) (h4 : s.waits.length ≤ 1000) : ECall Tryz.prog 64 [s.arg] [] 0 (.agg [dInt s.region, .row 0, .row 1]) [(0, .rows 28 5 (s.log.map Entry'.enc) true), (1, .rows 28 5 (s.waits.map Entry'.enc) true)] 2 := by
  refine acall_cut tab_all tab_mixed Tryz.func64 (by kernel_rfl) Tryz.ntmps64 rfl ?_
  conv => whnf
  conv => whnf
  repeat (first | (refine Conf.mk (by kernel_rfl) ?_; conv => whnf) | (refine SeqOk.go ?_; conv => whnf))
  refine .eff [] _ _ _ _ 1 (copyAll_ok s.log h1 h2) rfl rfl rfl rfl rfl ?_
  conv => whnf
  repeat (first | (refine Conf.mk (by kernel_rfl) ?_; conv => whnf) | (refine SeqOk.go ?_; conv => whnf))
  refine .eff [] _ _ _ _ 1 (copyAll_ok s.waits h3 h4) rfl rfl rfl rfl rfl ?_
  conv => whnf
  repeat (first | (refine Conf.mk (by kernel_rfl) ?_; conv => whnf) | (refine SeqOk.go ?_; conv => whnf))
  exact .mk [] [2, 3] (.agg [dInt s.region, .row 0, .row 1]) [(0, .rows 28 5 (s.log.map Entry'.enc) true), (1, .rows 28 5 (s.waits.map Entry'.enc) true)] rfl (.same rfl) ⟨⟨rfl, rfl, rfl, rfl⟩, ⟨rfl, rfl, rfl, rfl⟩, trivial⟩ rfl rfl ⟨rfl, rfl, rfl⟩
end Go.Proofs.YtlioojekjnigiafGreat.AM
