/- What is leaned on: part 3. -/
import Derived.Test.YtlioojekjnigiabQ2
import Derived.ProofKit
import Derived.OpenShut
import Derived.ChangeOld
import Derived.SizedLaws
import Derived.Deep.Slices
import Derived.Below
import Derived.Lib.SmallJoins
import Derived.Test.YtlioojekjnigiabRows
import Derived.WalkKit
import Derived.WalkSpells
import Derived.StillTactics
import Derived.Laws.Pointers
import Derived.Deep.RegionHeld3
import Derived.Deep.RegionLaw
import Derived.Deep.AppendLies
import Derived.Deep.QuietTactic
import Derived.Deep.DrawnRows
import Derived.BigQuiet
import Derived.RowKit3
import Derived.Laws.CopyRow
import Derived.Laws.OwnMore
import Derived.Lib.SliceRun
import Derived.Lib.AppendZerosOnto
import Derived.Lib.Overlaps
import Derived.Laws.Externs
import Derived.Deep.DeepAppendWide
/- What came in, opened: data of their types. -/
namespace Go.Proofs.Ytlioojekjnigiab.AM
set_option linter.unusedVariables false
set_option linter.unusedSimpArgs false

def szAt (tab : Tab) (T : Nat) : Nat := match nth tab T with
  | some ti => ti.size
  | none => 0
def byAt (tab : Tab) (T : Nat) : Nat := match nth tab T with
  | some ti => ti.bytes
  | none => 0
/-- Fields that lie side by side. -/
def contig (tab : Tab) : List (Nat × Nat) → Nat → Nat → Bool
  | [], o, n => Nat.beq o n
  | (t, off) :: fs, o, n => Nat.beq off o && contig tab fs (o + szAt tab t) n
/-- Types that can be opened. -/
def okT (tab : Tab) : Nat → Nat → Bool
  | 0, _ => false
  | n + 1, T => match nth tab T with
    | none => false
    | some ti => match ti.kind with
      | .bool | .int _ | .string => true
      | .slice e => (nth tab e).isSome && Nat.blt 0 (szAt tab e) && okT tab n e
      | .struct fs => contig tab fs 0 ti.size && fs.all fun f => (nth tab f.1).isSome && okT tab n f.1
      | .array c e => (nth tab e).isSome && Nat.beq (c * szAt tab e) ti.size && okT tab n e
      | _ => false
/-- Data of several types, side by side. -/
def WTs (wt : Nat → List D → Prop) : List Nat → List D → Prop
  | [], ds => ds = []
  | t :: ts, ds => ∃ xs ys, ds = xs ++ ys ∧ wt t xs ∧ WTs wt ts ys
/-- Data of a type. -/
def WT (tab : Tab) : Nat → Nat → List D → Prop
  | 0, _, _ => False
  | n + 1, T, ds => match nth tab T with
    | none => False
    | some ti => match ti.kind with
      | .bool => ∃ b, ds = [.bool b]
      | .int k => ∃ m, ds = [.int k m] ∧ (Lit.int k m).wf = true
      | .string => ∃ s, ds = [.str s] ∧ s.size ≤ 140737488351232
      | .slice e => ∃ es, ds = [.list es] ∧ es.length * byAt tab e ≤ 140737488351232 ∧ ∀ e' ∈ es, WT tab n e e'
      | .struct fs => WTs (WT tab n) (fs.map (·.1)) ds
      | .array c e => WTs (WT tab n) (List.replicate c e) ds
      | _ => False

section
variable {P : Program} {tab : Tab} {H : Type} {enc : TypeId × Value → H} {w : World} {base : Nat} {sp : Nat → Bool} {held : Bool}

/-- Cells and what they say. -/
def Reads1 (w : World) (cs : List Value) (ds : List D) : Prop := ds.length = cs.length ∧ ∀ (j : Nat) (d : D), ds[j]? = some d → ∃ v, cs[j]? = some v ∧ Rep (full w) v d
theorem szAt_ok (ht : TabOk P tab) {t : Nat} (h : (nth tab t).isSome = true) : P.cellsOf t = szAt tab t := by
  obtain ⟨ti, hti⟩ := Option.isSome_iff_exists.1 h
  obtain ⟨i, hi, hs, _⟩ := (ht t ti hti).info
  simp [Program.cellsOf, hi, szAt, hti, hs]
theorem byAt_ok (ht : TabOk P tab) {t : Nat} (h : (nth tab t).isSome = true) : P.bytesOf t = byAt tab t := by
  obtain ⟨ti, hti⟩ := Option.isSome_iff_exists.1 h
  obtain ⟨i, hi, _, hs, _⟩ := (ht t ti hti).info
  simp [Program.bytesOf, hi, byAt, hti, hs]
theorem contig_le : ∀ {fs : List (Nat × Nat)} {o n : Nat}, contig tab fs o n = true → o ≤ n
  | [], o, n, h => by simp only [contig] at h; exact Nat.le_of_eq (Nat.eq_of_beq_eq_true h)
  | (t, off) :: fs, o, n, h => by
    simp only [contig, Bool.and_eq_true] at h
    have := contig_le h.2
    omega
theorem segs {cs : List Value} {wt : Nat → List D → Prop} : ∀ (fs : List (Nat × Nat)) (o : Nat), contig tab fs o cs.length = true → (∀ f ∈ fs, ∃ xs, wt f.1 xs ∧ Reads1 w ((cs.drop f.2).take (szAt tab f.1)) xs) → ∃ ds, WTs wt (fs.map (·.1)) ds ∧ Reads1 w (cs.drop o) ds
  | [], o, h, _ => by
    simp only [contig] at h
    have := Nat.eq_of_beq_eq_true h
    exact ⟨[], rfl, by simp; omega, by simp⟩
  | (t, off) :: fs, o, h, hx => by
    simp only [contig, Bool.and_eq_true] at h
    obtain rfl := Nat.eq_of_beq_eq_true h.1
    obtain ⟨xs, h1, h2, h3⟩ := hx (t, off) (by simp)
    obtain ⟨ys, k1, k2, k3⟩ := segs fs (off + szAt tab t) h.2 fun f hf => hx f (by simp [hf])
    have hle := contig_le h.2
    simp only [List.length_take, List.length_drop] at h2 k2
    have h2' : xs.length = min (szAt tab t) (cs.length - off) := h2
    refine ⟨xs ++ ys, ⟨xs, ys, rfl, h1, k1⟩, by simp; omega, fun j d hj => ?_⟩
    by_cases hlt : j < xs.length
    · rw [List.getElem?_append_left hlt] at hj
      obtain ⟨v, q1, q2⟩ := h3 j d hj
      have hj2 : j < szAt tab t := by omega
      rw [List.getElem?_take, if_pos hj2] at q1
      exact ⟨v, q1, q2⟩
    · rw [List.getElem?_append_right (by omega)] at hj
      obtain ⟨v, q1, q2⟩ := k3 _ d hj
      rw [List.getElem?_drop] at q1
      refine ⟨v, ?_, q2⟩
      rw [List.getElem?_drop, ← q1]
      congr 1
      omega
theorem contig_array {e c n : Nat} (hn : c * szAt tab e = n) : contig tab ((List.range c).map fun i => (e, i * szAt tab e)) 0 n = true := by
  have key : ∀ (c s : Nat), contig tab ((List.range' s c).map fun i => (e, i * szAt tab e)) (s * szAt tab e) ((s + c) * szAt tab e) = true := by
    intro c
    induction c with
    | zero => intro s; simp [contig, Nat.beq_refl]
    | succ c ih =>
      intro s
      rw [List.range'_succ, List.map_cons]
      simp only [contig, Nat.beq_refl, Bool.true_and]
      have := ih (s + 1)
      rw [Nat.add_mul, Nat.one_mul] at this
      rw [show s + (c + 1) = s + 1 + c by omega]
      exact this
  have := key c 0
  rw [Nat.zero_mul, Nat.zero_add, hn] at this
  rw [List.range_eq_range']
  exact this
theorem mem_weightsAll {e : TypeId} : ∀ {ds : List (DataW H)} {i : Nat} {d : DataW H}, ds[i]? = some d → ∀ n ∈ d.weights P e, n ∈ DataW.weightsAll P e ds
  | [], i, d, h, n, hn => by simp at h
  | d0 :: ds, 0, d, h, n, hn => by
    obtain rfl : d0 = d := by simpa using h
    simp only [DataW.weightsAll, List.mem_append]
    exact .inl hn
  | d0 :: ds, i + 1, d, h, n, hn => by
    simp only [DataW.weightsAll, List.mem_append]
    exact .inr (mem_weightsAll (ds := ds) (i := i) (by simpa using h) n hn)
/-- What is read as data of a type, opened. -/
theorem open_wt (ht : TabOk P tab) : ∀ (n T fuel : Nat) (cs : List Value) (x : DataW H × List MemPlace), okT tab n T = true → DataW.trod enc P w base sp held fuel T cs = some x → (∀ m ∈ DataW.weights P T x.1, m ≤ reachBytes) → ∃ ds, WT tab n T ds ∧ Reads1 w cs ds := by
  intro n
  induction n with
  | zero => intro T fuel cs x h; cases h
  | succ n ih =>
    intro T fuel cs x hok h hw
    simp only [okT] at hok
    cases hti : nth tab T with
    | none => rw [hti] at hok; cases hok
    | some ti =>
      rw [hti] at hok
      simp only at hok
      simp only [WT, hti]
      obtain ⟨d, hd, hk⟩ := (ht T ti hti).kind
      have one : ∀ {v : Value} {d : D}, Rep (full w) v d → Reads1 w [v] [d] := fun {v d} hr => ⟨rfl, fun j d' hj => by
        match j with
        | 0 =>
          obtain rfl : d = d' := by simpa using hj
          exact ⟨v, rfl, hr⟩
        | j + 1 => simp at hj⟩
      cases hkk : ti.kind with
      | bool =>
        rw [hkk] at hk
        obtain rfl : d = .bool := hk
        obtain ⟨b, rfl, _⟩ := DataW.trod_bool hd h
        exact ⟨_, ⟨b, rfl⟩, one (.bool b)⟩
      | int k =>
        rw [hkk] at hk
        obtain rfl : d = .int k := hk
        obtain ⟨m, rfl, _, hwf⟩ := DataW.trod_int hd h
        exact ⟨_, ⟨m, rfl, hwf⟩, one (.int k m)⟩
      | string =>
        rw [hkk] at hk
        obtain rfl : d = .string := hk
        obtain ⟨s, rfl, rfl, _⟩ := DataW.trod_string hd h
        have := hw s.data.toList.length (by simp only [DataW.weights, List.mem_singleton])
        have hsz : s.data.toList.length = s.size := by rw [Array.length_toList]; rfl
        rw [hsz] at this
        exact ⟨_, ⟨s, rfl, this⟩, one (.str s)⟩
      | slice e =>
        rw [hkk] at hk
        simp only [hkk] at hok
        obtain rfl : d = .slice e := hk
        simp only [Bool.and_eq_true] at hok
        rcases DataW.trod_slice hd h with ⟨rfl, rfl⟩ | ⟨a, len, cap, elems, rest, m, _, rfl, rfl, _, hle, hcap, hlen, hel, _, _⟩
        · exact ⟨_, ⟨[], rfl, by simp, by simp⟩, one (.list none 0 0 [] (fun _ _ => undef) (Nat.le_refl _) (by simp) (fun h => absurd rfl h) (by simp))⟩
        · have hsz := szAt_ok ht hok.1.1
          have hpos : 0 < szAt tab e := by simpa [Nat.blt_eq] using hok.1.2
          have each : ∀ i, i < len → ∃ es : List D, WT tab n e es ∧ es.length = szAt tab e ∧ ∀ j d, es[j]? = some d → ∃ v, w.cell? ((a.add (i * szAt tab e)).add j) = some v ∧ Rep (full w) v d := by
            intro i hi
            have h1 := hel i hi
            have hi' : i < elems.length := by omega
            rw [List.getElem?_eq_getElem hi', Option.bind_eq_some_iff] at h1
            obtain ⟨cs', hc, htr⟩ := h1
            rw [hsz] at hc
            obtain ⟨_, hcl, hcc⟩ := World.cells?_some hc
            obtain ⟨es, k1, k2, k3⟩ := ih e m cs' _ hok.2 htr fun q hq => hw q (by
              simp only [DataW.weights, hd, List.mem_cons, List.mem_append]
              exact .inr (.inl (mem_weightsAll (i := i) (by simp [hi']) q hq)))
            refine ⟨es, k1, by rw [k2, hcl], fun j d hj => ?_⟩
            obtain ⟨v, q1, q2⟩ := k3 j d hj
            have hj' : j < szAt tab e := by
              have := (List.getElem?_eq_some_iff.1 q1).1
              omega
            exact ⟨v, by rw [hcc j hj', q1], q2⟩
          obtain ⟨F, hF⟩ := Go.Deep.choose_lt each
          have hEl : ((List.range len).map F).length = len := by simp
          have hEg : ∀ (i : Nat) (e' : List D), ((List.range len).map F)[i]? = some e' → i < len ∧ F i = e' := fun i e' h => by
            have hi : i < len := by
              have := (List.getElem?_eq_some_iff.1 h).1
              omega
            exact ⟨hi, by simpa [hi] using h⟩
          have hby := hw ((elems.length + rest.length) * P.bytesOf e) (by simp [DataW.weights, hd])
          rw [byAt_ok ht hok.1.1] at hby
          refine ⟨_, ⟨(List.range len).map F, rfl, ?_, fun e' he => ?_⟩, ?_⟩
          · rw [hEl]
            have : len * byAt tab e ≤ (elems.length + rest.length) * byAt tab e := Nat.mul_le_mul_right _ (by omega)
            unfold reachBytes at hby
            omega
          · obtain ⟨i, hi⟩ := List.getElem?_of_mem he
            obtain ⟨h1, rfl⟩ := hEg i e' hi
            exact (hF i h1).1
          · by_cases h0 : len = 0
            · subst h0
              exact one (Rep.list (some a) cap 0 [] (fun _ _ => undef) (Nat.zero_le _) (by simp) (fun h => absurd rfl h) (by simp))
            · obtain ⟨_, f1, f2⟩ := hF 0 (by omega)
              obtain ⟨v0, q1, _⟩ := f2 0 _ (List.getElem?_eq_getElem (by omega))
              have hspot := World.cell?_spot q1
              obtain ⟨b, off, spot⟩ := a
              obtain rfl : spot = none := by
                simp only [Addr.add] at hspot
                simpa using hspot
              have hadd : ∀ o i, (⟨b, o, none⟩ : Addr).add i = ⟨b, o + i, none⟩ := fun o i => by unfold Addr.add; split <;> simp_all
              have hr : Rep (full w) (.slice (some ⟨b, off, none⟩) len cap) (.list ((List.range len).map F)) := by
                refine rep_of_rows (b := b) (off := off) (sz := szAt tab e) hEl.symm (by omega) (fun e' he => ?_) (fun _ => rfl) fun i e' hi j d hj => ?_
                · obtain ⟨i, hi⟩ := List.getElem?_of_mem he
                  obtain ⟨h1, rfl⟩ := hEg i e' hi
                  exact (hF i h1).2.1
                · obtain ⟨h1, rfl⟩ := hEg i e' hi
                  obtain ⟨v, q1, q2⟩ := (hF i h1).2.2 j d hj
                  rw [hadd, hadd] at q1
                  exact ⟨v, q1, q2⟩
              exact one hr
      | struct fs =>
        rw [hkk] at hk
        simp only [hkk] at hok
        obtain ⟨fields, rfl, rfl⟩ := hk
        simp only [Bool.and_eq_true] at hok
        obtain ⟨xs, m, _, rfl, hl, hn, hf⟩ := DataW.trod_struct hd h
        have hT : P.cellsOf T = ti.size := by
          rw [szAt_ok ht (by rw [hti]; rfl)]
          simp [szAt, hti]
        refine segs _ 0 (by rw [hl, hT]; exact hok.1) fun f hf2 => ?_
        have hall := List.all_eq_true.1 hok.2 f hf2
        simp only [Bool.and_eq_true] at hall
        obtain ⟨i, hi⟩ := List.getElem?_of_mem hf2
        rw [List.getElem?_map, Option.map_eq_some_iff] at hi
        obtain ⟨g, hg, rfl⟩ := hi
        have hg' : fields[i]? = some g := by simpa using hg
        have h1 := hf i g hg'
        have hi' : i < xs.length := by rw [hn]; exact (Array.getElem?_eq_some_iff.1 hg').1
        rw [List.getElem?_eq_getElem hi', szAt_ok ht hall.1] at h1
        exact ih g.type m _ _ hall.2 h1 fun q hq => hw q (by
          simp only [DataW.weights, hd]
          exact DataW.weights_mem_each (j := i) (t := g.type) (by rw [List.getElem?_map, hg]; rfl) (by rw [List.getElem?_map, List.getElem?_eq_getElem hi']; rfl) q hq)
      | array c e =>
        rw [hkk] at hk
        simp only [hkk] at hok
        obtain rfl : d = .array c e := hk
        simp only [Bool.and_eq_true] at hok
        obtain ⟨xs, m, _, rfl, hl, hn, hf⟩ := DataW.trod_array hd h
        have hT : P.cellsOf T = ti.size := by
          rw [szAt_ok ht (by rw [hti]; rfl)]
          simp [szAt, hti]
        have hse := szAt_ok ht hok.1.1
        have := segs (w := w) (tab := tab) (cs := cs) (wt := WT tab n) ((List.range c).map fun i => (e, i * szAt tab e)) 0 (contig_array (by rw [hl, hT]; exact Nat.eq_of_beq_eq_true hok.1.2)) fun f hf2 => by
          rw [List.mem_map] at hf2
          obtain ⟨i, hi, rfl⟩ := hf2
          rw [List.mem_range] at hi
          have h1 := hf i hi
          have hi' : i < xs.length := by omega
          rw [List.getElem?_eq_getElem hi', hse] at h1
          exact ih e m _ _ hok.2 h1 fun q hq => hw q (by
            simp only [DataW.weights, hd]
            exact mem_weightsAll (i := i) (by rw [List.getElem?_map, List.getElem?_eq_getElem hi']; rfl) q hq)
        have hm : ((List.range c).map fun i => (e, i * szAt tab e)).map (·.1) = List.replicate c e := by
          rw [List.map_map]
          exact List.ext_getElem? fun i => by by_cases hi : i < c <;> simp [hi, List.getElem?_replicate]
        rw [hm] at this
        exact this
      | pointer e => simp only [hkk] at hok; cases hok
      | other => simp only [hkk] at hok; cases hok
end
end Go.Proofs.Ytlioojekjnigiab.AM
/- A law that answers true whatever data it is handed: called with what came in, it answers true, and nothing of old is changed. -/
namespace Go.Proofs.Ytlioojekjnigiab.AM
set_option linter.unusedVariables false
set_option linter.unusedSimpArgs false

def oneA : List D → AVal
  | [d] => .dat d
  | _ => .any
def argA (tab : Tab) (T : Nat) (ds : List D) : AVal := match nth tab T with
  | some ti => bif ti.kind.isAgg then .agg (ds.map .dat) else oneA ds
  | none => .any
def argsA (tab : Tab) : List Nat → List (List D) → List AVal
  | t :: ts, ds :: dss => argA tab t ds :: argsA tab ts dss
  | _, _ => []
def AllWT (tab : Tab) (n : Nat) : List Nat → List (List D) → Prop
  | [], [] => True
  | t :: ts, ds :: dss => WT tab n t ds ∧ AllWT tab n ts dss
  | _, _ => False

section
variable {P : Program} {tab : Tab} {H : Type} {enc : TypeId × Value → H} {W : World} {sp : Nat → Bool} {held : Bool}

theorem cell_not_agg {base : Nat} {t : TypeId} {d : TypeDesc} {cs : Array Value} (hd : P.underlying t = some d) (hk : (match d with | .bool | .int _ | .string | .slice _ => true | _ => false) = true) (h : Cell.okWide P W .any base t (.agg cs)) : False := by
  unfold Cell.okWide Cell.ok at h
  rw [hd] at h
  cases d <;> first | exact h | cases hk
theorem arg_rel (ht : TabOk P tab) {n T base : Nat} {v : Value} {d : DataW H} {ps : List MemPlace} (hok : okT tab n T = true) (hv : Value.okWide P W .any base T v) (h : DataW.Trod enc P W 0 sp held T v d ps) (hw : ∀ m ∈ DataW.weights P T d, m ≤ reachBytes) : ∃ ds, WT tab n T ds ∧ VRel (fun _ => none) (full W) v (argA tab T ds) := by
  obtain ⟨fuel, hf⟩ := h
  obtain ⟨ds, h1, h2, h3⟩ := open_wt ht n T fuel _ _ hok hf hw
  refine ⟨ds, h1, ?_⟩
  cases n with
  | zero => cases hok
  | succ n =>
    simp only [okT] at hok
    cases hti : nth tab T with
    | none => rw [hti] at hok; cases hok
    | some ti =>
      rw [hti] at hok
      simp only at hok
      simp only [argA, hti]
      obtain ⟨td, hd, hk⟩ := (ht T ti hti).kind
      have agg : (∃ cs, v = .agg cs) → VRel (fun _ => none) (full W) v (.agg (ds.map .dat)) := fun ⟨cs, e⟩ => by
        subst e
        simp only [Value.cells, Array.length_toList] at h2 h3
        refine .agg cs _ (by simp [h2]) fun j a ha => ?_
        rw [List.getElem?_map, Option.map_eq_some_iff] at ha
        obtain ⟨x, hx, rfl⟩ := ha
        obtain ⟨u, q1, q2⟩ := h3 j x hx
        rw [Array.getElem?_toList] at q1
        rw [Array.getD_eq_getD_getElem?, q1]
        exact .dat q2
      have one : (∀ cs, v ≠ .agg cs) → VRel (fun _ => none) (full W) v (oneA ds) := fun hne => by
        have hc : v.cells = #[v] := by
          cases v <;> first | rfl | exact absurd rfl (hne _)
        rw [hc] at h2 h3
        match ds, h2 with
        | [x], _ =>
          obtain ⟨u, q1, q2⟩ := h3 0 x rfl
          obtain rfl : v = u := by simpa using q1
          exact .dat q2
      cases hkk : ti.kind <;> simp only [hkk] at hok hk
      case pointer e => cases hok
      case other => cases hok
      case struct fs =>
        obtain ⟨fields, rfl, _⟩ := hk
        obtain ⟨cs, hcs, _⟩ := Go.WideShapes.okWide_struct hd hv
        exact agg ⟨cs, hcs⟩
      case array c e =>
        obtain rfl : td = .array c e := hk
        simp only [Value.okWide, hd] at hv
        obtain ⟨cs, hcs, _⟩ := hv
        exact agg ⟨cs, hcs⟩
      case bool =>
        obtain rfl : td = .bool := hk
        simp only [Value.okWide, hd] at hv
        exact one fun cs e => by subst e; exact cell_not_agg hd rfl hv
      case int k =>
        obtain rfl : td = .int k := hk
        simp only [Value.okWide, hd] at hv
        exact one fun cs e => by subst e; exact cell_not_agg hd rfl hv
      case string =>
        obtain rfl : td = .string := hk
        simp only [Value.okWide, hd] at hv
        exact one fun cs e => by subst e; exact cell_not_agg hd rfl hv
      case slice e =>
        obtain rfl : td = .slice e := hk
        simp only [Value.okWide, hd] at hv
        exact one fun cs e => by subst e; exact cell_not_agg hd rfl hv
theorem args_rel (ht : TabOk P tab) {n base : Nat} : ∀ {ts : List Nat} {vs : List Value} {ds : List (DataW H)} {ps : List MemPlace}, (ts.all (okT tab n) = true) → (∀ (j : Nat) t v, ts[j]? = some t → vs[j]? = some v → Value.okWide P W .any base t v) → DataW.TrodAll enc P W 0 sp held ts vs ds ps → (∀ m ∈ DataW.weightsEach P ts ds, m ≤ reachBytes) →
    ∃ dss, AllWT tab n ts dss ∧ vs.length = (argsA tab ts dss).length ∧ ∀ (j : Nat) (a : AVal), (argsA tab ts dss)[j]? = some a → ∃ v, vs[j]? = some v ∧ VRel (fun _ => none) (full W) v a
  | [], [], [], ps, _, _, _, _ => ⟨[], trivial, rfl, by simp [argsA]⟩
  | t :: ts, v :: vs, d :: ds, ps, hok, hv, h, hw => by
    obtain ⟨p, q, h1, h2, _⟩ := h
    simp only [List.all_cons, Bool.and_eq_true] at hok
    obtain ⟨xs, k1, k2⟩ := arg_rel ht hok.1 (hv 0 t v rfl rfl) h1 fun m hm => hw m (by simp only [DataW.weightsEach, List.mem_append]; exact .inl hm)
    obtain ⟨dss, k3, k4, k5⟩ := args_rel ht hok.2 (fun j t v h1 h2 => hv (j + 1) t v h1 h2) h2 fun m hm => hw m (by simp only [DataW.weightsEach, List.mem_append]; exact .inr hm)
    refine ⟨xs :: dss, ⟨k1, k3⟩, by simp [argsA, k4], fun j a ha => ?_⟩
    match j with
    | 0 =>
      obtain rfl : argA tab t xs = a := by simpa [argsA] using ha
      exact ⟨v, rfl, k2⟩
    | j + 1 => exact k5 j a (by simpa [argsA] using ha)
  | [], _ :: _, _, _, _, _, h, _ => h.elim
  | [], [], _ :: _, _, _, _, h, _ => h.elim
  | _ :: _, [], _, _, _, _, h, _ => h.elim
  | _ :: _, _ :: _, [], _, _, _, h, _ => h.elim
/-- A law that answers true. -/
theorem law_run (ht : TabOk P tab) {n base F : Nat} {ts : List Nat} {args : Array Value} {ds : List (DataW H)} {ps : List MemPlace} (hok : ts.all (okT tab n) = true) (hv : ∀ (j : Nat) t v, ts[j]? = some t → args[j]? = some v → Value.okWide P W .any base t v) (h : DataW.TrodAll enc P W 0 sp held ts args.toList ds ps) (hw : ∀ m ∈ DataW.weightsEach P ts ds, m ≤ reachBytes)
    (hlaw : ∀ dss, AllWT tab n ts dss → PCall P F (argsA tab ts dss) (.dat (.bool true))) : Calls P F args W fun e W' => e = .returned (.bool true) ∧ Go.RowKit.Below W.heap.size W W' := by
  obtain ⟨dss, h1, h2, h3⟩ := args_rel ht hok (fun j t v h1 h2 => hv j t v h1 (by simpa using h2)) h hw
  refine ((hlaw dss h1).2 (fun _ => none) (full W) W args (fun _ _ => rfl) ⟨fun b o v h => h, fun h => trivial, fun h h' b hl => by cases hl⟩ (by simpa using h2) fun j a ha => ?_).mono fun e W' he => ?_
  · obtain ⟨v, q1, q2⟩ := h3 j a ha
    rw [Array.getElem?_toList] at q1
    rw [Array.getD_eq_getD_getElem?, q1]
    exact q2
  · obtain ⟨v, r', A', x, H', n', rfl, ⟨rfl, rfl, rfl⟩, _, _, _, _, hvr, hfr, _⟩ := he
    cases hvr with
    | dat hr =>
      cases hr
      exact ⟨rfl, hfr.os, hfr.tape, hfr.output, hfr.size, fun k hk => hfr.block k hk fun ⟨_, hl, _⟩ => by cases hl⟩
end
end Go.Proofs.Ytlioojekjnigiab.AM
/- Ids and entries, as data. -/
namespace Go.Proofs.Ytlioojekjnigiab.AM
set_option linter.unusedVariables false
set_option linter.unusedSimpArgs false

structure Id where
  r : Int
  n : Int
theorem Id.ext' {a b : Id} (h1 : a.r = b.r) (h2 : a.n = b.n) : a = b := by cases a; cases b; simp_all
instance : DecidableEq Id := fun a b => if h : a.r = b.r ∧ a.n = b.n then .isTrue (Id.ext' h.1 h.2) else .isFalse fun e => h ⟨by rw [e], by rw [e]⟩
def Id.enc (x : Id) : List D := [.int .i64 x.r, .int .i64 x.n]
def Id.arg (x : Id) : AVal := .agg [.dat (.int .i64 x.r), .dat (.int .i64 x.n)]
structure Entry' where
  id : Id
  colors : Int
  text : ByteArray
  links : List Id
def Entry'.enc (e : Entry') : List D := [.int .i64 e.id.r, .int .i64 e.id.n, .int .i64 e.colors, .str e.text, .list (e.links.map Id.enc)]
def Entry'.arg (e : Entry') : AVal := .agg [.dat (.int .i64 e.id.r), .dat (.int .i64 e.id.n), .dat (.int .i64 e.colors), .dat (.str e.text), .dat (.list (e.links.map Id.enc))]
def dInt (n : Int) : AVal := .dat (.int .i64 n)
def dBool (b : Bool) : AVal := .dat (.bool b)

def Id.less (a b : Id) : Bool := if a.r = b.r then decide (a.n < b.n) else decide (a.r < b.r)
theorem less_ok (a b : Id) : PCall Try.prog 88 [a.arg, b.arg] (dBool (a.less b)) := by
  refine pcall_intro tab_all tab_mixed Try.func88 (by kernel_rfl) Try.ntmps88 rfl ?_
  conv => whnf
  refine ⟨fun h => ?_, fun h => ?_⟩
  · conv => whnf
    refine ⟨congrArg dBool ?_⟩
    have h : a.r ≠ b.r := by simpa using h
    simp [Id.less, h]
  · conv => whnf
    refine ⟨congrArg dBool ?_⟩
    have h : a.r = b.r := by simpa using h
    simp [Id.less, h]
theorem isRegion_ok (n : Int) : PCall Try.prog 87 [dInt n] (dBool (decide (n = 0) || decide (n = 1))) := by
  refine pcall_intro tab_all tab_mixed Try.func87 (by kernel_rfl) Try.ntmps87 rfl ?_
  conv => whnf
  refine ⟨fun h => ?_, fun h => ?_⟩
  · conv => whnf
    refine ⟨congrArg dBool ?_⟩
    have h : n = 0 := by simpa using h
    simp [h]
  · conv => whnf
    refine ⟨congrArg dBool ?_⟩
    have h : n ≠ 0 := by simpa using h
    simp only [h, decide_false, Bool.false_or]
    rfl
theorem AtIdx.ofMap {α : Type} {enc : α → List D} {l : List α} {i sz : Nat} {k : Nat → List D → Prop} (h : i < l.length) (hl : (enc l[i]).length = sz) (hk : k i (enc l[i])) : AtIdx (i : Nat) (l.map enc) sz k :=
  .mk i (enc l[i]) rfl (by simp [h]) hl hk
theorem Ret.bool {a b : Bool} (h : a = b) : Ret (.dat (.bool a)) (dBool b) := ⟨congrArg dBool h⟩
theorem Ret.int {a b : Int} (h : a = b) : Ret (.dat (.int .i64 a)) (dInt b) := ⟨congrArg dInt h⟩
theorem wrap_id {n : Int} (h1 : -9223372036854775808 ≤ n) (h2 : n ≤ 9223372036854775807) : IntKind.i64.wrap n = n := by
  simp only [IntKind.wrap, IntKind.bits, IntKind.signed, Bool.true_and]
  split <;> simp_all <;> omega
theorem wrap_up {i : Nat} (h : i + 1 ≤ 140737488355328) : ((i + 1 : Nat) : Int) = IntKind.i64.wrap ((i : Int) + 1) := by
  rw [wrap_id (by omega) (by omega)]
  rfl
def isIdx {α : Type} (p : α → Bool) : List α → Nat → Option Nat
  | [], _ => none
  | a :: t, i => if p a then some i else isIdx p t (i + 1)
def idxOf (o : Option Nat) : Int := match o with
  | some i => i
  | none => -1
end Go.Proofs.Ytlioojekjnigiab.AM
/- What came in, opened: numbers, texts, lists. -/
namespace Go.Proofs.Ytlioojekjnigiab
theorem ownT : ownKnob Try.prog.godebug = none := by kernel_rfl
theorem laidT : laidOutB Try.prog = true := by kernel_rfl
namespace AM
set_option linter.unusedVariables false
set_option linter.unusedSimpArgs false

theorem allWT_cons {tab : Tab} {n t : Nat} {ts : List Nat} {dss : List (List D)} (h : AllWT tab n (t :: ts) dss) : ∃ d ds, dss = d :: ds ∧ WT tab n t d ∧ AllWT tab n ts ds := by
  cases dss with
  | nil => exact h.elim
  | cons d ds => exact ⟨d, ds, rfl, h.1, h.2⟩
theorem allWT_nil {tab : Tab} {n : Nat} {dss : List (List D)} (h : AllWT tab n [] dss) : dss = [] := by
  cases dss with
  | nil => rfl
  | cons d ds => exact h.elim
theorem all_enc {α : Type} {enc : α → List D} {p : List D → Prop} {q : α → Prop} (h : ∀ e, p e → ∃ x, e = enc x ∧ q x) : ∀ (es : List (List D)), (∀ e ∈ es, p e) → ∃ l : List α, es = l.map enc ∧ ∀ x ∈ l, q x
  | [], _ => ⟨[], rfl, by simp⟩
  | e :: t, hs => by
    obtain ⟨x, rfl, hx⟩ := h e (hs e (by simp))
    obtain ⟨l, rfl, hl⟩ := all_enc h t fun e he => hs e (by simp [he])
    exact ⟨x :: l, rfl, fun y hy => by
      rcases List.mem_cons.1 hy with rfl | hy
      · exact hx
      · exact hl y hy⟩
def I64 (n : Int) : Prop := -9223372036854775808 ≤ n ∧ n ≤ 9223372036854775807
theorem wt_int {n : Nat} {ds : List D} (h : WT tab (n + 1) 3 ds) : ∃ m, ds = [.int .i64 m] ∧ I64 m := by
  have h : ∃ m, ds = [.int .i64 m] ∧ (Lit.int .i64 m).wf = true := h
  obtain ⟨m, rfl, hm⟩ := h
  refine ⟨m, rfl, ?_⟩
  simp [Lit.wf, IntKind.wrap, IntKind.bits, IntKind.signed] at hm
  exact hm
theorem wt_bool {n : Nat} {ds : List D} (h : WT tab (n + 1) 4 ds) : ∃ b, ds = [.bool b] := h
theorem wt_string {n : Nat} {ds : List D} (h : WT tab (n + 1) 9 ds) : ∃ s, ds = [.str s] ∧ s.size ≤ 140737488351232 := h
def encInt (x : Int) : List D := [.int .i64 x]
theorem wt_ints {n : Nat} {ds : List D} (h : WT tab (n + 2) 41 ds) : ∃ l : List Int, ds = [.list (l.map encInt)] ∧ l.length * 8 ≤ 140737488351232 ∧ ∀ x ∈ l, I64 x := by
  obtain ⟨es, rfl, h1, h2⟩ := (h : ∃ es, ds = [.list es] ∧ es.length * 8 ≤ 140737488351232 ∧ ∀ e' ∈ es, WT tab (n + 1) 3 e')
  obtain ⟨l, rfl, hl⟩ := all_enc (enc := encInt) (fun e he => wt_int he) es h2
  exact ⟨l, rfl, by rw [List.length_map] at h1; exact h1, hl⟩
end AM
end Go.Proofs.Ytlioojekjnigiab
/- Servers, plain: gathered out of the old sources. -/
namespace Go.Proofs.Ytlioojekjnigiab.AM.Sk
set_option linter.unusedVariables false
set_option linter.unusedSimpArgs false

/-- A wait of a server. -/
structure Wt where
  number : Int
  time : Int
  final : Bool
/-- skeen.isNumber -/
def isNum (n : Int) : Bool := decide (1 ≤ n) && decide (n ≤ 20)
/-- skeen.isAhead -/
def Wt.ahead (x y : Wt) : Bool := if x.time = y.time then decide (x.number < y.number) else decide (x.time < y.time)
/-- skeen.first -/
def firstUpto (ws : List Wt) : Nat → Nat
  | 0 => 0
  | k + 1 => match ws[k]?, ws[firstUpto ws k]? with
    | some x, some y => if x.ahead y then k else firstUpto ws k
    | _, _ => firstUpto ws k
def firstAt (ws : List Wt) : Nat := firstUpto ws ws.length
theorem firstUpto_lt (ws : List Wt) : ∀ k, k ≤ ws.length → 0 < ws.length → firstUpto ws k < ws.length
  | 0, _, h => h
  | k + 1, hk, h => by
    have ih := firstUpto_lt ws k (by omega) h
    unfold firstUpto
    split
    · split
      · omega
      · exact ih
    · exact ih
theorem firstUpto_step {ws : List Wt} {k : Nat} {x y : Wt} (hx : ws[k]? = some x) (hy : ws[firstUpto ws k]? = some y) : firstUpto ws (k + 1) = if x.ahead y then k else firstUpto ws k := by
  rw [firstUpto, hx, hy]
/-- skeen.isFinalFirst -/
def finalFirst (ws : List Wt) : Bool := match ws[firstAt ws]? with
  | some x => x.final
  | none => false
/-- skeen.find -/
def findAt (ws : List Wt) (n : Int) : Option Nat := ws.findIdx? fun x => decide (x.number = n)
def optInt : Option Nat → Int
  | some i => i
  | none => -1
theorem findAt_some {ws : List Wt} {n : Int} {k : Nat} {x : Wt} (hx : ws[k]? = some x) (hn : x.number = n) (hj : ∀ j, j < k → ∀ d, ws[j]? = some d → d.number ≠ n) : findAt ws n = some k := by
  obtain ⟨hlt, rfl⟩ := List.getElem?_eq_some_iff.1 hx
  unfold findAt
  rw [List.findIdx?_eq_some_iff_getElem]
  refine ⟨hlt, by simpa using hn, fun j hjk => ?_⟩
  have := hj j hjk _ (List.getElem?_eq_getElem (by omega))
  simpa using this
theorem findAt_none {ws : List Wt} {n : Int} (hj : ∀ (j : Nat) (d : Wt), ws[j]? = some d → d.number ≠ n) : findAt ws n = none := by
  unfold findAt
  rw [List.findIdx?_eq_none_iff]
  intro x hx
  obtain ⟨j, h⟩ := List.mem_iff_getElem?.1 hx
  simpa using hj j x h
theorem findAt_is {ws : List Wt} {n : Int} {k : Nat} (h : findAt ws n = some k) : ∃ x, ws[k]? = some x ∧ x.number = n := by
  unfold findAt at h
  rw [List.findIdx?_eq_some_iff_getElem] at h
  obtain ⟨hlt, hn, _⟩ := h
  exact ⟨_, List.getElem?_eq_getElem hlt, by simpa using hn⟩
theorem findAt_not {ws : List Wt} {n : Int} (h : findAt ws n = none) : ∀ x ∈ ws, x.number ≠ n := by
  unfold findAt at h
  rw [List.findIdx?_eq_none_iff] at h
  intro x hx
  simpa using h x hx
/-- The first error of some. -/
def firstErr (f : Nat → Int) : Nat → Int
  | 0 => 0
  | n + 1 => if firstErr f n = 0 then f n else firstErr f n
theorem firstErr_zero (f : Nat → Int) : ∀ n, (∀ j, j < n → f j = 0) → firstErr f n = 0
  | 0, _ => rfl
  | n + 1, h => by
    rw [firstErr, if_pos (firstErr_zero f n fun j hj => h j (by omega))]
    exact h n (by omega)
theorem firstErr_at (f : Nat → Int) (k : Nat) (h : ∀ j, j < k → f j = 0) (hk : f k ≠ 0) : ∀ n, k < n → firstErr f n = f k
  | 0, hn => by omega
  | n + 1, hn => by
    by_cases e : n = k
    · subst e
      rw [firstErr, if_pos (firstErr_zero f n h)]
    · have ih := firstErr_at f k h hk n (by omega)
      rw [firstErr, if_neg (by rw [ih]; exact hk), ih]
theorem firstErr_all (f : Nat → Int) : ∀ n, firstErr f n = 0 → ∀ j, j < n → f j = 0
  | 0, _, j, hj => by omega
  | n + 1, h, j, hj => by
    rw [firstErr] at h
    split at h
    · rename_i h0
      by_cases e : j = n
      · rw [e]; exact h
      · exact firstErr_all f n h0 j (by omega)
    · rename_i h0; exact absurd h h0
/-- What is wrong with a wait. -/
def waitErr (clock : Int) (ws : List Wt) (i : Nat) : Int := match ws[i]? with
  | none => 0
  | some x => if isNum x.number = false ∨ x.time < 1 ∨ clock < x.time then 3 else match i with
    | 0 => 0
    | j + 1 => match ws[j]? with
      | none => 0
      | some y => if x.number ≤ y.number then 4 else 0
/-- A server. -/
structure Sv where
  clock : Int
  waits : List Wt
  done : List Int
def zeroSv : Sv := ⟨0, [], []⟩
/-- What is wrong with one that is done. -/
def doneErr (s : Sv) (i : Nat) : Int := match s.done[i]? with
  | none => 0
  | some x => if isNum x = false then 3 else if x ∈ s.done.take i ∨ (findAt s.waits x).isSome = true then 6 else 0
theorem optInt_nonneg (o : Option Nat) : decide (0 ≤ optInt o) = o.isSome := by
  cases o with
  | none => rfl
  | some i => simp [optInt]
/-- The error of Check. -/
def Sv.err (s : Sv) : Int :=
  if s.clock < 0 ∨ 999 < s.clock then 3 else if 8 < s.waits.length ∨ 30 < s.done.length then 2
  else if firstErr (waitErr s.clock s.waits) s.waits.length ≠ 0 then firstErr (waitErr s.clock s.waits) s.waits.length
  else if firstErr (doneErr s) s.done.length ≠ 0 then firstErr (doneErr s) s.done.length
  else if finalFirst s.waits then 4 else 0
set_option linter.unusedVariables false

theorem Try.infoWait : (Try.prog.info? 64).map (fun i => (i.zero, i.size, i.bytes)) = some (some (.agg #[.int .i64 0, .int .i64 0, .bool false]), 3, 24) := by kernel_rfl
theorem Try.infoInt : (Try.prog.info? 3).map (fun i => (i.zero, i.size, i.bytes)) = some (some (.int .i64 0), 1, 8) := by kernel_rfl
/-- Where a wait is put in. -/
def insAt : List Wt → Int → Nat
  | [], _ => 0
  | d :: ds, n => if d.number < n then insAt ds n + 1 else 0
theorem insAt_is : ∀ (ws : List Wt) (n : Int) (k : Nat), (∀ j, j < k → ∀ d, ws[j]? = some d → d.number < n) → k ≤ ws.length → (∀ d, ws[k]? = some d → ¬ d.number < n) → insAt ws n = k
  | [], n, k, _, hk, _ => by simp at hk; simp [insAt, hk]
  | d :: ds, n, 0, _, _, h => by rw [insAt, if_neg (h d rfl)]
  | d :: ds, n, k + 1, h1, hk, h2 => by
    rw [insAt, if_pos (h1 0 (by omega) d rfl), insAt_is ds n k (fun j hj e he => h1 (j + 1) (by omega) e (by simpa using he)) (by simpa using hk) (fun e he => h2 e (by simpa using he))]
theorem insAt_le : ∀ (ws : List Wt) (n : Int), insAt ws n ≤ ws.length
  | [], _ => Nat.le_refl _
  | d :: ds, n => by
    have := insAt_le ds n
    rw [insAt]
    split <;> simp <;> omega
def insertW (ws : List Wt) (x : Wt) : List Wt := ws.take (insAt ws x.number) ++ x :: ws.drop (insAt ws x.number)
theorem insertW_length (ws : List Wt) (x : Wt) : (insertW ws x).length = ws.length + 1 := by
  have := insAt_le ws x.number
  simp [insertW]
  omega
/-- What is wrong with an entry that is proposed to a server that is right. -/
def propErr (s : Sv) (n : Int) : Int := if isNum n = false then 3 else if (findAt s.waits n).isSome = true ∨ n ∈ s.done then 6 else if s.waits.length = 8 ∨ s.clock = 999 then 2 else 0
def propSv (s : Sv) (n : Int) : Sv := ⟨s.clock + 1, insertW s.waits ⟨n, s.clock + 1, false⟩, s.done⟩
theorem Sv.fine {s : Sv} (h : s.err = 0) : (0 ≤ s.clock ∧ s.clock ≤ 999) ∧ s.waits.length ≤ 8 ∧ s.done.length ≤ 30 ∧ firstErr (waitErr s.clock s.waits) s.waits.length = 0 ∧ firstErr (doneErr s) s.done.length = 0 ∧ finalFirst s.waits = false := by
  unfold Sv.err at h
  split at h
  · cases h
  rename_i h1
  split at h
  · cases h
  rename_i h2
  split at h
  · rename_i h3; exact absurd h h3
  rename_i h3
  split at h
  · rename_i h4; exact absurd h h4
  rename_i h4
  split at h
  · cases h
  rename_i h5
  exact ⟨by omega, by omega, by omega, Decidable.not_not.1 h3, Decidable.not_not.1 h4, by simpa using h5⟩
/-- The errno of Propose, and the server. -/
def Sv.propE (s : Sv) (n : Int) : Int := if s.err ≠ 0 then s.err else propErr s n
def Sv.propR (s : Sv) (n : Int) : Sv := if s.propE n = 0 then propSv s n else zeroSv
/-- Those that are final are done, in order, till one is not. -/
def settle : Nat → List Wt → List Int → List Wt × List Int
  | 0, ws, ds => (ws, ds)
  | f + 1, ws, ds => match ws[firstAt ws]? with
    | some x => if x.final then settle f (ws.eraseIdx (firstAt ws)) (ds ++ [x.number]) else (ws, ds)
    | none => (ws, ds)
theorem settle_stop {ws : List Wt} (h : finalFirst ws = false) (ds : List Int) : ∀ f, settle f ws ds = (ws, ds)
  | 0 => rfl
  | f + 1 => by
    unfold finalFirst at h
    rw [settle]
    cases hx : ws[firstAt ws]? with
    | none => rfl
    | some x => rw [hx] at h; simp only at h; simp [h]
theorem settle_step {ws : List Wt} {x : Wt} (hx : ws[firstAt ws]? = some x) (hf : x.final = true) (ds : List Int) (f : Nat) : settle (f + 1) ws ds = settle f (ws.eraseIdx (firstAt ws)) (ds ++ [x.number]) := by
  rw [settle, hx]
  simp [hf]
theorem finalFirst_some {ws : List Wt} (h : finalFirst ws = true) : ∃ x, ws[firstAt ws]? = some x ∧ x.final = true := by
  unfold finalFirst at h
  cases hx : ws[firstAt ws]? with
  | none => rw [hx] at h; cases h
  | some x => rw [hx] at h; exact ⟨x, rfl, h⟩
/-- What a server is behind Commit, and what is wrong. -/
def commSv (s : Sv) (n t : Int) (i : Nat) : Sv := ⟨max s.clock t, (settle s.waits.length (s.waits.set i ⟨n, t, true⟩) s.done).1, (settle s.waits.length (s.waits.set i ⟨n, t, true⟩) s.done).2⟩
def commErr (s : Sv) (n t : Int) : Int := if isNum n = false ∨ t < 1 ∨ 999 < t then 3 else match findAt s.waits n with
  | none => 5
  | some i => match s.waits[i]? with
    | none => 5
    | some x => if x.final = true ∨ t < x.time then 4 else if 30 < (commSv s n t i).done.length then 2 else 0
theorem commErr_zero {s : Sv} {n t : Int} (h : commErr s n t = 0) : isNum n = true ∧ 1 ≤ t ∧ t ≤ 999 ∧ ∃ i x, findAt s.waits n = some i ∧ s.waits[i]? = some x ∧ x.number = n ∧ x.final = false ∧ x.time ≤ t ∧ (commSv s n t i).done.length ≤ 30 := by
  unfold commErr at h
  split at h
  · cases h
  rename_i h1
  have h2 : isNum n = true := by
    cases hn : isNum n
    · exact absurd (.inl hn) h1
    · rfl
  refine ⟨h2, by omega, by omega, ?_⟩
  cases hf : findAt s.waits n with
  | none => rw [hf] at h; cases h
  | some i =>
    rw [hf] at h
    simp only at h
    obtain ⟨x, hx, hxn⟩ := findAt_is hf
    rw [hx] at h
    simp only at h
    split at h
    · cases h
    rename_i h3
    split at h
    · cases h
    rename_i h4
    exact ⟨i, x, rfl, hx, hxn, by cases hxf : x.final; rfl; exact absurd (.inl hxf) h3, by omega, by omega⟩
theorem settle_len : ∀ (f : Nat) (ws : List Wt) (ds : List Int), (settle f ws ds).1.length ≤ ws.length
  | 0, _, _ => Nat.le_refl _
  | f + 1, ws, ds => by
    rw [settle]
    split
    · split
      · exact Nat.le_trans (settle_len f _ _) (by rw [List.length_eraseIdx]; split <;> omega)
      · exact Nat.le_refl _
    · exact Nat.le_refl _
/-- The errno of Commit, and the server. -/
def Sv.commE (s : Sv) (n t : Int) : Int := if s.err ≠ 0 then s.err else commErr s n t
def Sv.commR (s : Sv) (n t : Int) : Sv := if s.commE n t = 0 then commSv s n t ((findAt s.waits n).getD 0) else zeroSv
theorem ahead_irrefl (x : Wt) : x.ahead x = false := by simp [Wt.ahead]
theorem ahead_trans {x y z : Wt} (h1 : x.ahead y = true) (h2 : y.ahead z = true) : x.ahead z = true := by
  unfold Wt.ahead at *
  split at h1 <;> split at h2 <;> split <;> simp at * <;> omega
theorem ahead_total {x y : Wt} (hn : x.number ≠ y.number) (h : x.ahead y = false) : y.ahead x = true := by
  unfold Wt.ahead at *
  split at h <;> split <;> simp at * <;> omega
theorem ahead_not_trans {x y z : Wt} (h1 : x.ahead y = true) (h2 : z.ahead y = false) : z.ahead x = false := by
  cases h : z.ahead x
  · rfl
  · rw [ahead_trans h h1] at h2; cases h2
/-- The first one is ahead of all. -/
theorem firstUpto_least (ws : List Wt) : ∀ k, k ≤ ws.length → 0 < ws.length → ∃ x, ws[firstUpto ws k]? = some x ∧ ∀ j, j < k → ∀ y, ws[j]? = some y → y.ahead x = false
  | 0, _, h => ⟨ws[0], List.getElem?_eq_getElem h, fun j hj => by omega⟩
  | k + 1, hk, h => by
    obtain ⟨x, hx, hl⟩ := firstUpto_least ws k (by omega) h
    have hy : ws[k]? = some ws[k] := List.getElem?_eq_getElem (by omega)
    generalize ws[k] = y at hy
    rw [firstUpto_step hy hx]
    cases ha : y.ahead x
    · refine ⟨x, by simpa using hx, fun j hj z hz => ?_⟩
      by_cases e : j = k
      · subst e; rw [hy] at hz; cases hz; exact ha
      · exact hl j (by omega) z hz
    · refine ⟨y, by simpa using hy, fun j hj z hz => ?_⟩
      by_cases e : j = k
      · subst e; rw [hy] at hz; cases hz; exact ahead_irrefl _
      · exact ahead_not_trans ha (hl j (by omega) z hz)
theorem firstAt_least {ws : List Wt} (h : ws ≠ []) : ∃ x, ws[firstAt ws]? = some x ∧ ∀ y ∈ ws, y.ahead x = false := by
  obtain ⟨x, hx, hl⟩ := firstUpto_least ws ws.length (Nat.le_refl _) (List.length_pos_iff.2 h)
  refine ⟨x, hx, fun y hy => ?_⟩
  obtain ⟨j, hj⟩ := List.mem_iff_getElem?.1 hy
  exact hl j (List.getElem?_eq_some_iff.1 hj).1 y hj
/-- Numbers that rise. -/
def Rises (ws : List Wt) : Prop := ws.Pairwise fun x y => x.number < y.number
theorem Rises.inj {ws : List Wt} (h : Rises ws) {x y : Wt} (hx : x ∈ ws) (hy : y ∈ ws) (hn : x.number = y.number) : x = y := by
  induction ws with
  | nil => cases hx
  | cons z zs ih =>
    unfold Rises at h
    rw [List.pairwise_cons] at h
    rcases List.mem_cons.1 hx with rfl | hx' <;> rcases List.mem_cons.1 hy with rfl | hy'
    · rfl
    · have := h.1 _ hy'; omega
    · have := h.1 _ hx'; omega
    · exact ih h.2 hx' hy'
theorem finalFirst_iff {ws : List Wt} (hr : Rises ws) : finalFirst ws = true ↔ ∃ x ∈ ws, x.final = true ∧ ∀ y ∈ ws, y.ahead x = false := by
  constructor
  · intro h
    obtain ⟨x, hx, hf⟩ := finalFirst_some h
    have hne : ws ≠ [] := by rintro rfl; cases hx
    obtain ⟨x', hx', hl⟩ := firstAt_least hne
    rw [hx] at hx'
    cases hx'
    exact ⟨x, List.mem_of_getElem? hx, hf, hl⟩
  · rintro ⟨x, hx, hf, hl⟩
    have hne : ws ≠ [] := by rintro rfl; cases hx
    obtain ⟨z, hz, hzl⟩ := firstAt_least hne
    have e : z = x := by
      have hzm := List.mem_of_getElem? hz
      by_cases hn : z.number = x.number
      · exact hr.inj hzm hx hn
      · have := ahead_total hn (hl z hzm)
        rw [hzl x hx] at this
        cases this
    rw [finalFirst, hz, e]
    exact hf
/-- A server that is right. -/
structure Right (s : Sv) : Prop where
  clock : 0 ≤ s.clock ∧ s.clock ≤ 999
  len : s.waits.length ≤ 8
  len2 : s.done.length ≤ 30
  waits : ∀ x ∈ s.waits, isNum x.number = true ∧ 1 ≤ x.time ∧ x.time ≤ s.clock
  rises : Rises s.waits
  done : ∀ d ∈ s.done, isNum d = true
  once : s.done.Nodup
  apart : ∀ d ∈ s.done, ∀ x ∈ s.waits, x.number ≠ d
  first : finalFirst s.waits = false
theorem rises_of {ws : List Wt} (h : ∀ i x y, ws[i]? = some x → ws[i + 1]? = some y → x.number < y.number) : Rises ws := by
  induction ws with
  | nil => exact List.Pairwise.nil
  | cons z zs ih =>
    have ih' := ih fun i x y hx hy => h (i + 1) x y (by simpa using hx) (by simpa using hy)
    refine List.pairwise_cons.2 ⟨fun a ha => ?_, ih'⟩
    cases zs with
    | nil => cases ha
    | cons u us =>
      have h0 := h 0 z u rfl rfl
      rcases List.mem_cons.1 ha with rfl | ha
      · exact h0
      · have := (List.pairwise_cons.1 ih').1 a ha
        omega
theorem nodup_of {ds : List Int} (h : ∀ (i : Nat) (d : Int), ds[i]? = some d → d ∉ ds.take i) : ds.Nodup := by
  refine List.pairwise_iff_getElem.2 fun i j hi hj hij e => ?_
  refine h j _ (List.getElem?_eq_getElem hj) ?_
  rw [List.mem_iff_getElem?]
  exact ⟨i, by rw [List.getElem?_take, if_pos hij, List.getElem?_eq_getElem hi, e]⟩
theorem findAt_isSome {ws : List Wt} {n : Int} : (findAt ws n).isSome = true ↔ ∃ x ∈ ws, x.number = n := by
  constructor
  · intro h
    obtain ⟨k, hk⟩ := Option.isSome_iff_exists.1 h
    obtain ⟨x, hx, hn⟩ := findAt_is hk
    exact ⟨x, List.mem_of_getElem? hx, hn⟩
  · rintro ⟨x, hx, hn⟩
    cases hf : findAt ws n with
    | none => exact absurd hn (findAt_not hf x hx)
    | some k => rfl
theorem right_of_err {s : Sv} (h : s.err = 0) : Right s := by
  obtain ⟨h1, h2, h3, h4, h5, h6⟩ := Sv.fine h
  have w1 : ∀ (i : Nat) (x : Wt), s.waits[i]? = some x → ¬ (isNum x.number = false ∨ x.time < 1 ∨ s.clock < x.time) ∧ ∀ (j : Nat) (y : Wt), i = j + 1 → s.waits[j]? = some y → ¬ x.number ≤ y.number := fun i x hx => by
    have h0 := firstErr_all _ _ h4 i (List.getElem?_eq_some_iff.1 hx).1
    rw [waitErr, hx] at h0
    simp only at h0
    split at h0
    · cases h0
    rename_i hb
    refine ⟨hb, fun j y e hy hle => ?_⟩
    subst e
    simp only [hy] at h0
    rw [if_pos hle] at h0
    cases h0
  have d1 : ∀ (i : Nat) (d : Int), s.done[i]? = some d → isNum d = true ∧ d ∉ s.done.take i ∧ (findAt s.waits d).isSome = false := fun i d hd => by
    have h0 := firstErr_all _ _ h5 i (List.getElem?_eq_some_iff.1 hd).1
    rw [doneErr, hd] at h0
    simp only at h0
    split at h0
    · cases h0
    rename_i hb
    split at h0
    · cases h0
    rename_i hc
    refine ⟨by simpa using hb, fun hm => hc (.inl hm), ?_⟩
    cases hf : (findAt s.waits d).isSome
    · rfl
    · exact absurd (.inr hf) hc
  refine ⟨h1, h2, h3, fun x hx => ?_, rises_of fun i x y hx hy => ?_, fun d hd => ?_, nodup_of fun i d hd => (d1 i d hd).2.1, fun d hd x hx e => ?_, h6⟩
  · obtain ⟨i, hi⟩ := List.mem_iff_getElem?.1 hx
    have hb := (w1 i x hi).1
    refine ⟨?_, by omega, by omega⟩
    cases hn : isNum x.number
    · exact absurd (.inl hn) hb
    · rfl
  · have := (w1 (i + 1) y hy).2 i x rfl hx
    omega
  · obtain ⟨i, hi⟩ := List.mem_iff_getElem?.1 hd
    exact (d1 i d hi).1
  · obtain ⟨i, hi⟩ := List.mem_iff_getElem?.1 hd
    have := (d1 i d hi).2.2
    rw [findAt_isSome.2 ⟨x, hx, e⟩] at this
    cases this
theorem err_of_right {s : Sv} (h : Right s) : s.err = 0 := by
  have w0 : firstErr (waitErr s.clock s.waits) s.waits.length = 0 := firstErr_zero _ _ fun i hi => by
    have hx : s.waits[i]? = some s.waits[i] := List.getElem?_eq_getElem hi
    generalize s.waits[i] = x at hx
    obtain ⟨a1, a2, a3⟩ := h.waits x (List.mem_of_getElem? hx)
    rw [waitErr, hx]
    simp only
    rw [if_neg (by rw [a1]; rintro (h | h | h); cases h; omega; omega)]
    cases i with
    | zero => rfl
    | succ j =>
      simp only
      have hy : s.waits[j]? = some s.waits[j] := List.getElem?_eq_getElem (by omega)
      have hx' : s.waits[j + 1] = x := by rw [List.getElem?_eq_getElem hi] at hx; exact Option.some.inj hx
      have := List.pairwise_iff_getElem.1 h.rises j (j + 1) (by omega) hi (by omega)
      rw [hx'] at this
      rw [hy]
      simp only
      rw [if_neg (by omega)]
  have d0 : firstErr (doneErr s) s.done.length = 0 := firstErr_zero _ _ fun i hi => by
    have hd : s.done[i]? = some s.done[i] := List.getElem?_eq_getElem hi
    have hdm := List.mem_of_getElem? hd
    rw [doneErr, hd]
    simp only
    rw [if_neg (by rw [h.done _ hdm]; decide), if_neg]
    rintro (hm | hf)
    · obtain ⟨j, hj⟩ := List.mem_iff_getElem?.1 hm
      rw [List.getElem?_take] at hj
      split at hj
      · rename_i hji
        have := List.pairwise_iff_getElem.1 h.once j i (by omega) hi hji
        rw [List.getElem?_eq_getElem (by omega)] at hj
        exact this (Option.some.inj hj)
      · cases hj
    · obtain ⟨x, hx, hn⟩ := findAt_isSome.1 hf
      exact h.apart _ hdm x hx hn
  unfold Sv.err
  rw [if_neg (by have := h.clock; omega), if_neg (by have := h.len; have := h.len2; omega), w0, d0, h.first]
  rfl
theorem mem_insertW {ws : List Wt} {x y : Wt} : y ∈ insertW ws x ↔ y = x ∨ y ∈ ws := by
  unfold insertW
  generalize insAt ws x.number = k
  rw [List.mem_append, List.mem_cons]
  constructor
  · rintro (h | rfl | h)
    · exact .inr (List.mem_of_mem_take h)
    · exact .inl rfl
    · exact .inr (List.mem_of_mem_drop h)
  · rintro (rfl | h)
    · exact .inr (.inl rfl)
    · rw [← List.take_append_drop k ws] at h
      exact (List.mem_append.1 h).imp id .inr
theorem insertW_rises : ∀ {ws : List Wt} {x : Wt}, Rises ws → (∀ y ∈ ws, y.number ≠ x.number) → Rises (insertW ws x)
  | [], x, _, _ => by simp [insertW, insAt, Rises]
  | d :: ds, x, h, hn => by
    obtain ⟨h1, h2⟩ := List.pairwise_cons.1 h
    have hd := hn d (List.mem_cons_self ..)
    by_cases hlt : d.number < x.number
    · have e : insertW (d :: ds) x = d :: insertW ds x := by simp [insertW, insAt, hlt]
      rw [e]
      refine List.pairwise_cons.2 ⟨fun y hy => ?_, insertW_rises h2 fun y hy => hn y (List.mem_cons_of_mem _ hy)⟩
      rcases mem_insertW.1 hy with rfl | hy
      · exact hlt
      · exact h1 y hy
    · have e : insertW (d :: ds) x = x :: d :: ds := by simp [insertW, insAt, hlt]
      rw [e]
      refine List.pairwise_cons.2 ⟨fun y hy => ?_, h⟩
      rcases List.mem_cons.1 hy with rfl | hy
      · omega
      · have := h1 y hy; omega
theorem propErr_zero {s : Sv} {n : Int} (h : propErr s n = 0) : isNum n = true ∧ (∀ x ∈ s.waits, x.number ≠ n) ∧ n ∉ s.done ∧ s.waits.length ≠ 8 ∧ s.clock ≠ 999 := by
  unfold propErr at h
  split at h
  · cases h
  rename_i h1
  split at h
  · cases h
  rename_i h2
  split at h
  · cases h
  rename_i h3
  refine ⟨by simpa using h1, fun x hx e => h2 (.inl (findAt_isSome.2 ⟨x, hx, e⟩)), fun hm => h2 (.inr hm), fun e => h3 (.inl e), fun e => h3 (.inr e)⟩
theorem prop_right {s : Sv} {n : Int} (h : Right s) (hp : propErr s n = 0) : Right (propSv s n) := by
  obtain ⟨h1, h2, h3, h4, h5⟩ := propErr_zero hp
  have hc := h.clock
  have hr : Rises (insertW s.waits ⟨n, s.clock + 1, false⟩) := insertW_rises h.rises h2
  refine ⟨⟨by simp only [propSv]; omega, by simp only [propSv]; omega⟩, by simp only [propSv, insertW_length]; have := h.len; omega, h.len2, fun x hx => ?_, hr, h.done, h.once, fun d hd x hx => ?_, ?_⟩
  · rcases mem_insertW.1 hx with rfl | hx
    · exact ⟨h1, by simp only; omega, by simp only [propSv]; omega⟩
    · obtain ⟨a, b, c⟩ := h.waits x hx
      exact ⟨a, b, by simp only [propSv]; omega⟩
  · rcases mem_insertW.1 hx with rfl | hx
    · rintro rfl; exact h3 hd
    · exact h.apart d hd x hx
  · cases hf : finalFirst (propSv s n).waits
    · rfl
    · obtain ⟨x, hx, hxf, hl⟩ := (finalFirst_iff hr).1 hf
      rcases mem_insertW.1 hx with rfl | hx
      · cases hxf
      · have := (finalFirst_iff h.rises).2 ⟨x, hx, hxf, fun y hy => hl y (mem_insertW.2 (.inr hy))⟩
        rw [h.first] at this
        cases this
/-- All but that nothing final is first. -/
structure Right0 (c : Int) (ws : List Wt) (ds : List Int) : Prop where
  clock : 0 ≤ c ∧ c ≤ 999
  len : ws.length ≤ 8
  waits : ∀ x ∈ ws, isNum x.number = true ∧ 1 ≤ x.time ∧ x.time ≤ c
  rises : Rises ws
  done : ∀ d ∈ ds, isNum d = true
  once : ds.Nodup
  apart : ∀ d ∈ ds, ∀ x ∈ ws, x.number ≠ d
theorem rises_erase {ws : List Wt} {k : Nat} {x : Wt} (h : Rises ws) (hx : ws[k]? = some x) : ∀ y ∈ ws.eraseIdx k, y.number ≠ x.number := by
  intro y hy
  obtain ⟨hk, rfl⟩ := List.getElem?_eq_some_iff.1 hx
  rw [List.eraseIdx_eq_take_drop_succ] at hy
  have e : ws = ws.take k ++ ws[k] :: ws.drop (k + 1) := by simp
  unfold Rises at h
  rw [e, List.pairwise_append] at h
  obtain ⟨_, h2, h3⟩ := h
  rcases List.mem_append.1 hy with hy | hy
  · have := h3 y hy ws[k] (List.mem_cons_self ..)
    omega
  · have := (List.pairwise_cons.1 h2).1 y hy
    omega
theorem Right0.step {c : Int} {ws : List Wt} {ds : List Int} (h : Right0 c ws ds) {k : Nat} {x : Wt} (hx : ws[k]? = some x) : Right0 c (ws.eraseIdx k) (ds ++ [x.number]) := by
  have hm := List.mem_of_getElem? hx
  have hsub : ∀ y ∈ ws.eraseIdx k, y ∈ ws := fun y hy => List.mem_of_mem_eraseIdx hy
  refine ⟨h.clock, by have := h.len; rw [List.length_eraseIdx]; split <;> omega, fun y hy => h.waits y (hsub y hy), List.Pairwise.sublist (List.eraseIdx_sublist ..) h.rises, fun d hd => ?_, ?_, fun d hd y hy => ?_⟩
  · rcases List.mem_append.1 hd with hd | hd
    · exact h.done d hd
    · rw [List.mem_singleton.1 hd]; exact (h.waits x hm).1
  · rw [List.nodup_append]
    exact ⟨h.once, by simp, fun a ha b hb e => by rw [List.mem_singleton.1 hb] at e; exact h.apart a ha x hm e.symm⟩
  · rcases List.mem_append.1 hd with hd | hd
    · exact h.apart d hd y (hsub y hy)
    · rw [List.mem_singleton.1 hd]; exact rises_erase h.rises hx y hy
theorem settle_right : ∀ (f : Nat) {c : Int} {ws : List Wt} {ds : List Int}, Right0 c ws ds → Right0 c (settle f ws ds).1 (settle f ws ds).2
  | 0, _, _, _, h => h
  | f + 1, c, ws, ds, h => by
    rw [settle]
    cases hx : ws[firstAt ws]? with
    | none => exact h
    | some x =>
      simp only
      split
      · exact settle_right f (h.step hx)
      · exact h
theorem settle_end : ∀ (f : Nat) (ws : List Wt) (ds : List Int), ws.length ≤ f → finalFirst (settle f ws ds).1 = false
  | 0, ws, ds, h => by
    obtain rfl : ws = [] := List.length_eq_zero_iff.1 (by omega)
    rfl
  | f + 1, ws, ds, h => by
    rw [settle]
    cases hx : ws[firstAt ws]? with
    | none => simp only; rw [finalFirst, hx]
    | some x =>
      simp only
      split
      · exact settle_end f _ _ (by have := (List.getElem?_eq_some_iff.1 hx).1; rw [List.length_eraseIdx]; split <;> omega)
      · rename_i hf; rw [finalFirst, hx]; simpa using hf
theorem settle_more : ∀ (f : Nat) (ws : List Wt) (ds : List Int), (∃ l, (settle f ws ds).2 = ds ++ l) ∧ (settle f ws ds).1.length + (settle f ws ds).2.length = ws.length + ds.length
  | 0, ws, ds => ⟨⟨[], by simp [settle]⟩, rfl⟩
  | f + 1, ws, ds => by
    rw [settle]
    cases hx : ws[firstAt ws]? with
    | none => exact ⟨⟨[], by simp⟩, rfl⟩
    | some x =>
      simp only
      split
      · obtain ⟨⟨l, hl⟩, he⟩ := settle_more f (ws.eraseIdx (firstAt ws)) (ds ++ [x.number])
        refine ⟨⟨x.number :: l, by rw [hl]; simp⟩, ?_⟩
        have hlt := (List.getElem?_eq_some_iff.1 hx).1
        rw [he, List.length_eraseIdx, if_pos hlt]
        simp
        omega
      · exact ⟨⟨[], by simp⟩, rfl⟩
theorem set_rises {ws : List Wt} {i : Nat} {x a : Wt} (h : Rises ws) (hx : ws[i]? = some x) (hn : a.number = x.number) : Rises (ws.set i a) := by
  have e : (ws.set i a).map Wt.number = ws.map Wt.number := by
    apply List.ext_getElem?
    intro j
    simp only [List.getElem?_map, List.getElem?_set]
    by_cases hij : i = j
    · subst hij
      rw [if_pos rfl, if_pos (List.getElem?_eq_some_iff.1 hx).1, hx]
      simp [hn]
    · rw [if_neg hij]
  have h1 : (ws.map Wt.number).Pairwise (· < ·) := List.pairwise_map.2 h
  rw [← e] at h1
  exact List.pairwise_map.1 h1
theorem comm_right0 {s : Sv} {n t : Int} {i : Nat} {x : Wt} (h : Right s) (hx : s.waits[i]? = some x) (hn : x.number = n) (ht : 1 ≤ t ∧ t ≤ 999) : Right0 (max s.clock t) (s.waits.set i ⟨n, t, true⟩) s.done := by
  have hc := h.clock
  have hm := List.mem_of_getElem? hx
  refine ⟨by omega, by rw [List.length_set]; exact h.len, fun y hy => ?_, set_rises h.rises hx hn.symm, h.done, h.once, fun d hd y hy => ?_⟩
  · rcases List.mem_or_eq_of_mem_set hy with hy | rfl
    · obtain ⟨a, b, c⟩ := h.waits y hy
      exact ⟨a, b, by omega⟩
    · have := (h.waits x hm).1
      rw [hn] at this
      exact ⟨this, by simp only; omega, by simp only; omega⟩
  · rcases List.mem_or_eq_of_mem_set hy with hy | rfl
    · exact h.apart d hd y hy
    · have := h.apart d hd x hm
      rw [hn] at this
      exact this
theorem comm_right {s : Sv} {n t : Int} (h : Right s) (he : commErr s n t = 0) {i : Nat} (hi : findAt s.waits n = some i) : Right (commSv s n t i) := by
  obtain ⟨_, t1, t2, j, x, hj, hx, hn, _, _, hd⟩ := commErr_zero he
  rw [hi] at hj
  cases hj
  have h0 := settle_right s.waits.length (comm_right0 h hx hn ⟨t1, t2⟩)
  exact ⟨h0.clock, h0.len, hd, h0.waits, h0.rises, h0.done, h0.once, h0.apart, settle_end _ _ _ (by simp)⟩
/-- skeen.checkAll -/
def allErr (ss : List Sv) (colors : Int) : Int := if ss.length ≠ 3 then 1 else if firstErr (fun i => match ss[i]? with | some s => s.err | none => 0) 3 ≠ 0 then firstErr (fun i => match ss[i]? with | some s => s.err | none => 0) 3 else if colors < 1 ∨ 7 < colors then 3 else 0
/-- Is a server of some colors? -/
def bitOf (colors : Int) (i : Nat) : Bool := decide (colors / 2 ^ i % 2 = 1)
/-- What every server of some colors does, up to the first error. -/
def eachGo (f : Sv → Int → Sv × Int × Int) (colors : Int) : Nat → Nat → List Sv → Int → List Sv × Int × Int
  | 0, _, ss, g => (ss, g, 0)
  | m + 1, i, ss, g => match ss[i]? with
    | none => (ss, g, 0)
    | some s => if bitOf colors i then (if (f s g).2.2 = 0 then eachGo f colors m (i + 1) (ss.set i (f s g).1) (f s g).2.1 else (ss, (f s g).2.1, (f s g).2.2)) else eachGo f colors m (i + 1) ss g
theorem bit_is (colors : Int) (hc : 1 ≤ colors ∧ colors ≤ 7) (k : Nat) (hk : k < 3) : (bits BinOp.and IntKind.i64 (colors / 2 ^ k) 1 == 0) = (!bitOf colors k) := by
  have h1 : colors = 1 ∨ colors = 2 ∨ colors = 3 ∨ colors = 4 ∨ colors = 5 ∨ colors = 6 ∨ colors = 7 := by omega
  have h2 : k = 0 ∨ k = 1 ∨ k = 2 := by omega
  rcases h1 with rfl | rfl | rfl | rfl | rfl | rfl | rfl <;> rcases h2 with rfl | rfl | rfl <;> first | rfl | decide
/-- What a server does, first and last. -/
def fP (n : Int) (s : Sv) (g : Int) : Sv × Int × Int := (s.propR n, max g (s.propR n).clock, s.propE n)
def fC (n : Int) (s : Sv) (g : Int) : Sv × Int × Int := (s.commR n g, g, s.commE n g)
/-- The errno of All, and the servers. -/
def allP (ss : List Sv) (n colors : Int) : List Sv × Int × Int := eachGo (fP n) colors 3 0 ss 0
def allC (ss : List Sv) (n colors : Int) : List Sv × Int × Int := eachGo (fC n) colors 3 0 (allP ss n colors).1 (allP ss n colors).2.1
def allE (ss : List Sv) (n colors : Int) : Int := if allErr ss colors ≠ 0 then allErr ss colors else if (allP ss n colors).2.2 ≠ 0 then (allP ss n colors).2.2 else (allC ss n colors).2.2
def allR (ss : List Sv) (n colors : Int) : List Sv := if allE ss n colors = 0 then (allC ss n colors).1 else []
theorem allErr_zero {ss : List Sv} {colors : Int} (h : allErr ss colors = 0) : ss.length = 3 ∧ (∀ s ∈ ss, s.err = 0) ∧ 1 ≤ colors ∧ colors ≤ 7 := by
  unfold allErr at h
  split at h
  · cases h
  rename_i h1
  have h3 : ss.length = 3 := Decidable.not_not.1 h1
  split at h
  · rename_i h2; exact absurd h h2
  rename_i h2
  split at h
  · cases h
  rename_i h4
  refine ⟨h3, fun s hs => ?_, by omega, by omega⟩
  obtain ⟨i, hi⟩ := List.mem_iff_getElem?.1 hs
  have := firstErr_all _ _ (Decidable.not_not.1 h2) i (by have := (List.getElem?_eq_some_iff.1 hi).1; omega)
  simp only [hi] at this
  exact this
theorem commE_parts {s : Sv} {n t : Int} (h : s.commE n t = 0) : s.err = 0 ∧ commErr s n t = 0 := by
  unfold Sv.commE at h
  split at h
  · rename_i h1; exact absurd h h1
  · rename_i h1; exact ⟨Decidable.not_not.1 h1, h⟩
theorem propE_parts {s : Sv} {n : Int} (h : s.propE n = 0) : s.err = 0 ∧ propErr s n = 0 := by
  unfold Sv.propE at h
  split at h
  · rename_i h1; exact absurd h h1
  · rename_i h1; exact ⟨Decidable.not_not.1 h1, h⟩
theorem comm_facts {s : Sv} {n t : Int} (h : s.commE n t = 0) : s.err = 0 ∧ (s.commR n t).err = 0 ∧ s.clock ≤ (s.commR n t).clock ∧ (∃ l, (s.commR n t).done = s.done ++ l) ∧ (s.commR n t).waits.length + (s.commR n t).done.length = s.waits.length + s.done.length := by
  obtain ⟨h1, h2⟩ := commE_parts h
  obtain ⟨_, _, _, i, x, hi, _⟩ := commErr_zero h2
  have e : s.commR n t = commSv s n t i := by rw [Sv.commR, if_pos h, hi]; rfl
  rw [e]
  obtain ⟨m1, m2⟩ := settle_more s.waits.length (s.waits.set i ⟨n, t, true⟩) s.done
  rw [List.length_set] at m2
  exact ⟨h1, err_of_right (comm_right (right_of_err h1) h2 hi), by simp only [commSv]; omega, m1, m2⟩
theorem prop_facts {s : Sv} {n : Int} (h : s.propE n = 0) : s.err = 0 ∧ (s.propR n).clock = s.clock + 1 ∧ (∀ x ∈ s.waits, x.time < (s.propR n).clock) ∧
    ((s.propR n).commE n (s.propR n).clock = 0 ∨ (s.propR n).commE n (s.propR n).clock = 2) ∧
    (s.waits = [] → (s.propR n).commE n (s.propR n).clock = 0 → ((s.propR n).commR n (s.propR n).clock).waits.length = 0 ∧ ((s.propR n).commR n (s.propR n).clock).done.length = s.done.length + 1) := by
  obtain ⟨h1, h2⟩ := propE_parts h
  have hr := right_of_err h1
  have e : s.propR n = propSv s n := by rw [Sv.propR, if_pos h]
  rw [e]
  have hr2 := prop_right hr h2
  obtain ⟨p1, p2, p3, p4, p5⟩ := propErr_zero h2
  have hc := hr.clock
  have hE : (propSv s n).commE n (propSv s n).clock = commErr (propSv s n) n (propSv s n).clock := by rw [Sv.commE, if_neg (by rw [err_of_right hr2]; simp)]
  have hm : (⟨n, s.clock + 1, false⟩ : Wt) ∈ (propSv s n).waits := mem_insertW.2 (.inl rfl)
  obtain ⟨i, hi⟩ := Option.isSome_iff_exists.1 (findAt_isSome.2 ⟨_, hm, rfl⟩)
  simp only at hi
  obtain ⟨x, hx, hxn⟩ := findAt_is hi
  have ex : x = ⟨n, s.clock + 1, false⟩ := hr2.rises.inj (List.mem_of_getElem? hx) hm hxn
  subst ex
  have hE2 : commErr (propSv s n) n (propSv s n).clock = if 30 < (commSv (propSv s n) n (propSv s n).clock i).done.length then 2 else 0 := by
    unfold commErr
    rw [if_neg (by rw [p1]; rintro (h | h | h); cases h; simp only [propSv] at h; omega; simp only [propSv] at h; omega), hi]
    simp only
    rw [hx]
    simp only
    rw [if_neg]
    rintro (h | h)
    · cases h
    · simp only [propSv] at h; omega
  refine ⟨h1, rfl, fun x hx => by have := (hr.waits x hx).2.2; simp only [propSv]; omega, ?_, fun hw h0 => ?_⟩
  · rw [hE, hE2]
    split
    · exact .inr rfl
    · exact .inl rfl
  · have eR : (propSv s n).commR n (propSv s n).clock = commSv (propSv s n) n (propSv s n).clock i := by rw [Sv.commR, if_pos h0, hi]; rfl
    have ew : (propSv s n).waits = [⟨n, s.clock + 1, false⟩] := by simp [propSv, hw, insertW, insAt]
    have i0 : i = 0 := by have := (List.getElem?_eq_some_iff.1 hx).1; rw [ew] at this; simp at this; omega
    subst i0
    have er : settle (propSv s n).waits.length ((propSv s n).waits.set 0 ⟨n, (propSv s n).clock, true⟩) (propSv s n).done = ([], s.done ++ [n]) := by
      rw [ew]
      simp [settle, firstAt, firstUpto, propSv]
    rw [eR]
    unfold commSv
    simp only
    rw [er]
    simp
theorem commR_zero {s : Sv} {n t : Int} (h : s.commE n t ≠ 0) : s.commR n t = zeroSv := by rw [Sv.commR, if_neg h]
def isBetween (n a b : Int) : Bool := decide (a ≤ n) && decide (n ≤ b)
/-- FirstWait: by the times, then by the places. -/
def beats (ws : List Wt) (m i : Nat) : Bool := match ws[m]?, ws[i]? with
  | some x, some y => decide (x.time < y.time) || (x.time == y.time && decide (m < i))
  | _, _ => false
def leads (ws : List Wt) (i : Nat) : Bool := (List.range ws.length).all fun m => !beats ws m i
def firstPlace (ws : List Wt) : Option Nat := (List.range ws.length).find? fun i => leads ws i
theorem leads_iff {ws : List Wt} {i : Nat} : leads ws i = true ↔ ∀ m, m < ws.length → beats ws m i = false := by
  unfold leads
  rw [List.all_eq_true]
  constructor
  · intro h m hm
    simpa using h m (by simpa using hm)
  · intro h m hm
    simpa using h m (by simpa using hm)
theorem rises_at {ws : List Wt} (h : Rises ws) {i j : Nat} {x y : Wt} (hx : ws[i]? = some x) (hy : ws[j]? = some y) (hij : i < j) : x.number < y.number := by
  obtain ⟨h1, rfl⟩ := List.getElem?_eq_some_iff.1 hx
  obtain ⟨h2, rfl⟩ := List.getElem?_eq_some_iff.1 hy
  exact List.pairwise_iff_getElem.1 h i j h1 h2 hij
theorem firstPlace_is {ws : List Wt} (h : Rises ws) (hn : ws ≠ []) : firstPlace ws = some (firstAt ws) := by
  obtain ⟨x, hx, hl⟩ := firstAt_least hn
  have hlt := (List.getElem?_eq_some_iff.1 hx).1
  unfold firstPlace
  rw [List.find?_range_eq_some]
  refine ⟨leads_iff.2 fun m hm => ?_, by simpa using hlt, fun j hj => ?_⟩
  · have hy : ws[m]? = some ws[m] := List.getElem?_eq_getElem hm
    generalize ws[m] = y at hy
    have ha := hl y (List.mem_of_getElem? hy)
    unfold beats
    rw [hy, hx]
    simp only
    unfold Wt.ahead at ha
    by_cases ht : y.time = x.time
    · rw [if_pos ht] at ha
      have hle : ¬ m < firstAt ws := fun hm' => by
        have := rises_at h hy hx hm'
        simp at ha
        omega
      simp [ht, hle]
    · rw [if_neg ht] at ha
      have hb : (y.time == x.time) = false := by simpa using ht
      rw [hb, ha]
      rfl
  · have hz : ws[j]? = some (ws[j]'(by omega)) := List.getElem?_eq_getElem _
    generalize ws[j]'(by omega) = z at hz
    have hzx := rises_at h hz hx hj
    have ha := hl z (List.mem_of_getElem? hz)
    have hb := ahead_total (by omega) ha
    have hbt : beats ws (firstAt ws) j = true := by
      unfold beats
      rw [hx, hz]
      simp only
      unfold Wt.ahead at hb
      split at hb
      · simp at hb; omega
      · rw [hb]; rfl
    cases hle : leads ws j
    · rfl
    · have := leads_iff.1 hle (firstAt ws) hlt
      rw [hbt] at this
      cases this
theorem firstPlace_nil : firstPlace [] = none := rfl
end Go.Proofs.Ytlioojekjnigiab.AM.Sk
/- Ids and entries: what may stand there. -/
namespace Go.Proofs.Ytlioojekjnigiab.AM
set_option linter.unusedVariables false
set_option linter.unusedSimpArgs false

theorem Ret.to {y x : AVal} (h : y = x) : Ret y x := ⟨h⟩
theorem between_ok (n a b : Int) : PCall Try.prog 57 [dInt n, dInt a, dInt b] (dBool (decide (a ≤ n) && decide (n ≤ b))) := by
  refine pcall_intro tab_all tab_mixed Try.func57 (by kernel_rfl) Try.ntmps57 rfl ?_
  conv => whnf
  refine ⟨fun h => ?_, fun h => ?_⟩
  · conv => whnf
    exact Ret.bool (by simp [h])
  · conv => whnf
    exact Ret.bool (by simp [h])
def Id.ok (x : Id) : Bool := decide (0 ≤ x.r) && decide (x.r ≤ 1) && (decide (1 ≤ x.n) && decide (x.n ≤ 20))
theorem refIsId_ok (x : Id) : PCall Try.prog 37 [x.arg] (dBool x.ok) := by
  refine pcall_intro tab_all tab_mixed Try.func37 (by kernel_rfl) Try.ntmps37 rfl ?_
  conv => whnf
  refine .look _ _ (between_ok _ _ _) rfl rfl ?_
  conv => whnf
  refine ⟨fun h => ?_, fun h => ?_⟩
  · conv => whnf
    refine .look _ _ (between_ok _ _ _) rfl rfl ?_
    conv => whnf
    exact Ret.bool (by simp only [Id.ok, h, Bool.true_and])
  · conv => whnf
    exact Ret.bool (by simp only [Id.ok, h, Bool.false_and])
theorem isId_ok (x : Id) : PCall Try.prog 83 [x.arg] (dBool x.ok) := by
  refine pcall_intro tab_all tab_mixed Try.func83 (by kernel_rfl) Try.ntmps83 rfl ?_
  conv => whnf
  refine .look _ _ (isRegion_ok _) rfl rfl ?_
  conv => whnf
  have hr : ∀ r : Int, (decide (r = 0) || decide (r = 1)) = (decide (0 ≤ r) && decide (r ≤ 1)) := fun r => by
    rw [Bool.eq_iff_iff]; simp; omega
  rw [hr]
  refine ⟨fun h => ?_, fun h => ?_⟩
  · conv => whnf
    refine ⟨fun h => ?_, fun h => ?_⟩
    · rename_i h1
      conv => whnf
      exact Ret.bool (by simp only [Id.ok, h1, h, Bool.true_and])
    · rename_i h1
      conv => whnf
      exact Ret.bool (by simp only [Id.ok, h1, h, Bool.true_and, Bool.false_and])
  · conv => whnf
    exact Ret.bool (by simp only [Id.ok, h, Bool.false_and])
end Go.Proofs.Ytlioojekjnigiab.AM
/- Entries: what is wrong with one. -/
namespace Go.Proofs.Ytlioojekjnigiab.AM
set_option linter.unusedVariables false
set_option linter.unusedSimpArgs false

/-- What is wrong with links, the last one ahead of them being known. -/
def linksErr (own : Id) : Option Id → List Id → Int
  | _, [] => 0
  | p, x :: t => if x.ok = false then 3 else if (match p with
      | some y => !y.less x
      | none => false) = true then 4 else if x.r = own.r ∧ own.n ≤ x.n then 4 else linksErr own (some x) t
def prevOf (l : List Id) (i : Nat) : Option Id := match i with
  | 0 => none
  | i + 1 => l[i]?
theorem AtIdx.ofMap' {α : Type} {enc : α → List D} {l : List α} {n : Int} (i : Nat) {sz : Nat} {k : Nat → List D → Prop} (hn : n = (i : Int)) (h : i < l.length) (hl : (enc l[i]).length = sz) (hk : k i (enc l[i])) : AtIdx n (l.map enc) sz k :=
  .mk i (enc l[i]) hn (by simp [h]) hl hk
theorem wrap_down {i : Nat} (h0 : 0 < i) (h : i ≤ 140737488355328) : IntKind.i64.wrap ((i : Int) - 1) = ((i - 1 : Nat) : Int) := by
  rw [wrap_id (by omega) (by omega)]
  omega
theorem prevOf_pos {l : List Id} {i : Nat} (h0 : 0 < i) (h : i - 1 < l.length) : prevOf l i = some l[i - 1] := by
  cases i with
  | zero => omega
  | succ i => simp [prevOf] at h ⊢
set_option maxHeartbeats 0 in
theorem checkLinks_ok (own : Id) (l : List Id) (hl : l.length ≤ 140737488355328) : PCall Try.prog 84 [own.arg, .dat (.list (l.map Id.enc))] (dInt (linksErr own none l)) := by
  refine pcall_intro tab_all tab_mixed Try.func84 (by kernel_rfl) Try.ntmps84 rfl ?_
  conv => whnf
  refine LoopOk.mk (fun m s => ∃ i, i + m = l.length ∧ linksErr own none l = linksErr own (prevOf l i) (l.drop i) ∧ s = ⟨[(9, dInt i), (8, dInt (l.map Id.enc).length), (7, .dat (.list (l.map Id.enc))), (1, .dat (.list (l.map Id.enc))), (2, .ptr 0 0)], 1, [(0, .vars 69 2 [dInt own.r, dInt own.n] true)]⟩) l.length (Into.mono (Into.to [0] [(9, dInt (0 : Nat)), (8, dInt (l.map Id.enc).length), (7, .dat (.list (l.map Id.enc))), (1, .dat (.list (l.map Id.enc))), (2, .ptr 0 0)] [(0, .vars 69 2 [dInt own.r, dInt own.n] true)] (by repeat (first | exact trivial | refine ⟨.same (congrArg dInt (wrap_up (by omega))), ?_⟩ | refine ⟨.same rfl, ?_⟩ | refine ⟨.any _, ?_⟩)) ⟨⟨rfl, rfl, rfl, .same rfl, rfl, .same rfl, rfl, trivial⟩, trivial⟩ rfl rfl) fun s' h => ⟨0, by omega, rfl, h⟩) ?_
  rintro m s ⟨i, hi, hp, rfl⟩
  conv => whnf
  refine SeqOk.go ?_
  conv => whnf
  refine ⟨fun h => ?_, fun h => ?_⟩
  · conv => whnf
    have hi' : i < l.length := by simpa using h
    rw [List.drop_eq_getElem_cons hi'] at hp
    have hn : prevOf l (i + 1) = some l[i] := by simp [prevOf, hi']
    refine AtIdx.ofMap hi' rfl ?_
    conv => whnf
    refine .look _ _ (isId_ok l[i]) rfl rfl ?_
    conv => whnf
    (first | (refine SeqOk.go ?_; conv => whnf) | skip)
    refine ⟨fun h1 => ?_, fun h1 => ?_⟩
    · conv => whnf
      refine Ret.int ?_
      rw [hp]
      have h1 : l[i].ok = false := by simpa using h1
      simp [linksErr, h1]
    · have h1 : l[i].ok = true := by simpa using h1
      conv => whnf
      refine ⟨fun h2 => ?_, fun h2 => ?_⟩
      · have h2 : 0 < i := by simpa using h2
        have hv := prevOf_pos h2 (show i - 1 < l.length by omega)
        conv => whnf
        refine AtIdx.ofMap' (i - 1) (wrap_down h2 (by omega)) (by omega) rfl ?_
        conv => whnf
        refine .look _ _ (less_ok l[i - 1] l[i]) rfl rfl ?_
        conv => whnf
        refine ⟨by kernel_rfl, ?_⟩
        conv => whnf
        (first | (refine SeqOk.go ?_; conv => whnf) | skip)
        refine ⟨fun h3 => ?_, fun h3 => ?_⟩
        · conv => whnf
          refine Ret.int ?_
          have h3 : l[i - 1].less l[i] = false := by simpa using h3
          rw [hp]
          simp [linksErr, h1, hv, h3]
        · have h3 : l[i - 1].less l[i] = true := by simpa using h3
          conv => whnf
          (first | (refine SeqOk.go ?_; conv => whnf) | skip)
          refine ⟨fun h4 => ?_, fun h4 => ?_⟩
          · conv => whnf
            have h4 : l[i].r = own.r := by simpa using h4
            refine ⟨fun h5 => ?_, fun h5 => ?_⟩
            · conv => whnf
              refine Ret.int ?_
              have h5 : own.n ≤ l[i].n := by simpa using h5
              rw [hp]
              simp [linksErr, h1, hv, h3, h4, h5]
            · conv => whnf
              have h5 : ¬ own.n ≤ l[i].n := by simpa using h5
              refine Into.mono (Into.to [0] [(9, dInt (i + 1 : Nat)), (8, dInt (l.map Id.enc).length), (7, .dat (.list (l.map Id.enc))), (1, .dat (.list (l.map Id.enc))), (2, .ptr 0 0)] [(0, .vars 69 2 [dInt own.r, dInt own.n] true)] (by repeat (first | exact trivial | refine ⟨.same (congrArg dInt (wrap_up (by omega))), ?_⟩ | refine ⟨.same rfl, ?_⟩ | refine ⟨.any _, ?_⟩)) ⟨⟨rfl, rfl, rfl, .same rfl, rfl, .same rfl, rfl, trivial⟩, trivial⟩ rfl rfl) fun s' h => ⟨m - 1, by omega, i + 1, by omega, ?_, h⟩
              rw [hp]
              simp [linksErr, h1, hv, h3, h4, h5, hn]
          · conv => whnf
            have h4 : ¬ l[i].r = own.r := by simpa using h4
            refine Into.mono (Into.to [0] [(9, dInt (i + 1 : Nat)), (8, dInt (l.map Id.enc).length), (7, .dat (.list (l.map Id.enc))), (1, .dat (.list (l.map Id.enc))), (2, .ptr 0 0)] [(0, .vars 69 2 [dInt own.r, dInt own.n] true)] (by repeat (first | exact trivial | refine ⟨.same (congrArg dInt (wrap_up (by omega))), ?_⟩ | refine ⟨.same rfl, ?_⟩ | refine ⟨.any _, ?_⟩)) ⟨⟨rfl, rfl, rfl, .same rfl, rfl, .same rfl, rfl, trivial⟩, trivial⟩ rfl rfl) fun s' h => ⟨m - 1, by omega, i + 1, by omega, ?_, h⟩
            rw [hp]
            simp [linksErr, h1, hv, h3, h4, hn]
      · have h2 : i = 0 := by simpa using h2
        have hv : prevOf l i = none := by rw [h2]; rfl
        conv => whnf
        refine ⟨by kernel_rfl, ?_⟩
        conv => whnf
        (first | (refine SeqOk.go ?_; conv => whnf) | skip)
        refine ⟨fun h4 => ?_, fun h4 => ?_⟩
        · conv => whnf
          have h4 : l[i].r = own.r := by simpa using h4
          refine ⟨fun h5 => ?_, fun h5 => ?_⟩
          · conv => whnf
            refine Ret.int ?_
            have h5 : own.n ≤ l[i].n := by simpa using h5
            rw [hp]
            simp [linksErr, h1, hv, h4, h5]
          · conv => whnf
            have h5 : ¬ own.n ≤ l[i].n := by simpa using h5
            refine Into.mono (Into.to [0] [(9, dInt (i + 1 : Nat)), (8, dInt (l.map Id.enc).length), (7, .dat (.list (l.map Id.enc))), (1, .dat (.list (l.map Id.enc))), (2, .ptr 0 0)] [(0, .vars 69 2 [dInt own.r, dInt own.n] true)] (by repeat (first | exact trivial | refine ⟨.same (congrArg dInt (wrap_up (by omega))), ?_⟩ | refine ⟨.same rfl, ?_⟩ | refine ⟨.any _, ?_⟩)) ⟨⟨rfl, rfl, rfl, .same rfl, rfl, .same rfl, rfl, trivial⟩, trivial⟩ rfl rfl) fun s' h => ⟨m - 1, by omega, i + 1, by omega, ?_, h⟩
            rw [hp]
            simp [linksErr, h1, hv, h4, h5, hn]
        · conv => whnf
          have h4 : ¬ l[i].r = own.r := by simpa using h4
          refine Into.mono (Into.to [0] [(9, dInt (i + 1 : Nat)), (8, dInt (l.map Id.enc).length), (7, .dat (.list (l.map Id.enc))), (1, .dat (.list (l.map Id.enc))), (2, .ptr 0 0)] [(0, .vars 69 2 [dInt own.r, dInt own.n] true)] (by repeat (first | exact trivial | refine ⟨.same (congrArg dInt (wrap_up (by omega))), ?_⟩ | refine ⟨.same rfl, ?_⟩ | refine ⟨.any _, ?_⟩)) ⟨⟨rfl, rfl, rfl, .same rfl, rfl, .same rfl, rfl, trivial⟩, trivial⟩ rfl rfl) fun s' h => ⟨m - 1, by omega, i + 1, by omega, ?_, h⟩
          rw [hp]
          simp [linksErr, h1, hv, h4, hn]
  · conv => whnf
    have hi' : l.length ≤ i := by simpa using h
    refine Ret.int ?_
    rw [hp, List.drop_eq_nil_of_le hi']
    rfl
end Go.Proofs.Ytlioojekjnigiab.AM
/- Entries: Check, and what the document says of it. -/
namespace Go.Proofs.Ytlioojekjnigiab.AM
set_option linter.unusedVariables false
set_option linter.unusedSimpArgs false

def Entry'.err (e : Entry') : Int :=
  if e.id.ok = false ∨ e.colors < 1 ∨ 7 < e.colors then 3
  else if 12 < e.text.size ∨ 6 < e.links.length then 2
  else linksErr e.id none e.links
set_option maxHeartbeats 0 in
theorem check_ok (e : Entry') (hl : e.links.length ≤ 140737488355328) : PCall Try.prog 76 [e.arg] (dInt e.err) := by
  refine pcall_intro tab_all tab_mixed Try.func76 (by kernel_rfl) Try.ntmps76 rfl ?_
  conv => whnf
  refine .look _ _ (isId_ok e.id) rfl rfl ?_
  conv => whnf
  refine ⟨fun h1 => ?_, fun h1 => ?_⟩
  · have h1 : e.id.ok = false := by simpa using h1
    conv => whnf
    exact Ret.int (by simp [Entry'.err, h1])
  · have h1 : e.id.ok = true := by simpa using h1
    conv => whnf
    refine ⟨fun h2 => ?_, fun h2 => ?_⟩
    · have h2 : e.colors < 1 := by simpa using h2
      conv => whnf
      exact Ret.int (by simp [Entry'.err, h2])
    · have h2 : ¬ e.colors < 1 := by simpa using h2
      conv => whnf
      refine ⟨fun h3 => ?_, fun h3 => ?_⟩
      · have h3 : 7 < e.colors := by simpa using h3
        conv => whnf
        exact Ret.int (by simp [Entry'.err, h3])
      · have h3 : ¬ 7 < e.colors := by simpa using h3
        have k1 : ¬ (e.id.ok = false ∨ e.colors < 1 ∨ 7 < e.colors) := by simp [h1]; omega
        conv => whnf
        refine ⟨fun h4 => ?_, fun h4 => ?_⟩
        · have h4 : 12 < e.text.size := by simp at h4; omega
          conv => whnf
          exact Ret.int (by simp [Entry'.err, k1, h4])
        · have h4 : ¬ 12 < e.text.size := by simp at h4; omega
          conv => whnf
          refine ⟨fun h5 => ?_, fun h5 => ?_⟩
          · have h5 : 6 < e.links.length := by simp at h5; omega
            conv => whnf
            exact Ret.int (by simp [Entry'.err, k1, h5])
          · have h5 : ¬ 6 < e.links.length := by simp at h5; omega
            conv => whnf
            refine .look _ _ (checkLinks_ok e.id e.links hl) rfl rfl ?_
            conv => whnf
            exact Ret.int (by simp [Entry'.err, k1, h4, h5])
end Go.Proofs.Ytlioojekjnigiab.AM
/- Logs: is one there; how many of each region. -/
namespace Go.Proofs.Ytlioojekjnigiab.AM
set_option linter.unusedVariables false
set_option linter.unusedSimpArgs false

theorem idx_any' {α : Type} (p : α → Bool) : ∀ (l : List α) (i : Nat), idxOf (isIdx p l i) ≥ 0 ↔ l.any p = true
  | [], i => by simp [isIdx, idxOf]
  | a :: t, i => by
    unfold isIdx
    by_cases h : p a = true
    · simp [h, idxOf]
    · simp only [h, if_false, List.any_cons, Bool.false_or, Bool.false_eq_true]
      simpa [h] using idx_any' p t (i + 1)
theorem idx_any {α : Type} (p : α → Bool) (l : List α) (i : Nat) : decide (idxOf (isIdx p l i) ≥ 0) = l.any p := by
  rw [Bool.eq_iff_iff, decide_eq_true_iff]
  exact idx_any' p l i
def isThe (x : Id) (e : Entry') : Bool := e.id.r == x.r && (e.id.n == x.n && true)
theorem isThe_iff {x : Id} {e : Entry'} : isThe x e = true ↔ e.id = x := by
  simp only [isThe, Bool.and_eq_true, beq_iff_eq, and_true]
  exact ⟨fun h => Id.ext' h.1 h.2, fun h => by rw [h]; exact ⟨rfl, rfl⟩⟩
def entryAt (l : List Entry') (x : Id) : Int := idxOf (isIdx (isThe x) l 0)
/-- How many of a region. -/
def cnt (r : Int) (l : List Entry') : Nat := l.countP fun e => e.id.r == r
theorem cnt_le (r : Int) (l : List Entry') : cnt r l ≤ l.length := List.countP_le_length
theorem cnt_succ (r : Int) {l : List Entry'} {i : Nat} (h : i < l.length) : cnt r (l.take (i + 1)) = cnt r (l.take i) + if l[i].id.r == r then 1 else 0 := by
  simp only [cnt]
  rw [List.take_add_one, List.getElem?_eq_getElem h, List.countP_append]
  simp [List.countP_cons]
def vecA (a b : Int) : AVal := .agg [dInt a, dInt b]
end Go.Proofs.Ytlioojekjnigiab.AM
/- Logs: Check. -/
namespace Go.Proofs.Ytlioojekjnigiab.AM
set_option linter.unusedVariables false
set_option linter.unusedSimpArgs false

/-- No list is greater than memory. -/
structure LogOk (l : List Entry') : Prop where
  len : l.length ≤ 140737488355328
  links : ∀ e ∈ l, e.links.length ≤ 140737488355328
theorem LogOk.take {l : List Entry'} (h : LogOk l) (i : Nat) : LogOk (l.take i) := ⟨by have := h.len; simp; omega, fun e he => h.links e (List.mem_of_mem_take he)⟩
def behindErr (ahead : List Entry') (e : Entry') : Int :=
  if e.err ≠ 0 then e.err else if ahead.any (isThe e.id) = true then 6 else if e.id.n ≠ (cnt e.id.r ahead : Int) + 1 then 4 else if e.links.all (fun x => ahead.any (isThe x)) = true then 0 else 5
theorem ok_of_err {e : Entry'} (h : e.err = 0) : e.id.ok = true := by
  unfold Entry'.err at h
  by_cases h1 : e.id.ok = true
  · exact h1
  · simp [h1] at h
theorem r_of_ok {x : Id} (h : x.ok = true) : x.r = 0 ∨ x.r = 1 := by
  simp [Id.ok] at h
  omega
theorem behind_links {ahead : List Entry'} {e : Entry'} (h1 : e.err = 0) (h2 : ahead.any (isThe e.id) = false) (h3 : e.id.n = (cnt e.id.r ahead : Int) + 1) : behindErr ahead e = if (e.links.drop 0).all (fun x => ahead.any (isThe x)) = true then 0 else 5 := by
  unfold behindErr
  rw [if_neg (by simp [h1]), if_neg (by simp [h2]), if_neg (by simp [← h3])]
  rfl
end Go.Proofs.Ytlioojekjnigiab.AM
/- Logs: Check of a whole one, and what the document says of it. -/
namespace Go.Proofs.Ytlioojekjnigiab.AM
set_option linter.unusedVariables false
set_option linter.unusedSimpArgs false

/-- What is wrong with the rest of a log, behind those that are right. -/
def logLoop (ahead : List Entry') : List Entry' → Int
  | [] => 0
  | e :: t => if behindErr ahead e ≠ 0 then behindErr ahead e else logLoop (ahead ++ [e]) t
def logErr (l : List Entry') : Int := if 40 < l.length then 2 else logLoop [] l
theorem take_snoc {α : Type} {l : List α} {i : Nat} (h : i < l.length) : l.take (i + 1) = l.take i ++ [l[i]] := by
  rw [List.take_add_one, List.getElem?_eq_getElem h]
  rfl
theorem behind_err {ahead : List Entry'} {e : Entry'} (h : behindErr ahead e = 0) : e.err = 0 := by
  unfold behindErr at h
  split at h
  · exact h
  · rename_i h1; simpa using h1
theorem fits_take {es : List Entry'} {i : Nat} : (List.map Entry'.enc es).take i = (es.take i).map Entry'.enc := by rw [List.map_take]
theorem regs_snoc {l : List Entry'} {i : Nat} (hi : i < l.length) (hr : ∀ e ∈ l.take i, e.id.r = 0 ∨ e.id.r = 1) (h : behindErr (l.take i) l[i] = 0) : ∀ e ∈ l.take (i + 1), e.id.r = 0 ∨ e.id.r = 1 := fun e he => by
  rw [take_snoc hi, List.mem_append] at he
  rcases he with he | he
  · exact hr e he
  · obtain rfl : e = l[i] := by simpa using he
    exact r_of_ok (ok_of_err (behind_err h))
end Go.Proofs.Ytlioojekjnigiab.AM
/- Small helps of walks: tests that are known, loops that hide what comes behind, cuts. -/
namespace Go.Proofs.Ytlioojekjnigiab.AM
set_option linter.unusedVariables false
set_option linter.unusedSimpArgs false

/-- What comes behind a loop, hidden while it is walked. -/
theorem LoopOk.hide {N : Nat} {body : (X → St → Prop) → St → Prop} {Q : X → St → Prop} {s : St} (h : ∀ Q', Q' = Q → LoopOk N body Q' s) : LoopOk N body Q s := h Q rfl
theorem BoolCase.yes {b : Bool} {t f : Prop} (h : b = true) (k : t) : BoolCase b t f := ⟨fun _ => k, fun h' => (by rw [h] at h'; cases h')⟩
theorem BoolCase.no {b : Bool} {t f : Prop} (h : b = false) (k : f) : BoolCase b t f := ⟨fun h' => (by rw [h] at h'; cases h'), fun _ => k⟩
/-- A bool that is known. -/
theorem PCall.kb {P : Program} {f : FuncId} {args : List AVal} {b : Bool} (h : PCall P f args (dBool b)) : PCall P f args (.kb b) := by
  refine ⟨h.1, fun r A w vs hr hc hs hv => (h.2 r A w vs hr hc hs hv).mono fun e w' he => ?_⟩
  obtain ⟨v, r', A', x, H', n', rfl, ⟨rfl, rfl, rfl⟩, k1, k2, k3, k4, k5, k6, k7⟩ := he
  refine ⟨v, r', A', .kb b, [], 0, rfl, ⟨rfl, rfl, rfl⟩, k1, k2, k3, k4, ?_, k6, k7⟩
  cases k5 with | dat hh => cases hh; exact .kb b
theorem SeqOk.cut' {N : Nat} {a b : (X → St → Prop) → St → Prop} {Q : X → St → Prop} {s : St} (s1 : St) (ha : a (fun e s' => match e with
      | .normal => Into N s' fun s2 => s2 = s1
      | .exit id => Q (.exit id) s'
      | .ret => Q .ret s') s) (hb : b Q s1) : SeqOk N a b Q s := .cut (fun s2 => s2 = s1) ha fun s2 h => by rw [h]; exact hb
theorem cond_yes {b : Bool} {t f : Prop} (hb : b = true) (h : t) : cond b t f := by rw [hb]; exact h
theorem ret_of (o : Option AVal) (x : AVal) : (∃ y, o = some y ∧ y = x) → (match o with
    | some y => fA y fun y => Ret y x
    | none => False) := by
  rintro ⟨y, rfl, rfl⟩
  show fA y _
  rw [fA_eq]
  exact ⟨rfl⟩
end Go.Proofs.Ytlioojekjnigiab.AM
/- Logs: what the document says of a whole one. -/
namespace Go.Proofs.Ytlioojekjnigiab.AM
set_option linter.unusedVariables false
set_option linter.unusedSimpArgs false


theorem entryAt_iff {l : List Entry'} {x : Id} : entryAt l x ≥ 0 ↔ l.any (isThe x) = true := idx_any' _ _ _
end Go.Proofs.Ytlioojekjnigiab.AM
/- Ids: is one among some. -/
namespace Go.Proofs.Ytlioojekjnigiab.AM
set_option linter.unusedVariables false
set_option linter.unusedSimpArgs false

def isId2 (x y : Id) : Bool := x.r == y.r && (x.n == y.n && true)
theorem isId2_iff {x y : Id} : isId2 x y = true ↔ x = y := by
  simp only [isId2, Bool.and_eq_true, beq_iff_eq, and_true]
  exact ⟨fun h => Id.ext' h.1 h.2, fun h => by rw [h]; exact ⟨rfl, rfl⟩⟩
def hasId (l : List Id) (x : Id) : Bool := l.any fun y => isId2 y x
end Go.Proofs.Ytlioojekjnigiab.AM
/- Servers: what is wrong with one. -/
namespace Go.Proofs.Ytlioojekjnigiab.AM.Sk
set_option linter.unusedVariables false
set_option linter.unusedSimpArgs false

def Wt.enc (x : Wt) : List D := [.int .i64 x.number, .int .i64 x.time, .bool x.final]
def Wt.arg (x : Wt) : AVal := .agg [dInt x.number, dInt x.time, dBool x.final]
def encI (x : Int) : List D := [.int .i64 x]
def Sv.arg (s : Sv) : AVal := .agg [dInt s.clock, .dat (.list (s.waits.map Wt.enc)), .dat (.list (s.done.map encI))]
def Sv.enc (s : Sv) : List D := [.int .i64 s.clock, .list (s.waits.map Wt.enc), .list (s.done.map encI)]
theorem lt_of {α : Type} {enc : α → List D} {l : List α} {i : Nat} (h : decide ((i : Int) < ((l.map enc).length : Int)) = true) : i < l.length := by simpa using h
theorem ge_of {α : Type} {enc : α → List D} {l : List α} {i : Nat} (h : decide ((i : Int) < ((l.map enc).length : Int)) = false) : l.length ≤ i := by simpa using h

theorem isNumber_ok (n : Int) : PCall Try.prog 70 [dInt n] (dBool (isNum n)) := by
  refine pcall_intro tab_all tab_mixed Try.func70 (by kernel_rfl) Try.ntmps70 rfl ?_
  conv => whnf
  refine ⟨fun h => ?_, fun h => ?_⟩
  · have h' : decide (1 ≤ n) = true := h
    conv => whnf
    repeat (first | (refine Conf.mk (by kernel_rfl) ?_; conv => whnf) | (refine SeqOk.go ?_; conv => whnf))
    exact Ret.bool (by unfold isNum; rw [h', Bool.true_and])
  · have h' : decide (1 ≤ n) = false := h
    conv => whnf
    repeat (first | (refine Conf.mk (by kernel_rfl) ?_; conv => whnf) | (refine SeqOk.go ?_; conv => whnf))
    exact Ret.bool (by unfold isNum; rw [h', Bool.false_and])
theorem isAhead_ok (x y : Wt) : PCall Try.prog 82 [x.arg, y.arg] (dBool (x.ahead y)) := by
  refine pcall_intro tab_all tab_mixed Try.func82 (by kernel_rfl) Try.ntmps82 rfl ?_
  conv => whnf
  by_cases h : x.time = y.time
  · refine BoolCase.no (by simp [h]) ?_
    conv => whnf
    repeat (first | (refine Conf.mk (by kernel_rfl) ?_; conv => whnf) | (refine SeqOk.go ?_; conv => whnf))
    exact Ret.bool (by unfold Wt.ahead; rw [if_pos h])
  · refine BoolCase.yes (by simp [h]) ?_
    conv => whnf
    repeat (first | (refine Conf.mk (by kernel_rfl) ?_; conv => whnf) | (refine SeqOk.go ?_; conv => whnf))
    exact Ret.bool (by unfold Wt.ahead; rw [if_neg h])
set_option maxHeartbeats 0 in
theorem first_ok (ws : List Wt) (hn : 0 < ws.length) (hl : ws.length ≤ 1000) : PCall Try.prog 75 [.dat (.list (ws.map Wt.enc))] (dInt (firstAt ws)) := by
  refine pcall_cut tab_all tab_mixed Try.func75 (by kernel_rfl) Try.ntmps75 rfl ?_
  conv => whnf
  conv => whnf
  repeat (first | (refine Conf.mk (by kernel_rfl) ?_; conv => whnf) | (refine SeqOk.go ?_; conv => whnf))
  refine LoopOk.hide fun Q1 hQ1 => ?_
  refine LoopOk.mk (fun m s => ∃ k, k + m = ws.length ∧ s = ⟨[(8, dInt k), (7, dInt (ws.map Wt.enc).length), (6, .dat (.list (ws.map Wt.enc))), (3, dInt (firstUpto ws k)), (0, .dat (.list (ws.map Wt.enc)))], 0, []⟩) ws.length (Into.mono (Into.to [] [(8, dInt (0 : Nat)), (7, dInt (ws.map Wt.enc).length), (6, .dat (.list (ws.map Wt.enc))), (3, dInt (firstUpto ws 0)), (0, .dat (.list (ws.map Wt.enc)))] [] (by repeat (first | exact trivial | refine ⟨.same (congrArg dInt (wrap_up (by omega))), ?_⟩ | refine ⟨.same rfl, ?_⟩ | refine ⟨.any _, ?_⟩)) trivial rfl rfl) fun s' h => ⟨0, by omega, h⟩) ?_
  rintro m s ⟨k, hkm, rfl⟩
  conv => whnf
  repeat (first | (refine Conf.mk (by kernel_rfl) ?_; conv => whnf) | (refine SeqOk.go ?_; conv => whnf))
  refine ⟨fun h => ?_, fun h => ?_⟩
  · have hk := lt_of h
    have hf := firstUpto_lt ws k (by omega) hn
    have hst := firstUpto_step (List.getElem?_eq_getElem hk) (List.getElem?_eq_getElem hf)
    conv => whnf
    repeat (first | (refine Conf.mk (by kernel_rfl) ?_; conv => whnf) | (refine SeqOk.go ?_; conv => whnf))
    refine AtIdx.ofMap hk rfl ?_
    conv => whnf
    repeat (first | (refine Conf.mk (by kernel_rfl) ?_; conv => whnf) | (refine SeqOk.go ?_; conv => whnf))
    refine AtIdx.ofMap hf rfl ?_
    conv => whnf
    repeat (first | (refine Conf.mk (by kernel_rfl) ?_; conv => whnf) | (refine SeqOk.go ?_; conv => whnf))
    refine .data _ _ (isAhead_ok ws[k] ws[firstUpto ws k]) rfl ?_
    conv => whnf
    repeat (first | (refine Conf.mk (by kernel_rfl) ?_; conv => whnf) | (refine SeqOk.go ?_; conv => whnf))
    refine ⟨fun h2 => ?_, fun h2 => ?_⟩
    · have h2 : ws[k].ahead ws[firstUpto ws k] = true := h2
      rw [if_pos h2] at hst
      conv => whnf
      repeat (first | (refine Conf.mk (by kernel_rfl) ?_; conv => whnf) | (refine SeqOk.go ?_; conv => whnf))
      exact Into.mono (Into.to [] [(8, dInt (k + 1 : Nat)), (7, dInt (ws.map Wt.enc).length), (6, .dat (.list (ws.map Wt.enc))), (3, dInt (firstUpto ws (k + 1))), (0, .dat (.list (ws.map Wt.enc)))] [] ⟨.same (congrArg dInt (wrap_up (by omega))), .same rfl, .same rfl, .same (by rw [hst]; rfl), .same rfl, trivial⟩ trivial rfl rfl) fun s' h => ⟨m - 1, by omega, k + 1, by omega, h⟩
    · have h2 : ws[k].ahead ws[firstUpto ws k] = false := h2
      rw [if_neg (by simp [h2])] at hst
      conv => whnf
      repeat (first | (refine Conf.mk (by kernel_rfl) ?_; conv => whnf) | (refine SeqOk.go ?_; conv => whnf))
      exact Into.mono (Into.to [] [(8, dInt (k + 1 : Nat)), (7, dInt (ws.map Wt.enc).length), (6, .dat (.list (ws.map Wt.enc))), (3, dInt (firstUpto ws (k + 1))), (0, .dat (.list (ws.map Wt.enc)))] [] ⟨.same (congrArg dInt (wrap_up (by omega))), .same rfl, .same rfl, .same (by rw [hst]; rfl), .same rfl, trivial⟩ trivial rfl rfl) fun s' h => ⟨m - 1, by omega, k + 1, by omega, h⟩
  · have hk : k = ws.length := by have := ge_of h; omega
    subst hk
    conv => whnf
    repeat (first | (refine Conf.mk (by kernel_rfl) ?_; conv => whnf) | (refine SeqOk.go ?_; conv => whnf))
    subst hQ1
    conv => whnf
    exact Ret.int rfl
theorem finalFirst_at {ws : List Wt} (hn : 0 < ws.length) : finalFirst ws = (ws[firstAt ws]'(firstUpto_lt ws ws.length (Nat.le_refl _) hn)).final := by
  have h := firstUpto_lt ws ws.length (Nat.le_refl _) hn
  unfold finalFirst firstAt
  rw [List.getElem?_eq_getElem h]
set_option maxHeartbeats 0 in
theorem isFinalFirst_ok (ws : List Wt) (hl : ws.length ≤ 1000) : PCall Try.prog 63 [.dat (.list (ws.map Wt.enc))] (dBool (finalFirst ws)) := by
  refine pcall_cut tab_all tab_mixed Try.func63 (by kernel_rfl) Try.ntmps63 rfl ?_
  conv => whnf
  conv => whnf
  repeat (first | (refine Conf.mk (by kernel_rfl) ?_; conv => whnf) | (refine SeqOk.go ?_; conv => whnf))
  by_cases hn : 0 < ws.length
  · refine BoolCase.yes (by simpa using hn) ?_
    conv => whnf
    repeat (first | (refine Conf.mk (by kernel_rfl) ?_; conv => whnf) | (refine SeqOk.go ?_; conv => whnf))
    refine .data _ _ (first_ok ws hn hl) rfl ?_
    conv => whnf
    repeat (first | (refine Conf.mk (by kernel_rfl) ?_; conv => whnf) | (refine SeqOk.go ?_; conv => whnf))
    refine AtIdx.ofMap (firstUpto_lt ws ws.length (Nat.le_refl _) hn) rfl ?_
    conv => whnf
    repeat (first | (refine Conf.mk (by kernel_rfl) ?_; conv => whnf) | (refine SeqOk.go ?_; conv => whnf))
    exact Ret.bool (finalFirst_at hn).symm
  · refine BoolCase.no (by simpa using hn) ?_
    have : ws = [] := List.length_eq_zero_iff.1 (by omega)
    subst this
    conv => whnf
    repeat (first | (refine Conf.mk (by kernel_rfl) ?_; conv => whnf) | (refine SeqOk.go ?_; conv => whnf))
    exact Ret.bool rfl
theorem find1_ok (x : Wt) (n : Int) : PCall Try.prog 78 [x.arg, .dat (.ptr [.int .i64 n])] (dBool (decide (x.number = n))) := by
  refine pcall_intro tab_all tab_mixed Try.func78 (by kernel_rfl) Try.ntmps78 rfl ?_
  conv => whnf
  exact Ret.bool rfl
theorem findIdx_is {α : Type} (p : α → Bool) : ∀ (l : List α) (i : Nat), isIdx p l i = (l.findIdx? p).map (· + i)
  | [], i => rfl
  | a :: t, i => by
    unfold isIdx
    rw [List.findIdx?_cons, findIdx_is p t (i + 1)]
    split
    · simp
    · rw [Option.map_map]
      congr 1
      funext x
      simp
      omega
theorem optInt_is (o : Option Nat) : idxOf o = optInt o := by cases o <;> rfl
set_option maxHeartbeats 0 in
theorem indexFunc_ok {cl : Nat} {ds : List D} {l : List Wt} {p : Wt → Bool} (hl : l.length ≤ 1000) (hcl : ∀ x ∈ l, PCall Try.prog cl [x.arg, .dat (.ptr ds)] (dBool (p x))) :
    PCall Try.prog 77 [.dat (.list (l.map Wt.enc)), .fn (.func cl) [] [.dat (.ptr ds)]] (dInt (idxOf (isIdx p l 0))) := by
  refine pcall_cut tab_all tab_mixed Try.func77 (by kernel_rfl) Try.ntmps77 rfl ?_
  conv => whnf
  conv => whnf
  repeat (first | (refine Conf.mk (by kernel_rfl) ?_; conv => whnf) | (refine SeqOk.go ?_; conv => whnf))
  refine LoopOk.hide fun Q1 hQ1 => ?_
  refine LoopOk.mk (fun m s => ∃ i, i + m = l.length ∧ isIdx p l 0 = isIdx p (l.drop i) i ∧ s = ⟨[(8, dInt i), (7, dInt (l.map Wt.enc).length), (1, .fn (.func cl) [] [.dat (.ptr ds)]), (0, .dat (.list (l.map Wt.enc)))], 0, []⟩) l.length (Into.mono (Into.to [] [(8, dInt (0 : Nat)), (7, dInt (l.map Wt.enc).length), (1, .fn (.func cl) [] [.dat (.ptr ds)]), (0, .dat (.list (l.map Wt.enc)))] [] (by repeat (first | exact trivial | refine ⟨.same (congrArg dInt (wrap_up (by omega))), ?_⟩ | refine ⟨.same rfl, ?_⟩ | refine ⟨.any _, ?_⟩)) trivial rfl rfl) fun s' h => ⟨0, by omega, rfl, h⟩) ?_
  rintro m s ⟨i, hi, hp, rfl⟩
  conv => whnf
  repeat (first | (refine Conf.mk (by kernel_rfl) ?_; conv => whnf) | (refine SeqOk.go ?_; conv => whnf))
  refine ⟨fun h => ?_, fun h => ?_⟩
  · have hi' := lt_of h
    rw [List.drop_eq_getElem_cons hi'] at hp
    conv => whnf
    repeat (first | (refine Conf.mk (by kernel_rfl) ?_; conv => whnf) | (refine SeqOk.go ?_; conv => whnf))
    refine AtIdx.ofMap hi' rfl ?_
    conv => whnf
    repeat (first | (refine Conf.mk (by kernel_rfl) ?_; conv => whnf) | (refine SeqOk.go ?_; conv => whnf))
    refine .look _ _ (hcl l[i] (List.getElem_mem hi')) rfl rfl ?_
    conv => whnf
    repeat (first | (refine Conf.mk (by kernel_rfl) ?_; conv => whnf) | (refine SeqOk.go ?_; conv => whnf))
    refine ⟨fun h => ?_, fun h => ?_⟩
    · have h : p l[i] = true := h
      conv => whnf
      repeat (first | (refine Conf.mk (by kernel_rfl) ?_; conv => whnf) | (refine SeqOk.go ?_; conv => whnf))
      subst hQ1
      conv => whnf
      exact Ret.int (by rw [hp]; simp [isIdx, h, idxOf])
    · have h : p l[i] = false := h
      have hp : isIdx p l 0 = isIdx p (l.drop (i + 1)) (i + 1) := by rw [hp]; simp [isIdx, h]
      conv => whnf
      repeat (first | (refine Conf.mk (by kernel_rfl) ?_; conv => whnf) | (refine SeqOk.go ?_; conv => whnf))
      exact Into.mono (Into.to [] [(8, dInt (i + 1 : Nat)), (7, dInt (l.map Wt.enc).length), (1, .fn (.func cl) [] [.dat (.ptr ds)]), (0, .dat (.list (l.map Wt.enc)))] [] (by repeat (first | exact trivial | refine ⟨.same (congrArg dInt (wrap_up (by omega))), ?_⟩ | refine ⟨.same rfl, ?_⟩ | refine ⟨.any _, ?_⟩)) trivial rfl rfl) fun s' h => ⟨m - 1, by omega, i + 1, by omega, hp, h⟩
  · have hi' := ge_of h
    rw [List.drop_eq_nil_of_le hi'] at hp
    conv => whnf
    repeat (first | (refine Conf.mk (by kernel_rfl) ?_; conv => whnf) | (refine SeqOk.go ?_; conv => whnf))
    subst hQ1
    conv => whnf
    exact Ret.int (by rw [hp]; rfl)
set_option maxHeartbeats 0 in
theorem find_ok (ws : List Wt) (n : Int) (hl : ws.length ≤ 1000) : PCall Try.prog 71 [.dat (.list (ws.map Wt.enc)), dInt n] (dInt (optInt (findAt ws n))) := by
  have hx := indexFunc_ok (cl := 78) (ds := [.int .i64 n]) (l := ws) (p := fun x => decide (x.number = n)) hl fun x _ => find1_ok x n
  rw [findIdx_is, optInt_is, show ((ws.findIdx? fun x => decide (x.number = n)).map (· + 0)) = findAt ws n by unfold findAt; cases ws.findIdx? (fun x => decide (x.number = n)) <;> rfl] at hx
  refine pcall_cut tab_all tab_mixed Try.func71 (by kernel_rfl) Try.ntmps71 rfl ?_
  conv => whnf
  conv => whnf
  repeat (first | (refine Conf.mk (by kernel_rfl) ?_; conv => whnf) | (refine SeqOk.go ?_; conv => whnf))
  refine .look _ _ hx rfl rfl ?_
  conv => whnf
  repeat (first | (refine Conf.mk (by kernel_rfl) ?_; conv => whnf) | (refine SeqOk.go ?_; conv => whnf))
  exact Ret.int rfl
theorem enc1 {l : List Int} : ∀ x ∈ l.map encI, x.length = 1 := fun x hx => by
  obtain ⟨e, _, rfl⟩ := List.mem_map.1 hx
  rfl
theorem takeI {l : List Int} {i : Nat} : (l.map encI).take i = (l.take i).map encI := by rw [List.map_take]
set_option maxHeartbeats 0 in
theorem index_ok (l : List Int) (n : Int) (hl : l.length ≤ 1000) : PCall Try.prog 79 [.dat (.list (l.map encI)), dInt n] (dInt (idxOf (isIdx (fun x => n == x) l 0))) := by
  refine pcall_cut tab_all tab_mixed Try.func79 (by kernel_rfl) Try.ntmps79 rfl ?_
  conv => whnf
  conv => whnf
  repeat (first | (refine Conf.mk (by kernel_rfl) ?_; conv => whnf) | (refine SeqOk.go ?_; conv => whnf))
  refine LoopOk.hide fun Q1 hQ1 => ?_
  refine LoopOk.mk (fun m s => ∃ i, i + m = l.length ∧ isIdx (fun x => n == x) l 0 = isIdx (fun x => n == x) (l.drop i) i ∧ s = ⟨[(8, dInt i), (7, dInt (l.map encI).length), (1, dInt n), (0, .dat (.list (l.map encI)))], 0, []⟩) l.length (Into.mono (Into.to [] [(8, dInt (0 : Nat)), (7, dInt (l.map encI).length), (1, dInt n), (0, .dat (.list (l.map encI)))] [] (by repeat (first | exact trivial | refine ⟨.same (congrArg dInt (wrap_up (by omega))), ?_⟩ | refine ⟨.same rfl, ?_⟩ | refine ⟨.any _, ?_⟩)) trivial rfl rfl) fun s' h => ⟨0, by omega, rfl, h⟩) ?_
  rintro m s ⟨i, hi, hp, rfl⟩
  conv => whnf
  repeat (first | (refine Conf.mk (by kernel_rfl) ?_; conv => whnf) | (refine SeqOk.go ?_; conv => whnf))
  refine ⟨fun h => ?_, fun h => ?_⟩
  · have hi' := lt_of h
    rw [List.drop_eq_getElem_cons hi'] at hp
    conv => whnf
    repeat (first | (refine Conf.mk (by kernel_rfl) ?_; conv => whnf) | (refine SeqOk.go ?_; conv => whnf))
    refine AtIdx.ofMap hi' rfl ?_
    conv => whnf
    repeat (first | (refine Conf.mk (by kernel_rfl) ?_; conv => whnf) | (refine SeqOk.go ?_; conv => whnf))
    refine ⟨fun h => ?_, fun h => ?_⟩
    · have h : (n == l[i]) = true := h
      conv => whnf
      repeat (first | (refine Conf.mk (by kernel_rfl) ?_; conv => whnf) | (refine SeqOk.go ?_; conv => whnf))
      subst hQ1
      conv => whnf
      exact Ret.int (by rw [hp]; simp [isIdx, h, idxOf])
    · have h : (n == l[i]) = false := h
      have hp : isIdx (fun x => n == x) l 0 = isIdx (fun x => n == x) (l.drop (i + 1)) (i + 1) := by rw [hp]; simp [isIdx, h]
      conv => whnf
      repeat (first | (refine Conf.mk (by kernel_rfl) ?_; conv => whnf) | (refine SeqOk.go ?_; conv => whnf))
      exact Into.mono (Into.to [] [(8, dInt (i + 1 : Nat)), (7, dInt (l.map encI).length), (1, dInt n), (0, .dat (.list (l.map encI)))] [] (by repeat (first | exact trivial | refine ⟨.same (congrArg dInt (wrap_up (by omega))), ?_⟩ | refine ⟨.same rfl, ?_⟩ | refine ⟨.any _, ?_⟩)) trivial rfl rfl) fun s' h => ⟨m - 1, by omega, i + 1, by omega, hp, h⟩
  · have hi' := ge_of h
    rw [List.drop_eq_nil_of_le hi'] at hp
    conv => whnf
    repeat (first | (refine Conf.mk (by kernel_rfl) ?_; conv => whnf) | (refine SeqOk.go ?_; conv => whnf))
    subst hQ1
    conv => whnf
    exact Ret.int (by rw [hp]; rfl)
theorem idxB {α : Type} (p : α → Bool) : ∀ (l : List α) (i : Nat), decide (0 ≤ idxOf (isIdx p l i)) = l.any p
  | [], i => rfl
  | a :: t, i => by
    unfold isIdx
    rw [List.any_cons]
    split
    · rename_i h
      rw [h]
      simp [idxOf]
    · rename_i h
      rw [idxB p t (i + 1), show p a = false by simpa using h, Bool.false_or]
theorem any_mem (l : List Int) (n : Int) : (l.any fun x => n == x) = decide (n ∈ l) := by
  rw [Bool.eq_iff_iff, List.any_eq_true, decide_eq_true_iff]
  exact ⟨fun ⟨x, hx, h⟩ => by have : n = x := by simpa using h
                              rw [this]; exact hx, fun h => ⟨n, h, by simp⟩⟩
theorem contains_ok (l : List Int) (n : Int) (hl : l.length ≤ 1000) : PCall Try.prog 72 [.dat (.list (l.map encI)), dInt n] (dBool (decide (n ∈ l))) := by
  refine pcall_cut tab_all tab_mixed Try.func72 (by kernel_rfl) Try.ntmps72 rfl ?_
  conv => whnf
  conv => whnf
  repeat (first | (refine Conf.mk (by kernel_rfl) ?_; conv => whnf) | (refine SeqOk.go ?_; conv => whnf))
  refine .data _ _ (index_ok l n hl) rfl ?_
  conv => whnf
  repeat (first | (refine Conf.mk (by kernel_rfl) ?_; conv => whnf) | (refine SeqOk.go ?_; conv => whnf))
  exact Ret.bool (by rw [← any_mem, ← idxB _ l 0])
set_option maxHeartbeats 0 in
theorem checkWaits_ok (ws : List Wt) (c : Int) (hl : ws.length ≤ 1000) : PCall Try.prog 61 [.dat (.list (ws.map Wt.enc)), dInt c] (dInt (firstErr (waitErr c ws) ws.length)) := by
  refine pcall_cut tab_all tab_mixed Try.func61 (by kernel_rfl) Try.ntmps61 rfl ?_
  conv => whnf
  conv => whnf
  repeat (first | (refine Conf.mk (by kernel_rfl) ?_; conv => whnf) | (refine SeqOk.go ?_; conv => whnf))
  refine LoopOk.hide fun Q1 hQ1 => ?_
  refine LoopOk.mk (fun m s => ∃ i, i + m = ws.length ∧ (∀ j, j < i → waitErr c ws j = 0) ∧ s = ⟨[(9, dInt i), (8, dInt (ws.map Wt.enc).length), (7, .dat (.list (ws.map Wt.enc))), (1, dInt c), (0, .dat (.list (ws.map Wt.enc)))], 0, []⟩) ws.length (Into.mono (Into.to [] [(9, dInt (0 : Nat)), (8, dInt (ws.map Wt.enc).length), (7, .dat (.list (ws.map Wt.enc))), (1, dInt c), (0, .dat (.list (ws.map Wt.enc)))] [] (by repeat (first | exact trivial | refine ⟨.same (congrArg dInt (wrap_up (by omega))), ?_⟩ | refine ⟨.same rfl, ?_⟩ | refine ⟨.any _, ?_⟩)) trivial rfl rfl) fun s' h => ⟨0, by omega, fun j hj => absurd hj (Nat.not_lt_zero _), h⟩) ?_
  rintro m s ⟨i, hi, hp, rfl⟩
  conv => whnf
  repeat (first | (refine Conf.mk (by kernel_rfl) ?_; conv => whnf) | (refine SeqOk.go ?_; conv => whnf))
  refine ⟨fun h => ?_, fun h => ?_⟩
  · have hi' := lt_of h
    have hx := List.getElem?_eq_getElem hi'
    conv => whnf
    repeat (first | (refine Conf.mk (by kernel_rfl) ?_; conv => whnf) | (refine SeqOk.go ?_; conv => whnf))
    refine AtIdx.ofMap hi' rfl ?_
    conv => whnf
    repeat (first | (refine Conf.mk (by kernel_rfl) ?_; conv => whnf) | (refine SeqOk.go ?_; conv => whnf))
    refine .data _ _ (isNumber_ok ws[i].number) rfl ?_
    conv => whnf
    repeat (first | (refine Conf.mk (by kernel_rfl) ?_; conv => whnf) | (refine SeqOk.go ?_; conv => whnf))
    by_cases hb : isNum ws[i].number = false ∨ ws[i].time < 1 ∨ c < ws[i].time
    · have hE : waitErr c ws i = 3 := by unfold waitErr; rw [hx]; exact if_pos hb
      have hF : firstErr (waitErr c ws) ws.length = 3 := by rw [firstErr_at _ i hp (by rw [hE]; decide) _ hi', hE]
      by_cases h1 : isNum ws[i].number = false
      · refine BoolCase.yes (by rw [h1]; rfl) ?_
        conv => whnf
        repeat (first | (refine Conf.mk (by kernel_rfl) ?_; conv => whnf) | (refine SeqOk.go ?_; conv => whnf))
        subst hQ1
        conv => whnf
        exact Ret.int hF.symm
      · refine BoolCase.no (by simpa using h1) ?_
        conv => whnf
        repeat (first | (refine Conf.mk (by kernel_rfl) ?_; conv => whnf) | (refine SeqOk.go ?_; conv => whnf))
        by_cases h2 : ws[i].time < 1
        · refine BoolCase.yes (by simpa using h2) ?_
          conv => whnf
          repeat (first | (refine Conf.mk (by kernel_rfl) ?_; conv => whnf) | (refine SeqOk.go ?_; conv => whnf))
          subst hQ1
          conv => whnf
          exact Ret.int hF.symm
        · refine BoolCase.no (by simpa using h2) ?_
          conv => whnf
          repeat (first | (refine Conf.mk (by kernel_rfl) ?_; conv => whnf) | (refine SeqOk.go ?_; conv => whnf))
          refine BoolCase.yes (by rcases hb with k | k | k <;> first | exact absurd k h1 | exact absurd k h2 | simpa using k) ?_
          conv => whnf
          repeat (first | (refine Conf.mk (by kernel_rfl) ?_; conv => whnf) | (refine SeqOk.go ?_; conv => whnf))
          subst hQ1
          conv => whnf
          exact Ret.int hF.symm
    · refine BoolCase.no (by have : isNum ws[i].number = true := by simpa using fun k => hb (.inl k)
                             rw [this]; rfl) ?_
      conv => whnf
      repeat (first | (refine Conf.mk (by kernel_rfl) ?_; conv => whnf) | (refine SeqOk.go ?_; conv => whnf))
      refine BoolCase.no (by have : ¬ ws[i].time < 1 := fun k => hb (.inr (.inl k))
                             simpa using this) ?_
      conv => whnf
      repeat (first | (refine Conf.mk (by kernel_rfl) ?_; conv => whnf) | (refine SeqOk.go ?_; conv => whnf))
      refine BoolCase.no (by have : ¬ c < ws[i].time := fun k => hb (.inr (.inr k))
                             simpa using this) ?_
      conv => whnf
      repeat (first | (refine Conf.mk (by kernel_rfl) ?_; conv => whnf) | (refine SeqOk.go ?_; conv => whnf))
      cases i with
      | zero =>
        have i := 0
        have hE : waitErr c ws 0 = 0 := by unfold waitErr; rw [hx]; exact if_neg hb
        refine BoolCase.no rfl ?_
        conv => whnf
        repeat (first | (refine Conf.mk (by kernel_rfl) ?_; conv => whnf) | (refine SeqOk.go ?_; conv => whnf))
        exact Into.mono (Into.to [] [(9, dInt (0 + 1 : Nat)), (8, dInt (ws.map Wt.enc).length), (7, .dat (.list (ws.map Wt.enc))), (1, dInt c), (0, .dat (.list (ws.map Wt.enc)))] [] (by repeat (first | exact trivial | refine ⟨.same (congrArg dInt (wrap_up (by omega))), ?_⟩ | refine ⟨.same rfl, ?_⟩ | refine ⟨.any _, ?_⟩)) trivial rfl rfl) fun s' h => ⟨m - 1, by omega, 0 + 1, by omega, fun j hj => by
          by_cases e : j = 0
          · rw [e]; exact hE
          · exact hp j (by omega), h⟩
      | succ n =>
        have hn : n < ws.length := by omega
        have hE0 : waitErr c ws (n + 1) = if ws[n + 1].number ≤ ws[n].number then 4 else 0 := by
          unfold waitErr
          rw [hx]
          refine (if_neg hb).trans ?_
          simp only [List.getElem?_eq_getElem hn]
        refine BoolCase.yes (by simp) ?_
        conv => whnf
        repeat (first | (refine Conf.mk (by kernel_rfl) ?_; conv => whnf) | (refine SeqOk.go ?_; conv => whnf))
        refine AtIdx.ofMap' n (by show IntKind.i64.wrap (((n + 1 : Nat) : Int) - 1) = _; rw [wrap_down (by omega) (by omega)]; rfl) hn rfl ?_
        conv => whnf
        repeat (first | (refine Conf.mk (by kernel_rfl) ?_; conv => whnf) | (refine SeqOk.go ?_; conv => whnf))
        by_cases h4 : ws[n + 1].number ≤ ws[n].number
        · rw [if_pos h4] at hE0
          have hF : firstErr (waitErr c ws) ws.length = 4 := by rw [firstErr_at _ (n + 1) hp (by rw [hE0]; decide) _ hi', hE0]
          refine BoolCase.yes (by simpa using h4) ?_
          conv => whnf
          repeat (first | (refine Conf.mk (by kernel_rfl) ?_; conv => whnf) | (refine SeqOk.go ?_; conv => whnf))
          subst hQ1
          conv => whnf
          exact Ret.int hF.symm
        · have hE : waitErr c ws (n + 1) = 0 := by rw [hE0, if_neg h4]
          refine BoolCase.no (by simpa using h4) ?_
          conv => whnf
          repeat (first | (refine Conf.mk (by kernel_rfl) ?_; conv => whnf) | (refine SeqOk.go ?_; conv => whnf))
          exact Into.mono (Into.to [] [(9, dInt (n + 1 + 1 : Nat)), (8, dInt (ws.map Wt.enc).length), (7, .dat (.list (ws.map Wt.enc))), (1, dInt c), (0, .dat (.list (ws.map Wt.enc)))] [] (by repeat (first | exact trivial | refine ⟨.same (congrArg dInt (wrap_up (by omega))), ?_⟩ | refine ⟨.same rfl, ?_⟩ | refine ⟨.any _, ?_⟩)) trivial rfl rfl) fun s' h => ⟨m - 1, by omega, n + 1 + 1, by omega, fun j hj => by
          by_cases e : j = n + 1
          · rw [e]; exact hE
          · exact hp j (by omega), h⟩
  · have hi' := ge_of h
    conv => whnf
    repeat (first | (refine Conf.mk (by kernel_rfl) ?_; conv => whnf) | (refine SeqOk.go ?_; conv => whnf))
    subst hQ1
    conv => whnf
    exact Ret.int (firstErr_zero _ _ fun j hj => hp j (by omega)).symm
set_option maxHeartbeats 0 in
theorem checkDone_ok (s : Sv) (hl : s.done.length ≤ 1000) (hw : s.waits.length ≤ 1000) : PCall Try.prog 62 [s.arg] (dInt (firstErr (doneErr s) s.done.length)) := by
  refine pcall_cut tab_all tab_mixed Try.func62 (by kernel_rfl) Try.ntmps62 rfl ?_
  conv => whnf
  conv => whnf
  repeat (first | (refine Conf.mk (by kernel_rfl) ?_; conv => whnf) | (refine SeqOk.go ?_; conv => whnf))
  refine LoopOk.hide fun Q1 hQ1 => ?_
  refine LoopOk.mk (fun m t => ∃ i, i + m = s.done.length ∧ (∀ j, j < i → doneErr s j = 0) ∧ t = ⟨[(8, dInt i), (7, dInt (s.done.map encI).length), (6, .dat (.list (s.done.map encI))), (1, .ptr 0 0)], 1, [(0, .vars 43 3 [dInt s.clock, .dat (.list (s.waits.map Wt.enc)), .dat (.list (s.done.map encI))] true)]⟩) s.done.length (Into.mono (Into.to [0] [(8, dInt (0 : Nat)), (7, dInt (s.done.map encI).length), (6, .dat (.list (s.done.map encI))), (1, .ptr 0 0)] [(0, .vars 43 3 [dInt s.clock, .dat (.list (s.waits.map Wt.enc)), .dat (.list (s.done.map encI))] true)] (by repeat (first | exact trivial | refine ⟨.same (congrArg dInt (wrap_up (by omega))), ?_⟩ | refine ⟨.same rfl, ?_⟩ | refine ⟨.any _, ?_⟩)) ⟨⟨rfl, rfl, rfl, .same rfl, rfl, .same rfl, rfl, .same rfl, rfl, trivial⟩, trivial⟩ rfl rfl) fun s' h => ⟨0, by omega, fun j hj => absurd hj (Nat.not_lt_zero _), h⟩) ?_
  rintro m t ⟨i, hi, hp, rfl⟩
  conv => whnf
  repeat (first | (refine Conf.mk (by kernel_rfl) ?_; conv => whnf) | (refine SeqOk.go ?_; conv => whnf))
  refine ⟨fun h => ?_, fun h => ?_⟩
  · have hi' := lt_of h
    have hx := List.getElem?_eq_getElem hi'
    conv => whnf
    repeat (first | (refine Conf.mk (by kernel_rfl) ?_; conv => whnf) | (refine SeqOk.go ?_; conv => whnf))
    refine AtIdx.ofMap hi' rfl ?_
    conv => whnf
    repeat (first | (refine Conf.mk (by kernel_rfl) ?_; conv => whnf) | (refine SeqOk.go ?_; conv => whnf))
    refine .data _ _ (isNumber_ok s.done[i]) rfl ?_
    conv => whnf
    repeat (first | (refine Conf.mk (by kernel_rfl) ?_; conv => whnf) | (refine SeqOk.go ?_; conv => whnf))
    by_cases h1 : isNum s.done[i] = false
    · have hE : doneErr s i = 3 := by unfold doneErr; rw [hx]; exact if_pos h1
      have hF : firstErr (doneErr s) s.done.length = 3 := by rw [firstErr_at _ i hp (by rw [hE]; decide) _ hi', hE]
      refine BoolCase.yes (by rw [h1]; rfl) ?_
      conv => whnf
      repeat (first | (refine Conf.mk (by kernel_rfl) ?_; conv => whnf) | (refine SeqOk.go ?_; conv => whnf))
      subst hQ1
      conv => whnf
      exact Ret.int hF.symm
    · refine BoolCase.no (by simpa using h1) ?_
      conv => whnf
      repeat (first | (refine Conf.mk (by kernel_rfl) ?_; conv => whnf) | (refine SeqOk.go ?_; conv => whnf))
      refine .mk 0 i rfl rfl (Nat.zero_le _) (by simp; omega) ?_
      rw [takeI]
      conv => whnf
      repeat (first | (refine Conf.mk (by kernel_rfl) ?_; conv => whnf) | (refine SeqOk.go ?_; conv => whnf))
      refine .data _ _ (contains_ok (s.done.take i) s.done[i] (by simp; omega)) rfl ?_
      conv => whnf
      repeat (first | (refine Conf.mk (by kernel_rfl) ?_; conv => whnf) | (refine SeqOk.go ?_; conv => whnf))
      by_cases h2 : s.done[i] ∈ s.done.take i
      · have hE : doneErr s i = 6 := by unfold doneErr; rw [hx]; exact (if_neg h1).trans (if_pos (.inl h2))
        have hF : firstErr (doneErr s) s.done.length = 6 := by rw [firstErr_at _ i hp (by rw [hE]; decide) _ hi', hE]
        refine BoolCase.yes (by simpa using h2) ?_
        conv => whnf
        repeat (first | (refine Conf.mk (by kernel_rfl) ?_; conv => whnf) | (refine SeqOk.go ?_; conv => whnf))
        subst hQ1
        conv => whnf
        exact Ret.int hF.symm
      · refine BoolCase.no (by simpa using h2) ?_
        conv => whnf
        repeat (first | (refine Conf.mk (by kernel_rfl) ?_; conv => whnf) | (refine SeqOk.go ?_; conv => whnf))
        refine .data _ _ (find_ok s.waits s.done[i] hw) rfl ?_
        conv => whnf
        repeat (first | (refine Conf.mk (by kernel_rfl) ?_; conv => whnf) | (refine SeqOk.go ?_; conv => whnf))
        by_cases h3 : (findAt s.waits s.done[i]).isSome = true
        · have hE : doneErr s i = 6 := by unfold doneErr; rw [hx]; exact (if_neg h1).trans (if_pos (.inr h3))
          have hF : firstErr (doneErr s) s.done.length = 6 := by rw [firstErr_at _ i hp (by rw [hE]; decide) _ hi', hE]
          refine BoolCase.yes (by rw [← h3]; exact optInt_nonneg _) ?_
          conv => whnf
          repeat (first | (refine Conf.mk (by kernel_rfl) ?_; conv => whnf) | (refine SeqOk.go ?_; conv => whnf))
          subst hQ1
          conv => whnf
          exact Ret.int hF.symm
        · have hE : doneErr s i = 0 := by unfold doneErr; rw [hx]; exact (if_neg h1).trans (if_neg (by rintro (k | k); exact h2 k; exact h3 k))
          refine BoolCase.no ((optInt_nonneg _).trans (by simpa using h3)) ?_
          conv => whnf
          repeat (first | (refine Conf.mk (by kernel_rfl) ?_; conv => whnf) | (refine SeqOk.go ?_; conv => whnf))
          exact Into.mono (Into.to [0] [(8, dInt (i + 1 : Nat)), (7, dInt (s.done.map encI).length), (6, .dat (.list (s.done.map encI))), (1, .ptr 0 0)] [(0, .vars 43 3 [dInt s.clock, .dat (.list (s.waits.map Wt.enc)), .dat (.list (s.done.map encI))] true)] (by repeat (first | exact trivial | refine ⟨.same (congrArg dInt (wrap_up (by omega))), ?_⟩ | refine ⟨.same rfl, ?_⟩ | refine ⟨.any _, ?_⟩)) ⟨⟨rfl, rfl, rfl, .same rfl, rfl, .same rfl, rfl, .same rfl, rfl, trivial⟩, trivial⟩ rfl rfl) fun s' h => ⟨m - 1, by omega, i + 1, by omega, fun j hj => by
            by_cases e : j = i
            · rw [e]; exact hE
            · exact hp j (by omega), h⟩
  · have hi' := ge_of h
    conv => whnf
    repeat (first | (refine Conf.mk (by kernel_rfl) ?_; conv => whnf) | (refine SeqOk.go ?_; conv => whnf))
    subst hQ1
    conv => whnf
    exact Ret.int (firstErr_zero _ _ fun j hj => hp j (by omega)).symm
set_option maxHeartbeats 0 in
theorem scheck_ok (s : Sv) (hl : s.done.length ≤ 140737488355328) (hw : s.waits.length ≤ 140737488355328) : PCall Try.prog 27 [s.arg] (dInt s.err) := by
  refine pcall_cut tab_all tab_mixed Try.func27 (by kernel_rfl) Try.ntmps27 rfl ?_
  conv => whnf
  conv => whnf
  repeat (first | (refine Conf.mk (by kernel_rfl) ?_; conv => whnf) | (refine SeqOk.go ?_; conv => whnf))
  by_cases h1 : s.clock < 0 ∨ 999 < s.clock
  · have hE : s.err = 3 := by unfold Sv.err; rw [if_pos h1]
    by_cases k1 : s.clock < 0
    · refine BoolCase.yes (by simpa using k1) ?_
      conv => whnf
      repeat (first | (refine Conf.mk (by kernel_rfl) ?_; conv => whnf) | (refine SeqOk.go ?_; conv => whnf))
      exact Ret.int hE.symm
    · refine BoolCase.no (by simpa using k1) ?_
      conv => whnf
      repeat (first | (refine Conf.mk (by kernel_rfl) ?_; conv => whnf) | (refine SeqOk.go ?_; conv => whnf))
      refine BoolCase.yes (by simpa using h1.resolve_left k1) ?_
      conv => whnf
      repeat (first | (refine Conf.mk (by kernel_rfl) ?_; conv => whnf) | (refine SeqOk.go ?_; conv => whnf))
      exact Ret.int hE.symm
  · refine BoolCase.no (by simp; omega) ?_
    conv => whnf
    repeat (first | (refine Conf.mk (by kernel_rfl) ?_; conv => whnf) | (refine SeqOk.go ?_; conv => whnf))
    refine BoolCase.no (by simp; omega) ?_
    conv => whnf
    repeat (first | (refine Conf.mk (by kernel_rfl) ?_; conv => whnf) | (refine SeqOk.go ?_; conv => whnf))
    by_cases h2 : 8 < s.waits.length ∨ 30 < s.done.length
    · have hE : s.err = 2 := by unfold Sv.err; rw [if_neg h1, if_pos h2]
      by_cases k1 : 8 < s.waits.length
      · refine BoolCase.yes (by simp; omega) ?_
        conv => whnf
        repeat (first | (refine Conf.mk (by kernel_rfl) ?_; conv => whnf) | (refine SeqOk.go ?_; conv => whnf))
        exact Ret.int hE.symm
      · refine BoolCase.no (by simp; omega) ?_
        conv => whnf
        repeat (first | (refine Conf.mk (by kernel_rfl) ?_; conv => whnf) | (refine SeqOk.go ?_; conv => whnf))
        refine BoolCase.yes (by have := h2.resolve_left k1; simp; omega) ?_
        conv => whnf
        repeat (first | (refine Conf.mk (by kernel_rfl) ?_; conv => whnf) | (refine SeqOk.go ?_; conv => whnf))
        exact Ret.int hE.symm
    · refine BoolCase.no (by simp; omega) ?_
      conv => whnf
      repeat (first | (refine Conf.mk (by kernel_rfl) ?_; conv => whnf) | (refine SeqOk.go ?_; conv => whnf))
      refine BoolCase.no (by simp; omega) ?_
      conv => whnf
      repeat (first | (refine Conf.mk (by kernel_rfl) ?_; conv => whnf) | (refine SeqOk.go ?_; conv => whnf))
      refine .data _ _ (checkWaits_ok s.waits s.clock (by omega)) rfl ?_
      conv => whnf
      repeat (first | (refine Conf.mk (by kernel_rfl) ?_; conv => whnf) | (refine SeqOk.go ?_; conv => whnf))
      by_cases h3 : firstErr (waitErr s.clock s.waits) s.waits.length = 0
      · refine BoolCase.no (by simpa using h3) ?_
        conv => whnf
        repeat (first | (refine Conf.mk (by kernel_rfl) ?_; conv => whnf) | (refine SeqOk.go ?_; conv => whnf))
        refine .data _ _ (checkDone_ok s (by omega) (by omega)) rfl ?_
        conv => whnf
        repeat (first | (refine Conf.mk (by kernel_rfl) ?_; conv => whnf) | (refine SeqOk.go ?_; conv => whnf))
        by_cases h4 : firstErr (doneErr s) s.done.length = 0
        · refine BoolCase.no (by simpa using h4) ?_
          conv => whnf
          repeat (first | (refine Conf.mk (by kernel_rfl) ?_; conv => whnf) | (refine SeqOk.go ?_; conv => whnf))
          refine .data _ _ (isFinalFirst_ok s.waits (by omega)) rfl ?_
          conv => whnf
          repeat (first | (refine Conf.mk (by kernel_rfl) ?_; conv => whnf) | (refine SeqOk.go ?_; conv => whnf))
          have hE : s.err = if finalFirst s.waits then 4 else 0 := by unfold Sv.err; rw [if_neg h1, if_neg h2, if_neg (by simpa using h3), if_neg (by simpa using h4)]
          by_cases h5 : finalFirst s.waits = true
          · rw [if_pos h5] at hE
            refine BoolCase.yes h5 ?_
            conv => whnf
            repeat (first | (refine Conf.mk (by kernel_rfl) ?_; conv => whnf) | (refine SeqOk.go ?_; conv => whnf))
            exact Ret.int hE.symm
          · rw [if_neg h5] at hE
            refine BoolCase.no (by simpa using h5) ?_
            conv => whnf
            repeat (first | (refine Conf.mk (by kernel_rfl) ?_; conv => whnf) | (refine SeqOk.go ?_; conv => whnf))
            exact Ret.int hE.symm
        · have hE : s.err = firstErr (doneErr s) s.done.length := by unfold Sv.err; rw [if_neg h1, if_neg h2, if_neg (by simpa using h3), if_pos h4]
          refine BoolCase.yes (by simpa using h4) ?_
          conv => whnf
          repeat (first | (refine Conf.mk (by kernel_rfl) ?_; conv => whnf) | (refine SeqOk.go ?_; conv => whnf))
          exact Ret.int hE.symm
      · have hE : s.err = firstErr (waitErr s.clock s.waits) s.waits.length := by unfold Sv.err; rw [if_neg h1, if_neg h2, if_pos h3]
        refine BoolCase.yes (by simpa using h3) ?_
        conv => whnf
        repeat (first | (refine Conf.mk (by kernel_rfl) ?_; conv => whnf) | (refine SeqOk.go ?_; conv => whnf))
        exact Ret.int hE.symm
end Go.Proofs.Ytlioojekjnigiab.AM.Sk
/- Functions that change what they are handed: what is asked of a body makes what is told of a call. -/
namespace Go.Proofs.Ytlioojekjnigiab.AM
set_option linter.unusedVariables false
set_option linter.unusedSimpArgs false

/-- What one answers that changes what it is handed: fz stay from here on; the handles q alone go on, those that came in ahead of all. -/
inductive RetOwn (n : Nat) (s : St) (a : AVal) (R : AVal → Heap → Nat → Prop) : Prop
  | mk (fz q : List Nat) (x : AVal) (H' : Heap) (hz : (nodup fz && fz.all fun h => (s.H.get h).live) = true) (ha : Fit (over (fz.map fun h => (h, (s.H.get h).freeze)) s.H.get) (x.ren (ren1 q 0)) a) (hH : heapFits (over (fz.map fun h => (h, (s.H.get h).freeze)) s.H.get) (ren1 q 0) H') (hq : (nodup q && keepOk n 0 q) = true) (hb : (x.hb q.length && heapHb q.length H') = true) (hR : R x H' q.length) : RetOwn n s a R
def ownF (tab : Tab) (rs : List ResultVar) (n : Nat) (R : AVal → Heap → Nat → Prop) (e : X) (env : Env) (next : Nat) (H : Heap) : Prop := match e with
  | .normal | .ret => resVC tab ⟨env, next, H⟩ rs fun xs => RetOwn n ⟨env, next, H⟩ (tupA xs) R
  | .exit _ => False
/-- Called with what is known, it answers so, and leaves so; m handles are new. -/
abbrev ECall (P : Program) (f : FuncId) (args : List AVal) (H : Heap) (n : Nat) (x : AVal) (H' : Heap) (m : Nat) : Prop :=
  ACall P f args H n fun x' H'' n' => x' = x ∧ H'' = H' ∧ n' = n + m

section
variable {P : Program} {tab : Tab}
theorem acall_of_vc {ic : Code → Bool} (ht : TabOk P tab) (hm : P.follows .mixedOrders = true) {f : FuncId} {fn : Func} {c : Code} {args : List AVal} {H : Heap} {n N : Nat} {R : AVal → Heap → Nat → Prop} (hf : P.funcs[f]? = some fn) (hb : fn.body = some c) (hcall : callable P f = true) (hN : fn.ntmps = nOf N) (hk : kOf N = n) (hlen : args.length ≤ nOf N)
    {Q : X → St → Prop} (hQ : ∀ e s, Q e s → ownF tab fn.results.toList n R e s.env s.next s.H) (h : vc ic tab P N c Q ⟨argEnv 0 args, n, H⟩) : ACall P f args H n R := by
  refine ⟨hcall, fun r A w vs hr hc hs hv => ?_⟩
  refine calls_of_wp hf hb ?_
  rw [hN]
  have hsim := start_sim (N := N) (H := H) hr hc ⟨hs, hv⟩ hlen hk
  refine wp_mono (vc_sound ht hm c _ _ r A _ w h hsim) (lift_body fun s r' A' act w' e hq hs' => ?_)
  have hq := hQ e s hq
  have body : resVC tab s fn.results.toList (fun xs => RetOwn n s (tupA xs) R) → ∃ v, (results fn act.tmps).run P w' = .ok v w' ∧ (fun e w' => ∃ v r' A' x H' n', e = Ending.returned v ∧ R x H' n' ∧ n ≤ n' ∧ (∀ h, h < n → r' h = r h) ∧ (∀ h, n' ≤ h → r' h = none) ∧ Core r' A' w' (Heap.get H') ∧ VRel r' A' v x ∧ Fr w A w' A' (LiveB r H.get) ∧ ∀ b, LiveB r' (Heap.get H') b → LiveB r H.get b ∨ w.heap.size ≤ b) (.returned v) w' := fun hres => by
    obtain ⟨xs, v, ⟨fz, q, x, H', hz, ha, hH, hq, hb, hR⟩, h2, h3⟩ := res_run ht hs' hres
    simp only [Bool.and_eq_true] at hq hb hz
    obtain ⟨A2, c2, s2, k2'⟩ := Core.stays s.H.get fz hs'.core hz.1 fun h hh => ⟨rfl, List.all_eq_true.1 hz.2 h hh⟩
    generalize hG : over (fz.map fun h => (h, (s.H.get h).freeze)) s.H.get = g2 at c2 ha hH
    obtain ⟨r2, k1, k2, k3, k4, k5⟩ := retell c2 q H' hH hq.1 hb.2
    obtain ⟨p1, p2⟩ := keepOk_get hq.2
    have hlive : ∀ b, LiveB r' g2 b → LiveB r' s.H.get b := fun b ⟨h, hl, hb⟩ => by
      refine ⟨h, ?_, hb⟩
      rw [← hG] at hl
      by_cases hm : h ∈ fz
      · exact List.all_eq_true.1 hz.2 h hm
      · rw [over_keys] at hl
        · exact hl
        · simp only [List.map_map, List.mem_map, Function.comp, not_exists, not_and]
          exact fun y hy e => hm (by rw [← show y = h from e]; exact hy)
    have hfr : Fr w A w' A2 (LiveB r H.get) := by
      refine ⟨hs'.frame.os, hs'.frame.tape, hs'.frame.output, hs'.frame.size, hs'.frame.block, hs'.frame.sub.trans s2, fun b hb hn => ?_⟩
      rw [k2' b fun h hh e => ?_]
      · exact hs'.frame.keep b hb hn
      · rcases hs'.own b ⟨h, List.all_eq_true.1 hz.2 h hh, e⟩ with h1 | h1
        · omega
        · exact hn h1
    refine ⟨v, h2, v, r2, A2, x, H', q.length, rfl, hR, p1, fun h hh => ?_, k3, k1, k2 _ _ _ hb.1 ha (h3.mono (RSub.refl r') s2), hfr, fun b hbb => (hs'.own b (hlive b (k5 b hbb))).symm⟩
    have := p2 h hh
    rw [Nat.zero_add] at this
    rw [k4 h (Nat.lt_of_lt_of_le hh p1), ren1_lt this]
    exact hs'.keep h (by rw [hk]; exact hh)
  cases e with
  | normal => exact ⟨fun id h => (by cases h), body hq⟩
  | ret => exact ⟨fun id h => (by cases h), body hq⟩
  | exit id => exact hq.elim
/-- A function that changes what it is handed: what is asked of its body. -/
theorem acall_with (ic : Code → Bool) (ht : TabOk P tab) (hm : P.follows .mixedOrders = true) {f N : Nat} {fn : Func} {args : List AVal} {H : Heap} {n : Nat} {R : AVal → Heap → Nat → Prop} (hf : P.funcs[f]? = some fn) (hcall : callable P f = true) (hN : fn.ntmps = N) (hlen : (Nat.ble args.length N && Nat.blt N 65536) = true)
    (h : vcR ic tab P (n * 65536 + N) (bodyOf fn) (ownF tab fn.results.toList n R) (argEnv 0 args) n H) : ACall P f args H n R := by
  simp only [Bool.and_eq_true] at hlen
  have hsm := hblt hlen.2
  have hb : fn.body = some (bodyOf fn) := by
    unfold callable at hcall
    rw [hf] at hcall
    simp only [Bool.and_eq_true] at hcall
    obtain ⟨c, hc⟩ := Option.isSome_iff_exists.1 hcall.2
    simp [bodyOf, hc]
  have h1 : nOf (n * 65536 + N) = N := by show (n * 65536 + N) % 65536 = N; omega
  have h2 : kOf (n * 65536 + N) = n := by show (n * 65536 + N) / 65536 = n; omega
  refine acall_of_vc (ic := ic) ht hm (N := n * 65536 + N) hf hb hcall (by rw [h1]; exact hN) h2 (by rw [h1]; exact Nat.le_of_ble_eq_true hlen.1) (Q := fun e s => ownF tab fn.results.toList n R e s.env s.next s.H) (fun e s h => h) ?_
  rw [← vcF_eq, ← vcR_eq]
  exact h
theorem acall_intro (ht : TabOk P tab) (hm : P.follows .mixedOrders = true) {f N : Nat} {fn : Func} {args : List AVal} {H : Heap} {n : Nat} {R : AVal → Heap → Nat → Prop} (hf : P.funcs[f]? = some fn) (hcall : callable P f = true) (hN : fn.ntmps = N) (hlen : (Nat.ble args.length N && Nat.blt N 65536) = true)
    (h : vcR isCond tab P (n * 65536 + N) (bodyOf fn) (ownF tab fn.results.toList n R) (argEnv 0 args) n H) : ACall P f args H n R := acall_with isCond ht hm hf hcall hN hlen h
theorem acall_cut (ht : TabOk P tab) (hm : P.follows .mixedOrders = true) {f N : Nat} {fn : Func} {args : List AVal} {H : Heap} {n : Nat} {R : AVal → Heap → Nat → Prop} (hf : P.funcs[f]? = some fn) (hcall : callable P f = true) (hN : fn.ntmps = N) (hlen : (Nat.ble args.length N && Nat.blt N 65536) = true)
    (h : vcR isBig tab P (n * 65536 + N) (bodyOf fn) (ownF tab fn.results.toList n R) (argEnv 0 args) n H) : ACall P f args H n R := acall_with isBig ht hm hf hcall hN hlen h
end
end Go.Proofs.Ytlioojekjnigiab.AM
/- One more in the midst of a row of one's own, told as a call. -/
namespace Go.Proofs.Ytlioojekjnigiab.AM
open Go.RowKit
set_option linter.unusedVariables false
set_option linter.unusedSimpArgs false

theorem get_two {e0 e1 : Entry} {h : Nat} : Heap.get [(0, e0), (1, e1)] h = if h = 0 then e0 else if h = 1 then e1 else .dead := by
  match h with
  | 0 => rfl
  | 1 => rfl
  | h + 2 => rfl
theorem get_three {e : Entry} {h : Nat} : Heap.get [(0, .dead), (1, .dead), (2, e)] h = if h = 2 then e else .dead := by
  match h with
  | 0 => rfl
  | 1 => rfl
  | 2 => rfl
  | h + 3 => rfl
/-- The cells of a row that is one's own. -/
theorem row_cells {k : Nat} {cur : Array Value} {es : List (List D)} {A : View} (hs : ∀ e ∈ es, e.length = k) (hle : es.length * k ≤ cur.size)
    (h6 : ∀ i e, es[i]? = some e → ∀ j d, e[j]? = some d → Rep A (cur.getD (i * k + j) undef) d) : ∀ u ∈ cur.toList.take (es.length * k), u.oneCell' = true := fun u hu => by
  obtain ⟨p, hp, rfl⟩ := List.mem_take_iff_getElem.1 hu
  have hp2 : p < es.length * k := by omega
  have hk0 : 0 < k := by
    rcases Nat.eq_zero_or_pos k with h | h
    · subst h; simp at hp2
    · exact h
  have hi : p / k < es.length := Nat.div_lt_of_lt_mul (by rw [Nat.mul_comm]; exact hp2)
  have hm : p % k < k := Nat.mod_lt _ hk0
  have hd : (es[p / k])[p % k]? = some ((es[p / k])[p % k]'(by rw [hs _ (List.getElem_mem hi)]; exact hm)) := List.getElem?_eq_getElem _
  have := (h6 (p / k) es[p / k] (List.getElem?_eq_getElem hi) (p % k) _ hd).one
  rw [Nat.mul_comm, Nat.div_add_mod] at this
  have hpc : p < cur.size := by omega
  rw [Array.getD_eq_getD_getElem?, Array.getElem?_eq_getElem hpc, Option.getD_some] at this
  simpa using this
theorem acall_insert {P : Program} {f T k : Nat} (hk0 : 0 < k) (hcall : callable P f = true) (es : List (List D)) (x : List D) (i : Nat) (hi : i < es.length) (hn : es.length ≤ 1000)
    (hins : ∀ (n i : Nat) (v : Value) (cs xs : List Value) (vb vc : Nat) (xv : Array Value) (w : World), w.ownsRow 0 T k v n cs → w.heap[vb]? = some (.cells xv T (0, 0)) → v.ownBlock ≠ some vb → xs.length = k → xv.toList.take k = xs → xv.size = vc * k → 1 ≤ vc → (∀ u ∈ xs, u.oneCell' = true) → (∀ u ∈ cs, u.oneCell' = true) → n ≤ 1000 → i ≤ n →
      Calls P f #[v, .int .i64 i, .slice (some ⟨vb, 0, none⟩) 1 vc] w fun e w' => ∃ g cap, e = .returned (.slice (some ⟨g, 0, none⟩) (n + 1) cap) ∧ w'.ownsRow 0 T k (.slice (some ⟨g, 0, none⟩) (n + 1) cap) (n + 1) (cs.take (i * k) ++ xs ++ cs.drop (i * k)) ∧ w.grownBy w' v.ownBlock ∧ (v.ownBlock = some g ∨ w.heap.size ≤ g)) :
    ECall P f [.row 0, .dat (.int .i64 i), .row 1] [(0, .rows T k es true), (1, .rows T k [x] true)] 2 (.row 2) [(0, .dead), (1, .dead), (2, .rows T k (es.take i ++ x :: es.drop i) true)] 1 := by
  refine ⟨hcall, fun r A w vs hr hc hs hv => ?_⟩
  obtain ⟨v0, v1, v2, rfl⟩ : ∃ v0 v1 v2, vs = #[v0, v1, v2] := by
    match vs, hs with
    | ⟨[v0, v1, v2]⟩, _ => exact ⟨v0, v1, v2, rfl⟩
  have h0 : VRel r A v0 (.row 0) := hv 0 _ rfl
  have h1 : VRel r A v1 (.dat (.int .i64 i)) := hv 1 _ rfl
  have h2 : VRel r A v2 (.row 1) := hv 2 _ rfl
  obtain rfl : v1 = .int .i64 i := by
    cases h1 with | dat hr => cases hr; rfl
  have e0 := hc.ent 0
  have e1 := hc.ent 1
  rw [get_two, if_pos rfl] at e0
  rw [get_two, if_neg (by decide), if_pos rfl] at e1
  obtain ⟨k0, ⟨q1, q2⟩ | ⟨g, cap, cur, a1, a2, a3, a4, a5, a6, a7⟩⟩ := e0
  · subst q2; simp at hi
  obtain ⟨k1, ⟨q1, q2⟩ | ⟨vb, vc, xv, b1, b2, b3, b4, b5, b6, b7⟩⟩ := e1
  · cases q2
  cases h0 with
  | rowNil _ a ha hb => rw [hb] at a1; cases a1
  | row _ b n cap' hb =>
  rw [hb] at a1
  simp only [Option.some.injEq, Loc.mk.injEq] at a1
  obtain ⟨rfl, rfl, rfl⟩ := a1
  cases h2 with
  | rowNil _ a ha hb2 => rw [hb2] at b1; cases b1
  | row _ b2' n2 cap2 hb2 =>
  rw [hb2] at b1
  simp only [Option.some.injEq, Loc.mk.injEq, List.length_singleton] at b1
  obtain ⟨rfl, rfl, rfl⟩ := b1
  have hxl : x.length = k := k1 x (by simp)
  have hne : b ≠ b2' := fun e => by
    have := hc.dis 0 1 b rfl rfl (by simp [Rho.blk, hb]) (by simp [Rho.blk, hb2, e])
    cases this
  have hlen : es.length * k ≤ cur.size := by rw [a3]; exact Nat.mul_le_mul_right _ a5
  have hvlen : 1 * k ≤ xv.size := by rw [b3]; exact Nat.mul_le_mul_right _ b5
  rw [Nat.one_mul] at hvlen
  let cs := cur.toList.take (es.length * k)
  let xs := xv.toList.take k
  have hcsl : cs.length = es.length * k := by simp [cs]; omega
  have hxsl : xs.length = k := by simp [xs]; omega
  have hown : w.ownsRow 0 T k (.slice (some ⟨b, 0, none⟩) es.length cap') es.length cs := ⟨hcsl, .inr ⟨b, cap', cur, rfl, Nat.zero_le _, a2, a5, a4, a3, rfl⟩⟩
  refine (hins es.length i _ cs xs b2' cap2 xv w hown b2 (fun e => hne (by simpa [Value.ownBlock] using e)) hxsl rfl b3 b5 (fun u hu => ?_) (fun u hu => row_cells k0 hlen a6 u hu) hn (by omega)).mono fun e w' he => ?_
  · have := row_cells (es := [x]) k1 (by simpa using hvlen) b6 u
    simp only [List.length_singleton, Nat.one_mul] at this
    exact this hu
  obtain ⟨g', cap3, rfl, ho, hgr, hat⟩ := he
  obtain ⟨hol, ⟨q1, _⟩ | ⟨g2, cap4, cur', q1, _, hg', hle', hcm', hsz', ht'⟩⟩ := ho
  · cases q1
  simp only [Value.slice.injEq, Option.some.injEq, Addr.mk.injEq, and_true, true_and] at q1
  obtain ⟨rfl, rfl⟩ := q1
  have hr2 : r 2 = none := hr 2 (Nat.le_refl _)
  have hsub := Rho.set_sub (l := ⟨some g', es.length + 1, cap3⟩) hr2
  have hlb : ∀ x, LiveB r (Heap.get [(0, .rows T k es true), (1, .rows T k [x] true)]) b := fun x => ⟨0, rfl, by simp [Rho.blk, hb]⟩
  have hAg : ∀ o, A g' o = none := fun o => by
    rcases hat with e | e
    · have : b = g' := by simpa [Value.ownBlock] using e
      rw [← this]; exact a7 o
    · cases hA : A g' o with
      | none => rfl
      | some v => have := hc.view_lt hA; omega
  have hfr : Fr w A w' A (fun x => x = b) := ⟨hgr.os, hgr.tape, hgr.output, hgr.size, fun y hy hny => hgr.block y hy (by simpa [Value.ownBlock] using hny), Sub.refl A, fun _ _ _ => rfl⟩
  have hnew : (es.take i ++ x :: es.drop i).length = es.length + 1 := by simp; omega
  refine ⟨_, r.set 2 ⟨some g', es.length + 1, cap3⟩, A, .row 2, _, 3, rfl, ⟨rfl, rfl, rfl⟩, by decide, fun h hh => Rho.set_ne (by omega), fun h hh => (Rho.set_ne (by omega)).trans (hr h (by omega)), ⟨fun b3 o v hA => ?_, fun h => ?_, fun h h' b3 hl hl' _ _ => ?_⟩, .row 2 g' _ cap3 Rho.set_same, hfr.weaken fun y hy => by rw [hy]; exact hlb x, fun b3 hb3 => ?_⟩
  · have hv3 := hc.view b3 o v hA
    have hny : b3 ≠ b := fun e => by rw [e, a7] at hA; cases hA
    rw [← hv3]
    exact World.cell?_of_block (w := w) (hfr.block b3 (cell_lt' hv3) hny)
  · rw [get_three]
    by_cases hh : h = 2
    · subst hh
      rw [if_pos rfl]
      refine ⟨fun e he => ?_, .inr ⟨g', cap3, cur', by rw [Rho.set_same, hnew], hg', hsz', hcm', by rw [hnew]; exact hle', fun i' e he j d hd => ?_, hAg⟩⟩
      · rcases List.mem_append.1 he with he | he
        · exact k0 e (List.mem_of_mem_take he)
        · rcases List.mem_cons.1 he with rfl | he
          · exact hxl
          · exact k0 e (List.mem_of_mem_drop he)
      · have hi' : i' < es.length + 1 := by rw [← hnew]; exact (List.getElem?_eq_some_iff.1 he).1
        have hel : e.length = k := by
          rcases List.mem_append.1 (List.mem_of_getElem? he) with he | he
          · exact k0 e (List.mem_of_mem_take he)
          · rcases List.mem_cons.1 he with rfl | he
            · exact hxl
            · exact k0 e (List.mem_of_mem_drop he)
        have hj : j < k := by rw [← hel]; exact (List.getElem?_eq_some_iff.1 hd).1
        have hpos : i' * k + j < (es.length + 1) * k := by
          have h5 : (i' + 1) * k ≤ (es.length + 1) * k := Nat.mul_le_mul_right _ hi'
          rw [Nat.add_mul, Nat.one_mul] at h5
          omega
        have hcell : cur'.getD (i' * k + j) undef = ((cs.take (i * k) ++ xs ++ cs.drop (i * k))[i' * k + j]?).getD undef := by
          rw [← ht', List.getElem?_take, if_pos hpos, Array.getElem?_toList, Array.getD_eq_getD_getElem?]
        rw [hcell]
        have hti : (cs.take (i * k)).length = i * k := by
          rw [List.length_take, hcsl]
          exact Nat.min_eq_left (Nat.mul_le_mul_right _ (by omega))
        have csg : ∀ p, p < es.length * k → cs[p]? = cur[p]? := fun p hp => by
          simp only [cs]
          rw [List.getElem?_take, if_pos hp, Array.getElem?_toList]
        rcases Nat.lt_trichotomy i' i with hlt | heq | hgt
        · rw [List.getElem?_append_left (by simp; omega)] at he
          rw [List.getElem?_take, if_pos hlt] at he
          have hp1 : i' * k + j < i * k := by
            have h5 : (i' + 1) * k ≤ i * k := Nat.mul_le_mul_right _ hlt
            rw [Nat.add_mul, Nat.one_mul] at h5
            omega
          rw [List.append_assoc, List.getElem?_append_left (by rw [hti]; exact hp1), List.getElem?_take, if_pos hp1, csg _ (Nat.lt_of_lt_of_le hp1 (Nat.mul_le_mul_right _ (by omega))), ← Array.getD_eq_getD_getElem?]
          exact a6 i' e he j d hd
        · subst heq
          rw [List.getElem?_append_right (by simp; omega)] at he
          have : i' - (es.take i').length = 0 := by simp; omega
          rw [this] at he
          obtain rfl : x = e := by simpa using he
          rw [List.append_assoc, List.getElem?_append_right (by rw [hti]; omega), hti, show i' * k + j - i' * k = j by omega, List.getElem?_append_left (by rw [hxsl]; exact hj)]
          simp only [xs]
          rw [List.getElem?_take, if_pos hj, Array.getElem?_toList, ← Array.getD_eq_getD_getElem?]
          have := b6 0 x rfl j d hd
          rwa [Nat.zero_mul, Nat.zero_add] at this
        · rw [List.getElem?_append_right (by simp; omega)] at he
          have hsub1 : i' - (es.take i).length = (i' - 1 - i) + 1 := by simp; omega
          rw [hsub1, List.getElem?_cons_succ, List.getElem?_drop, show i + (i' - 1 - i) = i' - 1 by omega] at he
          have hp2 : i * k + k ≤ i' * k + j := by
            have h5 : (i + 1) * k ≤ i' * k := Nat.mul_le_mul_right _ hgt
            rw [Nat.add_mul, Nat.one_mul] at h5
            omega
          have hp3 : i' * k + j - k = (i' - 1) * k + j := by
            rw [Nat.sub_mul, Nat.one_mul]
            have h5 : 1 * k ≤ i' * k := Nat.mul_le_mul_right _ (by omega)
            rw [Nat.one_mul] at h5
            omega
          have h7 : (es.length + 1) * k = es.length * k + k := by rw [Nat.add_mul, Nat.one_mul]
          have h9 : (i' - 1) * k + j < es.length * k := by
            have h5 : 1 * k ≤ i' * k := Nat.mul_le_mul_right _ (by omega)
            rw [Nat.one_mul] at h5
            omega
          rw [List.getElem?_append_right (by rw [List.length_append, hti, hxsl]; exact hp2), List.length_append, hti, hxsl, List.getElem?_drop, show i * k + (i' * k + j - (i * k + k)) = i' * k + j - k by omega, hp3, csg _ h9, ← Array.getD_eq_getD_getElem?]
          exact a6 (i' - 1) e he j d hd
    · rw [if_neg hh]; trivial
  · rw [get_three] at hl hl'
    by_cases hh : h = 2
    · by_cases hh' : h' = 2
      · rw [hh, hh']
      · rw [if_neg hh'] at hl'; cases hl'
    · rw [if_neg hh] at hl; cases hl
  · obtain ⟨h, hl, hbb⟩ := hb3
    rw [get_three] at hl
    by_cases hh : h = 2
    · subst hh
      obtain rfl : g' = b3 := by simpa [Rho.blk, Rho.set_same] using hbb
      rcases hat with e | e
      · have : b = g' := by simpa [Value.ownBlock] using e
        rw [← this]; exact .inl (hlb x)
      · exact .inr e
    · rw [if_neg hh] at hl; cases hl
end Go.Proofs.Ytlioojekjnigiab.AM
/- One less in the midst of a row of one's own, told as a call. -/
namespace Go.Proofs.Ytlioojekjnigiab.AM
open Go.RowKit
set_option linter.unusedVariables false
set_option linter.unusedSimpArgs false

theorem get_one' {e : Entry} {h : Nat} : Heap.get [(0, e)] h = if h = 0 then e else .dead := by
  match h with
  | 0 => rfl
  | h + 1 => rfl
theorem get_next {e : Entry} {h : Nat} : Heap.get [(0, .dead), (1, e)] h = if h = 1 then e else .dead := by
  match h with
  | 0 => rfl
  | 1 => rfl
  | h + 2 => rfl
theorem acall_delete {P : Program} {f T k : Nat} (hk0 : 0 < k) (hcall : callable P f = true) (es : List (List D)) (i : Nat) (hi : i < es.length) (hn : es.length ≤ 1000)
    (hdel : ∀ (g m cap i : Nat) (cs : List Value) (w : World), w.ownsRow 0 T k (.slice (some ⟨g, 0, none⟩) (m + 1) cap) (m + 1) cs → i ≤ m → (∀ u ∈ cs, u.oneCell' = true) → m ≤ 1000 →
      Calls P f #[.slice (some ⟨g, 0, none⟩) (m + 1) cap, .int .i64 i, .int .i64 ((i : Int) + 1)] w fun e w' => e = .returned (.slice (some ⟨g, 0, none⟩) m cap) ∧ w'.ownsRow 0 T k (.slice (some ⟨g, 0, none⟩) m cap) m (cs.take (i * k) ++ cs.drop (i * k + k)) ∧ w.grownBy w' (some g)) :
    ECall P f [.row 0, .dat (.int .i64 i), .dat (.int .i64 ((i : Int) + 1))] [(0, .rows T k es true)] 1 (.row 1) [(0, .dead), (1, .rows T k (es.take i ++ es.drop (i + 1)) true)] 1 := by
  refine ⟨hcall, fun r A w vs hr hc hs hv => ?_⟩
  obtain ⟨v0, v1, v2, rfl⟩ : ∃ v0 v1 v2, vs = #[v0, v1, v2] := by
    match vs, hs with
    | ⟨[v0, v1, v2]⟩, _ => exact ⟨v0, v1, v2, rfl⟩
  have h0 : VRel r A v0 (.row 0) := hv 0 _ rfl
  have h1 : VRel r A v1 (.dat (.int .i64 i)) := hv 1 _ rfl
  have h2 : VRel r A v2 (.dat (.int .i64 ((i : Int) + 1))) := hv 2 _ rfl
  obtain rfl : v1 = .int .i64 i := by
    cases h1 with | dat hr => cases hr; rfl
  obtain rfl : v2 = .int .i64 ((i : Int) + 1) := by
    cases h2 with | dat hr => cases hr; rfl
  have e0 := hc.ent 0
  rw [get_one', if_pos rfl] at e0
  obtain ⟨k0, ⟨q1, q2⟩ | ⟨g, cap, cur, a1, a2, a3, a4, a5, a6, a7⟩⟩ := e0
  · subst q2; simp at hi
  cases h0 with
  | rowNil _ a ha hb => rw [hb] at a1; cases a1
  | row _ b n cap' hb =>
  rw [hb] at a1
  simp only [Option.some.injEq, Loc.mk.injEq] at a1
  obtain ⟨rfl, rfl, rfl⟩ := a1
  obtain ⟨m, hm⟩ : ∃ m, es.length = m + 1 := ⟨es.length - 1, by omega⟩
  have hlen : es.length * k ≤ cur.size := by rw [a3]; exact Nat.mul_le_mul_right _ a5
  let cs := cur.toList.take (es.length * k)
  have hcsl : cs.length = es.length * k := by simp [cs]; omega
  have hown : w.ownsRow 0 T k (.slice (some ⟨b, 0, none⟩) (m + 1) cap') (m + 1) cs := by
    rw [← hm]
    exact ⟨hcsl, .inr ⟨b, cap', cur, rfl, Nat.zero_le _, a2, a5, a4, a3, rfl⟩⟩
  have hcl := hdel b m cap' i cs w hown (by omega) (fun u hu => row_cells k0 hlen a6 u hu) (by omega)
  rw [← hm] at hcl
  refine hcl.mono fun e w' he => ?_
  obtain ⟨rfl, ho, hgr⟩ := he
  obtain ⟨hol, ⟨q1, _⟩ | ⟨g2, cap4, cur', q1, _, hg', hle', hcm', hsz', ht'⟩⟩ := ho
  · cases q1
  simp only [Value.slice.injEq, Option.some.injEq, Addr.mk.injEq, and_true, true_and] at q1
  obtain ⟨rfl, rfl⟩ := q1
  have hr1 : r 1 = none := hr 1 (Nat.le_refl _)
  have hsub := Rho.set_sub (l := ⟨some b, m, cap'⟩) hr1
  have hlb : LiveB r (Heap.get [(0, .rows T k es true)]) b := ⟨0, rfl, by simp [Rho.blk, hb]⟩
  have hfr : Fr w A w' A (fun x => x = b) := ⟨hgr.os, hgr.tape, hgr.output, hgr.size, fun y hy hny => hgr.block y hy (by simpa using hny), Sub.refl A, fun _ _ _ => rfl⟩
  have hnew : (es.take i ++ es.drop (i + 1)).length = m := by simp; omega
  refine ⟨_, r.set 1 ⟨some b, m, cap'⟩, A, .row 1, _, 2, rfl, ⟨rfl, rfl, rfl⟩, by decide, fun h hh => Rho.set_ne (by omega), fun h hh => (Rho.set_ne (by omega)).trans (hr h (by omega)), ⟨fun b3 o v hA => ?_, fun h => ?_, fun h h' b3 hl hl' _ _ => ?_⟩, .row 1 b _ cap' Rho.set_same, hfr.weaken fun y hy => by rw [hy]; exact hlb, fun b3 hb3 => ?_⟩
  · have hv3 := hc.view b3 o v hA
    have hny : b3 ≠ b := fun e => by rw [e, a7] at hA; cases hA
    rw [← hv3]
    exact World.cell?_of_block (w := w) (hfr.block b3 (cell_lt' hv3) hny)
  · rw [get_next]
    by_cases hh : h = 1
    · subst hh
      rw [if_pos rfl]
      refine ⟨fun e he => ?_, .inr ⟨b, cap', cur', by rw [Rho.set_same, hnew], hg', hsz', hcm', by rw [hnew]; exact hle', fun i' e he j d hd => ?_, a7⟩⟩
      · rcases List.mem_append.1 he with he | he
        · exact k0 e (List.mem_of_mem_take he)
        · exact k0 e (List.mem_of_mem_drop he)
      · have hi' : i' < m := by rw [← hnew]; exact (List.getElem?_eq_some_iff.1 he).1
        have hel : e.length = k := by
          rcases List.mem_append.1 (List.mem_of_getElem? he) with he | he
          · exact k0 e (List.mem_of_mem_take he)
          · exact k0 e (List.mem_of_mem_drop he)
        have hj : j < k := by rw [← hel]; exact (List.getElem?_eq_some_iff.1 hd).1
        have hpos : i' * k + j < m * k := by
          have h5 : (i' + 1) * k ≤ m * k := Nat.mul_le_mul_right _ hi'
          rw [Nat.add_mul, Nat.one_mul] at h5
          omega
        have hcell : cur'.getD (i' * k + j) undef = ((cs.take (i * k) ++ cs.drop (i * k + k))[i' * k + j]?).getD undef := by
          rw [← ht', List.getElem?_take, if_pos hpos, Array.getElem?_toList, Array.getD_eq_getD_getElem?]
        rw [hcell]
        have hti : (cs.take (i * k)).length = i * k := by
          rw [List.length_take, hcsl]
          exact Nat.min_eq_left (Nat.mul_le_mul_right _ (by omega))
        have csg : ∀ p, p < es.length * k → cs[p]? = cur[p]? := fun p hp => by
          simp only [cs]
          rw [List.getElem?_take, if_pos hp, Array.getElem?_toList]
        by_cases hlt : i' < i
        · rw [List.getElem?_append_left (by simp; omega)] at he
          rw [List.getElem?_take, if_pos hlt] at he
          have hp1 : i' * k + j < i * k := by
            have h5 : (i' + 1) * k ≤ i * k := Nat.mul_le_mul_right _ hlt
            rw [Nat.add_mul, Nat.one_mul] at h5
            omega
          rw [List.getElem?_append_left (by rw [hti]; exact hp1), List.getElem?_take, if_pos hp1, csg _ (Nat.lt_of_lt_of_le hp1 (Nat.mul_le_mul_right _ (by omega))), ← Array.getD_eq_getD_getElem?]
          exact a6 i' e he j d hd
        · rw [List.getElem?_append_right (by simp; omega)] at he
          have hsub1 : i + 1 + (i' - (es.take i).length) = i' + 1 := by simp; omega
          rw [List.getElem?_drop, hsub1] at he
          have hp2 : i * k ≤ i' * k + j := by
            have h5 : i * k ≤ i' * k := Nat.mul_le_mul_right _ (by omega)
            omega
          have hp3 : i * k + k + (i' * k + j - i * k) = (i' + 1) * k + j := by
            rw [Nat.add_mul, Nat.one_mul]
            omega
          have h9 : (i' + 1) * k + j < es.length * k := by
            rw [hm, Nat.add_mul m, Nat.add_mul, Nat.one_mul]
            omega
          rw [List.getElem?_append_right (by rw [hti]; exact hp2), hti, List.getElem?_drop, hp3, csg _ h9, ← Array.getD_eq_getD_getElem?]
          exact a6 (i' + 1) e he j d hd
    · rw [if_neg hh]; trivial
  · rw [get_next] at hl hl'
    by_cases hh : h = 1
    · by_cases hh' : h' = 1
      · rw [hh, hh']
      · rw [if_neg hh'] at hl'; cases hl'
    · rw [if_neg hh] at hl; cases hl
  · obtain ⟨h, hl, hbb⟩ := hb3
    rw [get_next] at hl
    by_cases hh : h = 1
    · subst hh
      obtain rfl : b = b3 := by simpa [Rho.blk, Rho.set_same] using hbb
      exact .inl hlb
    · rw [if_neg hh] at hl; cases hl
end Go.Proofs.Ytlioojekjnigiab.AM
/- What the walks lean on: worlds that only grow, blocks, rows, and regions whose order is left open. -/
namespace Go.Proofs.Ytlioojekjnigiab
open Go.RowKit

/-- The world has grown: all that was there is as it was. -/
def Grow (w w' : World) : Prop := Below w.heap.size w w'
theorem Grow.refl (w : World) : Grow w w := Below.refl _ _
theorem Grow.size {w w' : World} (h : Grow w w') : w.heap.size ≤ w'.heap.size := Below.size h
theorem Grow.trans {a b c : World} (h : Grow a b) (k : Grow b c) : Grow a c := Below.trans h (Below.mono k (Below.size h))
theorem Grow.drew {a b : World} (h : Grow a b) : Grow a b.drew := Below.drew h
theorem Grow.drewN {a b : World} (h : Grow a b) (n : Nat) : Grow a (b.drewN n) := Below.trans h ⟨rfl, rfl, rfl, Nat.le_refl _, fun _ _ => rfl⟩
theorem Grow.alloc {a b : World} (h : Grow a b) (o : Obj) : Grow a (b.alloc o) := Below.alloc h (Below.size h) o
theorem Grow.setCell {a b : World} (h : Grow a b) {p : Addr} (hp : a.heap.size ≤ p.block) (u : Value) : Grow a (b.setCell p u) := Below.setCell h hp u
theorem cell_lt {w : World} {a : Addr} {v : Value} (h : w.cell? a = some v) : a.block < w.heap.size := World.block_lt_of_cell? w a h
theorem cell_grow {w w' : World} {a : Addr} {v : Value} (hb : Grow w w') (h : w.cell? a = some v) : w'.cell? a = some v :=
  (Below.cell hb (p := a) (cell_lt h)).trans h
theorem frozen_grow {w w' : World} {a : Addr} {v : Value} (hb : Grow w w') (h : w.cell? a = some v) : w'.frozen? a = w.frozen? a :=
  Below.frozen hb (p := a) (cell_lt h)

theorem block_grown {w w1 : World} {row : Option Nat} {b : Nat} {o o' : Obj} (hg : (w.alloc o').grownBy w1 row) (hne : some b ≠ row) (h : w.heap[b]? = some o) : w1.heap[b]? = some o := by
  have hlt := lt_of_block h
  rw [hg.block b (by simp; omega) hne, Below.heap_alloc _ _ _ hlt, h]
theorem cell_grown {w w1 : World} {row : Option Nat} {a : Addr} {v : Value} {o' : Obj} (hg : (w.alloc o').grownBy w1 row) (hne : some a.block ≠ row) (h : w.cell? a = some v) : w1.cell? a = some v := by
  have hlt := cell_lt h
  have e : w1.heap[a.block]? = w.heap[a.block]? := by rw [hg.block a.block (by simp; omega) hne, Below.heap_alloc _ _ _ hlt]
  exact (World.cell?_of_block (w := w) e).trans h
theorem own_ne {w : World} {base : Nat} {e : TypeId} {size : Nat} {v : Value} {n : Nat} {xs : List Value} (h : w.ownsRow base e size v n xs) {b : Nat} (hb : b < base) : some b ≠ v.ownBlock := by
  intro he
  have := (h.lt b he.symm).1
  omega
theorem cell_of_block {w : World} {b o : Nat} {cs : Array Value} {t : TypeId} {v : Value} (h : w.heap[b]? = some (.cells cs t (0, 0))) (hv : cs[o]? = some v) : w.cell? ⟨b, o, none⟩ = some v := by simp [World.cell?, h, hv]
theorem free_of_block {w : World} {b : Nat} {cs : Array Value} {t : TypeId} (h : w.heap[b]? = some (.cells cs t (0, 0))) (o : Nat) : w.frozen? ⟨b, o, none⟩ = false := by simp [World.frozen?, h]
/-- What the reader panics with. -/
theorem block_set {w : World} {b o : Nat} {cs : Array Value} {t : TypeId} {v : Value} (h : w.heap[b]? = some (.cells cs t (0, 0))) : (w.setCell ⟨b, o, none⟩ v).heap[b]? = some (.cells (cs.setIfInBounds o v) t (0, 0)) := by
  have hlt := lt_of_block h
  have h' : w.heap[b] = .cells cs t (0, 0) := by simpa [Array.getElem?_eq_getElem hlt] using h
  show (w.heap.modify b _)[b]? = _
  rw [Array.getElem?_eq_getElem (by simpa using hlt), Array.getElem_modify_self, h']
  rfl
theorem block_far {w : World} {b : Nat} {o : Obj} {a : Addr} {v : Value} (hn : b ≠ a.block) (h : w.heap[b]? = some o) : (w.setCell a v).heap[b]? = some o := (Below.heap_setCell _ _ _ _ hn).trans h

theorem ownsRow_far {w : World} {base : Nat} {e : TypeId} {size : Nat} {v : Value} {n : Nat} {xs : List Value} (h : w.ownsRow base e size v n xs) {p : Addr} (hp : p.block < base) (u : Value) : (w.setCell p u).ownsRow base e size v n xs := by
  obtain ⟨h1, h2⟩ := h
  refine ⟨h1, ?_⟩
  rcases h2 with h2 | ⟨g, cap, cur, hv, hg, hh, r⟩
  · exact .inl h2
  · exact .inr ⟨g, cap, cur, hv, hg, block_far (by omega) hh, r⟩
theorem grow_grown {w w2 w3 : World} {o : Obj} {base : Nat} {e : TypeId} {size : Nat} {v : Value} {n : Nat} {xs : List Value} (h : Grow w w2) (hown : w2.ownsRow base e size v n xs) (hb : w.heap.size ≤ base) (hg : (w2.alloc o).grownBy w3 v.ownBlock) : Grow w w3 :=
  ⟨hg.os.trans h.os, hg.tape.trans h.tape, hg.output.trans h.output, by have := hg.size; have := h.size; simp at *; omega, fun k hk => by
    have := h.size
    rw [hg.block k (by simp; omega) (own_ne hown (by omega)), Below.heap_alloc _ _ _ (by omega)]
    exact h.block k hk⟩
section
variable {P : Program} {ops : Array Oper} {Q : Exit → Act → World → Prop} {md : Region.Mode}

theorem wpAnyH_weaken {S S' : World → Prop} (hS : ∀ w, S w → S' w) : ∀ (fuel : Nat) (listed : Array Bool) (a : Act) (w : World), wpAnyH P md ops Q S fuel listed a w → wpAnyH P md ops Q S' fuel listed a w
  | 0, _, _, _, h => h
  | fuel + 1, _, _, _, h => ⟨h.1, fun i hi => wpOp_mono (fun a' w' h' => ⟨hS _ h'.1, wpAnyH_weaken hS fuel _ a' w' h'.2⟩) (h.2 i hi)⟩

/-- The beginning: no way out by a panic is let. -/
theorem held_start {id : Nat} {a : Act} {w : World} (hm : P.follows .mixedOrders = true)
    (h : wpAnyH P .any ops (NoPanic Q) (Grow w.drew) ops.size (Array.replicate ops.size false) a w.drew) : (Code.region id ops true).wp P Q a w :=
  wp_region_noPanic (wp_region_held hm h)
/-- An operation that only looks is taken first. -/
theorem held_take {i : Nat} {oi : Oper} {v : Value} {fuel : Nat} {listed : Array Bool} {a : Act} {w : World} (hi : ops[i]? = some oi)
    (hs : Region.noSelect ops = true) (hf : Region.free md ops listed i = true) (hr : (Region.ready md ops listed).contains i = true)
    (hw : Region.wanted oi (yielded ops a.tmps) = true) (hy : ∀ w', Grow w w' → (execOp a.eval oi).run P w' = .ok (.value v) w')
    (h : wpAnyH P md ops (NoPanic Q) (Grow w) fuel (listed.setIfInBounds i true) (a.put oi.dst v) w) : wpAnyH P md ops (NoPanic Q) (Grow w) (fuel + 1) listed a w :=
  wpAnyH_take hi hs hf hr (fun _ _ _ h => h) (Or.inl ⟨hw, hy⟩) (Grow.refl w) h
/-- An operation that nobody wants. -/
theorem held_skip {i : Nat} {oi : Oper} {fuel : Nat} {listed : Array Bool} {a : Act} {w : World} (hi : ops[i]? = some oi)
    (hs : Region.noSelect ops = true) (hf : Region.free md ops listed i = true) (hr : (Region.ready md ops listed).contains i = true)
    (hw : Region.wanted oi (yielded ops a.tmps) = false)
    (h : wpAnyH P md ops (NoPanic Q) (Grow w) fuel (listed.setIfInBounds i true) (a.put oi.dst undef) w) : wpAnyH P md ops (NoPanic Q) (Grow w) (fuel + 1) listed a w :=
  wpAnyH_take hi hs hf hr (fun _ _ _ h => h) (Or.inr ⟨hw, rfl⟩) (Grow.refl w) h
/-- An operation that comes up alone, and lets the world grow. -/
theorem held_call {i : Nat} {oi : Oper} {fuel : Nat} {listed : Array Bool} {a : Act} {w : World} (hi : ops[i]? = some oi) (hr : Region.ready md ops listed = [i])
    (hw : Region.wanted oi (yielded ops a.tmps) = true)
    (h : ∀ K : Act → World → Prop, (∀ a' w', Grow w w' → wpAnyH P md ops (NoPanic Q) (Grow w') fuel (listed.setIfInBounds i true) a' w' → K a' w') → oi.wp P a w K (NoPanic Q)) : wpAnyH P md ops (NoPanic Q) (Grow w) (fuel + 1) listed a w := by
  refine wpAnyH_all hr (by simp) fun j hj => ?_
  obtain rfl : j = i := by simpa using hj
  unfold wpOp
  simp only [hi, hw, if_true]
  exact .inl (h _ fun a' w' hg h' => ⟨hg, wpAnyH_weaken (fun x hx => hg.trans hx) _ _ _ _ h'⟩)
theorem held_done {listed : Array Bool} {a : Act} {w : World} (hr : Region.ready md ops listed = []) (h : Q .normal a w) (fuel : Nat) : wpAnyH P md ops (NoPanic Q) (Grow w) fuel listed a w :=
  wpAnyH_done hr (NoPanic.normal h) fuel
end

section
variable {P : Program}
/-- What comes to an end leaves the world as it was, and comes to the same end in every world that has grown from it. -/
def Steady (P : Program) {α : Type} (s : Sem α) : Prop := ∀ (w : World) (x : α) (w1 : World), s.run P w = .ok x w1 → w1 = w ∧ ∀ w', Grow w w' → s.run P w' = .ok x w'
/-- It comes to no end. -/
def Dead (P : Program) {α : Type} (s : Sem α) : Prop := ∀ (w : World) (x : α) (w1 : World), s.run P w ≠ .ok x w1

theorem Steady.pure {α : Type} (x : α) : Steady P (Pure.pure x : Sem α) := fun w y w1 h => by
  have h' : Result.ok x w = Result.ok y w1 := h
  cases h'
  exact ⟨rfl, fun w' _ => rfl⟩
theorem Steady.bind {α β : Type} {s : Sem α} {f : α → Sem β} (hs : Steady P s) (hf : ∀ x, Steady P (f x)) : Steady P (s >>= f) := fun w y w1 h => by
  rw [Sem.run_bind] at h
  cases hr : s.run P w with
  | halt e w2 => rw [hr] at h; cases h
  | ok x w2 =>
    obtain ⟨rfl, hs'⟩ := hs w x w2 hr
    rw [hr] at h
    obtain ⟨rfl, hf'⟩ := hf x w2 y w1 h
    exact ⟨rfl, fun w' hg => by rw [Sem.run_bind, hs' w' hg]; exact hf' w' hg⟩
theorem Dead.steady {α : Type} {s : Sem α} (h : Dead P s) : Steady P s := fun w x w1 e => absurd e (h w x w1)
theorem Dead.halt {α : Type} (h : Halt) : Dead P (Sem.halt h : Sem α) := fun _ _ _ e => by cases e
theorem Dead.bind {α β : Type} {s : Sem α} {f : α → Sem β} (hf : ∀ x, Dead P (f x)) : Dead P (s >>= f) := fun w y w1 h => by
  rw [Sem.run_bind] at h
  cases hr : s.run P w with
  | halt e w2 => rw [hr] at h; cases h
  | ok x w2 => rw [hr] at h; exact hf x w2 y w1 h
theorem Steady.stuck {α : Type} (s : String) : Steady P (stuck s : Sem α) := (Dead.halt _).steady
theorem Steady.unsupported {α : Type} (s : Unsupported) : Steady P (unsupported s : Sem α) := (Dead.halt _).steady
theorem Steady.program : Steady P program := fun w x w1 h => by
  have h' : Result.ok P w = Result.ok x w1 := h
  cases h'
  exact ⟨rfl, fun w' _ => rfl⟩
theorem Dead.bounds {α : Type} (k : IntKind) (x y : Int) (c : BoundsCode) : Dead P (boundsPanic k x y c : Sem α) :=
  by
  unfold boundsPanic
  simp only
  split
  · exact Dead.bind fun _ => Dead.bind fun _ => Dead.halt _
  · exact Dead.bind fun _ => Dead.bind fun _ => Dead.halt _
theorem grow_block {w w' : World} {b : Nat} {o : Obj} (hg : Grow w w') (h : w.heap[b]? = some o) : w'.heap[b]? = some o := (Below.block hg b (lt_of_block h)).trans h

theorem seen_none {w : World} {at_ : Addr} {u : TypeId} {k : Addr} {b : Bool} (h : w.heap[at_.block]? = none) : ∃ e, w.seen P at_ u k b = .error e := by
  unfold World.seen
  by_cases h0 : (k.spot.isSome || at_.spot.isSome) = true
  · rw [if_pos h0]; exact ⟨_, rfl⟩
  · rw [if_neg h0]
    cases h1 : plainCell P P.depth u k.off with
    | none => exact ⟨_, rfl⟩
    | some like =>
      simp only
      cases h2 : like.bytes?.map (·.length) with
      | none => exact ⟨_, rfl⟩
      | some size =>
        simp only
        cases h3 : byteOfCell P P.depth u k.off with
        | none => exact ⟨_, rfl⟩
        | some β => simp only [h]; exact ⟨_, rfl⟩
theorem viewLoad_same {w w' : World} {at_ : Addr} {u : TypeId} {k : Addr} {b : Bool} {r : Value × List Addr} (hg : Grow w w') (h : w.viewLoad P at_ u k b = .ok r) : w'.viewLoad P at_ u k b = .ok r := by
  cases hb : w.heap[at_.block]? with
  | some o =>
    have e := grow_block hg hb
    rw [← h]
    unfold World.viewLoad World.seen
    rw [hb, e]
  | none =>
    obtain ⟨e, he⟩ := seen_none (P := P) (u := u) (k := k) (b := b) hb
    unfold World.viewLoad at h
    rw [he] at h
    cases h
theorem Steady.load (m : Mode) (a : Addr) : Steady P (Sem.load m a Sem.pure) := fun w x w1 h => by
  unfold Sem.run at h
  cases hc : w.cell? a with
  | some v =>
    rw [hc] at h
    have h' : Result.ok v w = Result.ok x w1 := h
    cases h'
    exact ⟨rfl, fun w' hg => by unfold Sem.run; rw [cell_grow hg hc]; rfl⟩
  | none =>
    rw [hc] at h
    simp only at h
    cases hf : w.farLoad P a (m == .atomic) with
    | error e => rw [hf] at h; cases h
    | ok r =>
      rw [hf] at h
      have h' : Result.ok r.1 w = Result.ok x w1 := h
      cases h'
      refine ⟨rfl, fun w' hg => ?_⟩
      unfold World.farLoad at hf
      cases hb : w.heap[a.block]? with
      | none => rw [hb] at hf; cases hf
      | some o =>
        have e := grow_block hg hb
        have ec : w'.cell? a = none := by rw [← hc]; exact World.cell?_of_block (w := w) (e.trans hb.symm)
        unfold Sem.run
        rw [ec]
        simp only
        rw [hb] at hf
        unfold World.farLoad
        rw [e]
        cases o with
        | view at_ u =>
          simp only at hf ⊢
          cases hv : w.viewLoad P at_ u a (m == .atomic) with
          | error s => rw [hv] at hf; cases hf
          | ok r' =>
            rw [hv] at hf
            cases hf
            rw [viewLoad_same hg hv]
            rfl
        | _ => cases hf

theorem Steady.getObj (r : Nat) : Steady P (getObj r) := fun w x w1 h => by
  unfold Go.getObj Sem.run at h
  cases hb : w.heap[r]? with
  | none => rw [hb] at h; cases h
  | some o =>
    rw [hb] at h
    cases o with
    | cells c t f => cases h
    | _ =>
      cases h
      exact ⟨rfl, fun w' hg => by unfold Go.getObj Sem.run; rw [grow_block hg hb]; rfl⟩

theorem Steady.underlying (t : TypeId) : Steady P (underlying t) := by
  refine Steady.bind Steady.program fun p => ?_
  split
  · exact Steady.pure _
  · exact Steady.stuck _
theorem Steady.typeInfo (t : TypeId) : Steady P (typeInfo t) := by
  refine Steady.bind Steady.program fun p => ?_
  split
  · exact Steady.pure _
  · exact Steady.stuck _
theorem Steady.sizeOf (t : TypeId) : Steady P (sizeOf t) := Steady.bind (Steady.typeInfo t) fun _ => Steady.pure _
theorem Steady.isAgg (t : TypeId) : Steady P (isAgg t) := by
  refine Steady.bind (Steady.underlying t) fun d => ?_
  split <;> exact Steady.pure _
theorem Steady.loadCellsFrom (a : Addr) : ∀ (n i : Nat) (acc : Array Value), Steady P (loadCellsFrom a i n acc)
  | 0, _, _ => Steady.pure _
  | n + 1, i, acc => Steady.bind (Steady.load _ _) fun v => Steady.loadCellsFrom a n (i + 1) (acc.push v)
theorem Steady.loadVar (t : TypeId) (a : Addr) : Steady P (loadVar t a) := by
  refine Steady.bind (Steady.isAgg t) fun b => ?_
  split
  · exact Steady.bind (Steady.sizeOf t) fun n => Steady.bind (Steady.loadCellsFrom a n 0 #[]) fun _ => Steady.pure _
  · exact Steady.load _ _
theorem Steady.sureAddr (v : Value) : Steady P (Instr.sureAddr v) := by
  unfold Instr.sureAddr
  split
  · exact Steady.pure _
  · exact Steady.stuck _
theorem Steady.loadAt (t : TypeId) (v : Value) : Steady P (Instr.loadAt t v) := Steady.bind (Steady.sureAddr v) fun a => Steady.loadVar t a
theorem Steady.extract (v : Value) (n : Nat) : Steady P (Instr.extract v n) := by
  unfold Instr.extract
  split
  · split
    · exact Steady.pure _
    · exact Steady.stuck _
  · exact Steady.stuck _
theorem Steady.asBool (v : Value) : Steady P (asBool v) := by
  unfold Go.asBool
  split
  · exact Steady.pure _
  · exact Steady.stuck _
theorem Steady.asIntOf (v : Value) : Steady P (asIntOf v) := by
  unfold Go.asIntOf
  split
  · exact Steady.pure _
  · exact Steady.unsupported _
  · exact Steady.stuck _
theorem Steady.indexAt (t : TypeId) (x i : Value) : Steady P (Instr.indexAt t x i) := by
  unfold Instr.indexAt
  refine Steady.bind (Steady.asIntOf _) fun ki => ?_
  refine Steady.bind (Steady.underlying _) fun d => ?_
  simp only
  split
  all_goals first
    | refine Steady.bind (Steady.sureAddr _) fun _ => Steady.bind (Steady.pure _) fun y => ?_
    | refine Steady.bind (Steady.pure _) fun y => ?_
    | refine Steady.bind (Steady.stuck _) fun y => ?_
  all_goals
    obtain ⟨base, len, elem⟩ := y
    refine Steady.bind (Steady.underlying _) fun d => ?_
    simp only
    repeat' split
    all_goals first
      | exact Steady.bind (Steady.sizeOf _) fun _ => Steady.pure _
      | exact Steady.unsupported _
      | exact (Dead.bounds _ _ _ _).steady
theorem Steady.len (ts : Array TypeId) (t : TypeId) (args : Array Value) : Steady P (Builtin.len_ ts t args) := by
  unfold Builtin.len_
  split
  · refine Steady.bind (Steady.underlying _) fun d => ?_
    split
    · exact Steady.pure _
    · exact Steady.pure _
    · refine Steady.bind (Steady.underlying _) fun d => ?_
      split
      · exact Steady.pure _
      · exact Steady.stuck _
    · exact Steady.pure _
    · exact Steady.pure _
    · exact Steady.pure _
    · refine Steady.bind (Steady.getObj _) fun o => ?_
      split
      · exact Steady.pure _
      · exact Steady.stuck _
    · refine Steady.bind (Steady.getObj _) fun o => ?_
      split
      · exact Steady.pure _
      · exact Steady.stuck _
    · exact Steady.stuck _
  · exact Steady.stuck _

/-- A field that has cells. -/
def fieldOk (P : Program) (s : TypeId) (i : Nat) : Bool :=
  match P.underlying s with
  | some (.struct fs) => match fs[i]? with
    | some f => match P.info? f.type with
      | some t => t.size != 0
      | none => true
    | none => true
  | _ => true
theorem Steady.bind' {α β : Type} {s : Sem α} {f : α → Sem β} (hs : Steady P s) (hf : ∀ w x, s.run P w = .ok x w → Steady P (f x)) : Steady P (s >>= f) := fun w y w1 h => by
  rw [Sem.run_bind] at h
  cases hr : s.run P w with
  | halt e w2 => rw [hr] at h; cases h
  | ok x w2 =>
    obtain ⟨rfl, hs'⟩ := hs w x w2 hr
    rw [hr] at h
    obtain ⟨rfl, hf'⟩ := hf w2 x hr w2 y w1 h
    exact ⟨rfl, fun w' hg => by rw [Sem.run_bind, hs' w' hg]; exact hf' w' hg⟩
theorem underlying_of {w : World} {t : TypeId} {d : TypeDesc} (h : (underlying t).run P w = .ok d w) : P.underlying t = some d := by
  cases hu : P.underlying t with
  | none => simp [Go.underlying, hu] at h
  | some e => simp [Go.underlying, hu] at h; rw [h]
theorem sizeOf_of {w : World} {t : TypeId} {n : Nat} (h : (sizeOf t).run P w = .ok n w) : ∃ i, P.info? t = some i ∧ i.size = n := by
  cases hu : P.info? t with
  | none => simp [Go.sizeOf, Go.typeInfo, hu] at h
  | some e => simp [Go.sizeOf, Go.typeInfo, hu] at h; exact ⟨e, rfl, h⟩
theorem Steady.fieldAt (s : TypeId) (x : Value) (i : Nat) (h : fieldOk P s i = true) : Steady P (Instr.fieldAt s x i) := by
  unfold Instr.fieldAt
  refine Steady.bind' (Steady.underlying s) fun w d hd => ?_
  have hu := underlying_of hd
  unfold fieldOk at h
  rw [hu] at h
  split
  · simp only at h
    split
    · rename_i f hf
      rw [hf] at h
      simp only at h
      refine Steady.bind (Steady.sureAddr _) fun a => Steady.bind ?_ fun _ => Steady.pure _
      refine Steady.bind' (Steady.sizeOf _) fun w n hn => ?_
      obtain ⟨t, ht, rfl⟩ := sizeOf_of hn
      rw [ht] at h
      rw [if_neg (by simpa using h)]
      exact Steady.pure _
    · exact Steady.stuck _
  · exact Steady.stuck _

/-- An operation that only looks. -/
def isReader (P : Program) (o : Oper) : Bool :=
  match o.op with
  | .move _ | .assign _ | .pick .. | .load .. | .indexAddr .. | .extract .. => true
  | .fieldAddr s _ i => fieldOk P s i
  | .unOp .not _ _ => true
  | .call c => match c.callee with
    | .builtin .len => true
    | _ => false
  | _ => false
/-- What it comes to is a value, the same in every world that has grown. -/
def Looks (P : Program) (s : Sem Next) : Prop := ∀ (w : World) (x : Next) (w1 : World), s.run P w = .ok x w1 → ∃ v, x = .value v ∧ w1 = w ∧ ∀ w', Grow w w' → s.run P w' = .ok (.value v) w'
theorem Looks.by {α : Type} {s : Sem α} (h : Steady P s) (g : α → Value) : Looks P (do Pure.pure (Next.value (g (← s)))) := fun w x w1 hr => by
  rw [Sem.run_bind] at hr
  cases hs : s.run P w with
  | halt e w2 => rw [hs] at hr; cases hr
  | ok v w2 =>
    obtain ⟨rfl, hs'⟩ := h w v w2 hs
    rw [hs] at hr
    have e : Result.ok (Next.value (g v)) w2 = Result.ok x w1 := hr
    cases e
    exact ⟨g v, rfl, rfl, fun w' hg => by rw [Sem.run_bind, hs' w' hg]; rfl⟩
theorem Looks.of {s : Sem Value} (h : Steady P s) : Looks P (do Pure.pure (Next.value (← s))) := Looks.by h fun v => v
theorem Looks.pure (v : Value) : Looks P (Pure.pure (Next.value v)) := fun w x w1 hr => by
  have e : Result.ok (Next.value v) w = Result.ok x w1 := hr
  cases e
  exact ⟨v, rfl, rfl, fun w' _ => rfl⟩
theorem isReader_looks {o : Oper} (h : isReader P o = true) (ρ : Operand → Value) : Looks P (execOp ρ o) := by
  obtain ⟨dst, op, type, pos, after, guard⟩ := o
  cases op
  case move x => exact Looks.pure _
  case assign x => exact Looks.pure _
  case pick c a b => exact Looks.by (Steady.asBool (ρ c)) fun t => if t then ρ a else ρ b
  case load t a => exact Looks.of (Steady.loadAt _ _)
  case indexAddr t x i => exact Looks.of (Steady.indexAt _ _ _)
  case extract t i => exact Looks.of (Steady.extract _ _)
  case fieldAddr s x i => exact Looks.of (Steady.fieldAt _ _ _ h)
  case unOp u t x =>
    cases u with
    | not =>
      refine Looks.of ?_
      unfold Op.unary
      split
      all_goals first
        | exact Steady.pure _
        | exact Steady.unsupported _
        | exact Steady.stuck _
        | (rename_i hh; cases hh)
    | _ => cases h
  case call c =>
    obtain ⟨callee, args, argTypes⟩ := c
    cases callee with
    | builtin b =>
      cases b with
      | len => exact Looks.of (Steady.len _ _ _)
      | _ => cases h
    | _ => cases h
  all_goals cases h

variable {ops : Array Oper} {Q : Exit → Act → World → Prop}

/-- In which order a region is walked: which operation, and whether it comes up alone. -/
def planOk (P : Program) (md : Region.Mode) (ops : Array Oper) : List (Nat × Bool) → Array Bool → Bool
  | [], listed => (Region.ready md ops listed).isEmpty
  | (i, true) :: rest, listed => (Region.ready md ops listed == [i]) && planOk P md ops rest (listed.setIfInBounds i true)
  | (i, false) :: rest, listed => ((ops[i]?).map (isReader P)).getD false && Region.free md ops listed i && (Region.ready md ops listed).contains i && planOk P md ops rest (listed.setIfInBounds i true)
/-- The walk by a plan (w0: the world in which its part began). -/
def wpPlan (P : Program) (ops : Array Oper) (Q : Exit → Act → World → Prop) : List (Nat × Bool) → World → Act → World → Prop
  | [], _, a, w => Q .normal a w
  | (i, true) :: rest, w0, a, w => wpOp P ops Q i (fun a' w' => Grow w0 w' ∧ wpPlan P ops Q rest w' a' w') a w
  | (i, false) :: rest, w0, a, w => wpOp P ops Q i (wpPlan P ops Q rest w0) a w
theorem held_plan (hs : Region.noSelect ops = true) (hp : ∀ c a w, ¬ Q (.panic c) a w) (ho : ¬ LetsOut Q) {md : Region.Mode} : ∀ (plan : List (Nat × Bool)) (listed : Array Bool) (a : Act) (w : World),
    planOk P md ops plan listed = true → wpPlan P ops Q plan w a w → wpAnyH P md ops Q (Grow w) plan.length listed a w
  | [], listed, a, w, hk, h => wpAnyH_done (by simpa [planOk] using hk) h _
  | (i, true) :: rest, listed, a, w, hk, h => by
    simp only [planOk, Bool.and_eq_true, beq_iff_eq] at hk
    refine wpAnyH_all hk.1 (by simp) fun j hj => ?_
    obtain rfl : j = i := by simpa using hj
    exact wpOp_mono (fun a' w' h' => ⟨h'.1, wpAnyH_weaken (fun x hx => h'.1.trans hx) _ _ _ _ (held_plan hs hp ho rest _ a' w' hk.2 h'.2)⟩) h
  | (i, false) :: rest, listed, a, w, hk, h => by
    simp only [planOk, Bool.and_eq_true] at hk
    obtain ⟨⟨⟨h1, h2⟩, h3⟩, h4⟩ := hk
    cases hi : ops[i]? with
    | none => rw [hi] at h1; cases h1
    | some o =>
      rw [hi] at h1
      simp only [Option.map_some, Option.getD_some] at h1
      simp only [wpPlan, wpOp, hi] at h
      have hQ : ∀ v c a w, Q (.panic c) (a.put o.dst v) w → Q (.panic c) a w := fun v c a w h => (hp _ _ _ h).elim
      split at h
      · rename_i hw
        rcases h with h | ⟨_, hl⟩
        · unfold Oper.wp at h
          have hlook := isReader_looks h1 a.eval w
          cases hr : (execOp a.eval o).run P w with
          | halt e w1 =>
            rw [hr] at h
            cases e <;> first | exact h.elim | exact (hp _ _ _ h).elim
          | ok x w1 =>
            obtain ⟨v, rfl, rfl, hv⟩ := hlook x w1 hr
            rw [hr] at h
            exact wpAnyH_take hi hs h2 h3 (hQ v) (Or.inl ⟨hw, hv⟩) (Grow.refl _) (held_plan hs hp ho rest _ _ _ h4 h)
        · exact (ho hl).elim
      · rename_i hw
        exact wpAnyH_take hi hs h2 h3 (hQ undef) (Or.inr ⟨by simpa using hw, rfl⟩) (Grow.refl _) (held_plan hs hp ho rest _ _ _ h4 h)

/-- Q, but no way out by a panic, or by want of room. -/
def Sure (Q : Exit → Act → World → Prop) : Exit → Act → World → Prop
  | .panic _, _, _ => False
  | .outgrown, _, _ => False
  | e, a, w => Q e a w
theorem Sure.imp : ∀ (e : Exit) (a : Act) (w : World), Sure Q e a w → Q e a w := fun e a w h => by
  cases e <;> first | exact h | exact (h : False).elim
def consHead (o : Oper) : List (List Oper) → List (List Oper)
  | [] => [[o]]
  | s :: t => (o :: s) :: t
/-- The operations of a plan, cut behind each one that comes up alone. -/
def segs (ops : Array Oper) : List (Nat × Bool) → List (List Oper)
  | [] => [[]]
  | (i, b) :: rest =>
    match ops[i]? with
    | none => if b then [] :: segs ops rest else segs ops rest
    | some o => if b then [o] :: segs ops rest else consHead o (segs ops rest)
/-- The walk, part by part. -/
def wpSegs (P : Program) (ops : Array Oper) (Q : Exit → Act → World → Prop) : List (List Oper) → Act → World → Prop
  | [], a, w => Q .normal a w
  | seg :: rest, a, w => wpList P ops (Exit.then (fun a' w' => Grow w w' ∧ wpSegs P ops Q rest a' w') Q) seg a w
theorem wp_then {o : Oper} {a : Act} {w : World} {X K : Act → World → Prop} (h : o.wp P a w X (Exit.then K Q)) : o.wp P a w X Q := by
  unfold Oper.wp at *
  generalize (execOp a.eval o).run P w = r at *
  cases r with
  | ok n w' =>
    cases n <;> simp only [Oper.upon] at h ⊢ <;>
      first
        | exact h
        | exact Calls.mono h (fun e w'' he => by cases e <;> exact he)
  | halt x w' => cases x <;> exact h
theorem segs_ne : ∀ (plan : List (Nat × Bool)), ∃ s t, segs ops plan = s :: t
  | [] => ⟨[], [], rfl⟩
  | (i, b) :: rest => by
    obtain ⟨s, t, h⟩ := segs_ne rest
    unfold segs
    split
    · split
      · exact ⟨_, _, rfl⟩
      · exact ⟨s, t, h⟩
    · split
      · exact ⟨_, _, rfl⟩
      · rw [h]; exact ⟨_, _, rfl⟩
theorem plan_segs : ∀ (plan : List (Nat × Bool)) (w0 : World) (a : Act) (w : World) (s : List Oper) (t : List (List Oper)), segs ops plan = s :: t →
    wpList P ops (Exit.then (fun a' w' => Grow w0 w' ∧ wpSegs P ops Q t a' w') Q) s a w → wpPlan P ops Q plan w0 a w
  | [], w0, a, w, s, t, hs, h => by
    cases hs
    exact h.2
  | (i, b) :: rest, w0, a, w, s, t, hs, h => by
    obtain ⟨s', t', hr⟩ := segs_ne (ops := ops) rest
    unfold segs at hs
    cases hi : ops[i]? with
    | none =>
      rw [hi] at hs
      cases b with
      | true =>
        simp only [if_true] at hs
        cases hs
        simp only [wpPlan, wpOp, hi]
        refine ⟨h.1, ?_⟩
        have h2 := h.2
        rw [hr] at h2
        exact plan_segs rest w a w s' t' hr h2
      | false =>
        simp only [Bool.false_eq_true, if_false] at hs
        simp only [wpPlan, wpOp, hi]
        exact plan_segs rest w0 a w s t hs h
    | some o =>
      rw [hi] at hs
      cases b with
      | true =>
        simp only [if_true] at hs
        cases hs
        simp only [wpPlan, wpOp, hi]
        simp only [wpList] at h
        split at h
        · rename_i hw
          rw [if_pos hw]
          refine h.imp (fun h => wp_then (Oper.wp_mono (fun a' w' h' => ⟨h'.1, ?_⟩) h)) id
          have h2 := h'.2
          rw [hr] at h2
          exact plan_segs rest w' a' w' s' t' hr h2
        · rename_i hw
          rw [if_neg hw]
          refine ⟨h.1, ?_⟩
          have h2 := h.2
          rw [hr] at h2
          exact plan_segs rest w _ w s' t' hr h2
      | false =>
        simp only [Bool.false_eq_true, if_false] at hs
        rw [hr] at hs
        cases hs
        simp only [wpPlan, wpOp, hi]
        simp only [wpList] at h
        split at h
        · rename_i hw
          rw [if_pos hw]
          exact h.imp (fun h => wp_then (Oper.wp_mono (fun a' w' h' => plan_segs rest w0 a' w' s' _ hr h') h)) id
        · rename_i hw
          rw [if_neg hw]
          exact plan_segs rest w0 _ w s' _ hr h

/-- A region that leaves its order open, walked once, by a plan. -/
theorem wp_region_plan {id : Nat} {a : Act} {w : World} (plan : List (Nat × Bool)) (hm : P.follows .mixedOrders = true) (hs : Region.noSelect ops = true) (hl : plan.length = ops.size)
    (hk : planOk P .any ops plan (Array.replicate ops.size false) = true) (h : wpSegs P ops (Sure Q) (segs ops plan) a w.drew) : (Code.region id ops true).wp P Q a w := by
  refine Code.wp_mono Sure.imp (wp_region_held (S := Grow w.drew) hm ?_)
  rw [← hl]
  obtain ⟨s, t, e⟩ := segs_ne (ops := ops) plan
  rw [e] at h
  refine held_plan hs (fun _ _ _ h => h) (fun ⟨_, _, h⟩ => h) plan _ a w.drew ?_ (plan_segs plan _ a _ s t e h)
  rw [hl]
  exact hk
/-- One part of the walk. -/
theorem segs_step {seg : List Oper} {rest : List (List Oper)} {a : Act} {w : World}
    (h : ∀ K : Act → World → Prop, Hid (∀ a' w', Grow w w' → wpSegs P ops Q rest a' w' → K a' w') → wpList P ops (Exit.then K Q) seg a w) : wpSegs P ops Q (seg :: rest) a w :=
  h _ fun _ _ hg h' => ⟨hg, h'⟩
theorem segs_done {a : Act} {w : World} (h : Q .normal a w) : wpSegs P ops (Sure Q) [] a w := h
end

section
variable {P : Program} {ops : Array Oper} {Q : Exit → Act → World → Prop}

theorem looks_run {s : Sem Next} {v : Value} (h : ∀ w, s.run P w = .ok (.value v) w) : Looks P s := fun w x w1 hr => by
  rw [h w] at hr
  cases hr
  exact ⟨v, rfl, rfl, fun w' _ => h w'⟩

/-- Whatever order is picked, S holds behind every operation, till number c has come up. -/
def wpAnyC (P : Program) (md : Region.Mode) (ops : Array Oper) (Q : Exit → Act → World → Prop) (S : World → Prop) (c : Nat) : Nat → Array Bool → Act → World → Prop
  | 0, listed, a, w => Region.ready md ops listed = [] ∧ Q .normal a w
  | fuel + 1, listed, a, w => (Region.ready md ops listed = [] → Q .normal a w) ∧
      ∀ i ∈ Region.ready md ops listed, wpOp P ops Q i (fun a' w' => (i = c ∧ wpAny P md ops Q fuel (listed.setIfInBounds i true) a' w') ∨ (i ≠ c ∧ S w' ∧ wpAnyC P md ops Q S c fuel (listed.setIfInBounds i true) a' w')) a w
theorem wpAny_of_C {md : Region.Mode} {S : World → Prop} {c : Nat} : ∀ (fuel : Nat) (listed : Array Bool) (a : Act) (w : World), wpAnyC P md ops Q S c fuel listed a w → wpAny P md ops Q fuel listed a w
  | 0, _, _, _, h => h
  | fuel + 1, _, _, _, h => ⟨h.1, fun i hi => wpOp_mono (fun a' w' h' => h'.elim (fun h => h.2) (fun h => wpAny_of_C fuel _ a' w' h.2.2)) (h.2 i hi)⟩
theorem wpAnyC_weaken {md : Region.Mode} {S S' : World → Prop} {c : Nat} (hS : ∀ w, S w → S' w) : ∀ (fuel : Nat) (listed : Array Bool) (a : Act) (w : World), wpAnyC P md ops Q S c fuel listed a w → wpAnyC P md ops Q S' c fuel listed a w
  | 0, _, _, _, h => h
  | fuel + 1, _, _, _, h => ⟨h.1, fun i hi => wpOp_mono (fun a' w' h' => h'.imp id (fun h => ⟨h.1, hS _ h.2.1, wpAnyC_weaken hS fuel _ a' w' h.2.2⟩)) (h.2 i hi)⟩
theorem wpAnyC_done {md : Region.Mode} {S : World → Prop} {c : Nat} {listed : Array Bool} {a : Act} {w : World} (hr : Region.ready md ops listed = []) (h : Q .normal a w) : ∀ fuel, wpAnyC P md ops Q S c fuel listed a w
  | 0 => ⟨hr, h⟩
  | _ + 1 => ⟨fun _ => h, by rw [hr]; simp⟩

/-- All of W wait for number i. -/
def Blocks (md : Region.Mode) (ops : Array Oper) (i : Nat) (W : List Nat) : Prop := ∀ x ∈ W, ∃ o, ops[x]? = some o ∧ ∃ e ∈ o.after, Region.binds md e = true ∧ (e.on = i ∨ e.on ∈ W)
def waiters (md : Region.Mode) (ops : Array Oper) (i : Nat) : List Nat → List Nat
  | [] => []
  | j :: js => if ((ops[j]?).map fun o => o.after.any fun e => Region.binds md e && (e.on == i || (waiters md ops i js).contains e.on)).getD false then j :: waiters md ops i js else waiters md ops i js
theorem waiters_blocks (md : Region.Mode) (ops : Array Oper) (i : Nat) : ∀ js, Blocks md ops i (waiters md ops i js)
  | [] => fun x hx => by cases hx
  | j :: js => by
    have ih := waiters_blocks md ops i js
    unfold waiters
    split
    · rename_i h
      intro x hx
      rcases List.mem_cons.1 hx with rfl | hx
      · cases ho : ops[x]? with
        | none => rw [ho] at h; cases h
        | some o =>
          rw [ho] at h
          simp only [Option.map_some, Option.getD_some, Array.any_eq_true'] at h
          obtain ⟨e, he, h⟩ := h
          simp only [Bool.and_eq_true, Bool.or_eq_true, beq_iff_eq, List.contains_iff_mem] at h
          exact ⟨o, rfl, e, he, h.1, h.2.imp id fun h => List.mem_cons_of_mem _ h⟩
      · obtain ⟨o, ho, e, he, hb, h⟩ := ih x hx
        exact ⟨o, ho, e, he, hb, h.imp id fun h => List.mem_cons_of_mem _ h⟩
    · exact ih
/-- Number c can't come up while i has not. -/
def barred (md : Region.Mode) (ops : Array Oper) (listed : Array Bool) (i c : Nat) : Bool :=
  decide (ops.size ≤ c) || ((waiters md ops i (List.range ops.size).reverse).contains c && (waiters md ops i (List.range ops.size).reverse).all fun x => listed.getD x true == false)
theorem not_ready {md : Region.Mode} {i : Nat} {W : List Nat} {listed : Array Bool} (hb : Blocks md ops i W) (hi : listed.getD i true = false) (hW : ∀ x ∈ W, listed.getD x true = false) {x : Nat} (hx : x ∈ W) : x ∉ Region.ready md ops listed := by
  intro hr
  obtain ⟨_, o, ho, hall⟩ := mem_ready.1 hr
  obtain ⟨o', ho', e, he, hbi, h⟩ := hb x hx
  rw [ho] at ho'
  cases ho'
  have h1 := hall e he hbi
  have h0 : listed.getD e.on true = false := by
    rcases h with h | h
    · rw [h]; exact hi
    · exact hW _ h
  rcases Nat.lt_or_ge e.on listed.size with h' | h'
  · simp [h'] at h0 h1; rw [h0] at h1; cases h1
  · simp [Array.getElem?_eq_none h'] at h1
theorem wpAnyC_first {md : Region.Mode} {S : World → Prop} {c i : Nat} {oi : Oper} {v : Value} {W : List Nat} (hi : ops[i]? = some oi) (hsel : ∀ (j : Nat) (o : Oper) cs b, ops[j]? = some o → o.op ≠ .select cs b)
    (hQ : ∀ c a w, Q (.panic c) (a.put oi.dst v) w → Q (.panic c) a w) (hb : Blocks md ops i W) (hic : i ≠ c) (hc : ops.size ≤ c ∨ c ∈ W) :
    ∀ (fuel : Nat) (listed : Array Bool) (a : Act) (w : World),
      (∀ j oj, ops[j]? = some oj → j ≠ i → listed.getD j true = false → (∀ e ∈ oj.after, Region.binds md e = true → e.on ≠ i) → oi.apart ops oj = true) → (∀ x ∈ W, listed.getD x true = false) →
      i ∈ Region.ready md ops listed → YieldsIf P ops S oi v a → S w →
      wpAnyC P md ops Q S c fuel (listed.setIfInBounds i true) (a.put oi.dst v) w → wpAnyC P md ops Q S c (fuel + 1) listed a w := by
  intro fuel
  induction fuel with
  | zero =>
    intro listed a w _ _ hr hy hS H
    refine ⟨fun h => (by rw [h] at hr; cases hr), fun j hj => ?_⟩
    by_cases hji : j = i
    · subst hji; exact hy.wpOp hi hS (.inr ⟨hic, hS, H⟩)
    · have := ready_mono hj hji
      rw [H.1] at this
      cases this
  | succ fuel ih =>
    intro listed a w hfree hW hr hy hS H
    refine ⟨fun h => (by rw [h] at hr; cases hr), fun j hj => ?_⟩
    by_cases hji : j = i
    · subst hji; exact hy.wpOp hi hS (.inr ⟨hic, hS, H⟩)
    · have h1 := H.2 j (ready_mono hj hji)
      have hiun := (mem_ready.1 hr).1
      have hjW : j ∉ W := fun h => not_ready hb hiun hW h hj
      obtain ⟨hjun, oj, hoj, hall⟩ := mem_ready.1 hj
      have hjc : j ≠ c := by
        rcases hc with hc | hc
        · have : j < ops.size := (Array.getElem?_eq_some_iff.1 hoj).1
          omega
        · intro h; exact hjW (h ▸ hc)
      have hnot : ∀ e ∈ oj.after, Region.binds md e = true → e.on ≠ i := fun e he hb heq => by
        have h1 := hall e he hb
        have h0 := hiun
        rw [heq] at h1
        rcases Nat.lt_or_ge i listed.size with h' | h'
        · simp [h'] at h0 h1; rw [h0] at h1; cases h1
        · simp [Array.getElem?_eq_none h'] at h1
      have h2 := wpOp_putIf hoj (hfree j oj hoj hji hjun hnot) (fun cs b => hsel i oi cs b hi) (fun cs b => hsel j oj cs b hoj) hQ hy h1
      have hfree' : ∀ k ok, ops[k]? = some ok → k ≠ i → (listed.setIfInBounds j true).getD k true = false →
          (∀ e ∈ ok.after, Region.binds md e = true → e.on ≠ i) → oi.apart ops ok = true := fun k ok hk hki hun hno => by
        refine hfree k ok hk hki ?_ hno
        by_cases hjk : j = k
        · subst hjk; exact hjun
        · rw [getD_set_ne true hjk] at hun; exact hun
      have hW' : ∀ x ∈ W, (listed.setIfInBounds j true).getD x true = false := fun x hx => by
        have hjx : j ≠ x := by intro h; subst h; exact hjW hx
        rw [getD_set_ne true hjx]
        exact hW x hx
      refine wpOp_mono (fun a' w' h3 => ?_) h2
      rcases h3.2 with h4 | h4
      · exact absurd h4.1 hjc
      · refine .inr ⟨hjc, h4.2.1, ih (listed.setIfInBounds j true) a' w' hfree' hW' (ready_mono hr (Ne.symm hji)) h3.1 h4.2.1 ?_⟩
        rw [Array.setIfInBounds_comm _ _ hji]
        exact h4.2.2
theorem wpAnyC_take {md : Region.Mode} {S : World → Prop} {c i : Nat} {oi : Oper} {v : Value} {fuel : Nat} {listed : Array Bool} {a : Act} {w : World} (hi : ops[i]? = some oi)
    (hs : Region.noSelect ops = true) (hf : Region.free md ops listed i = true) (hr : (Region.ready md ops listed).contains i = true) (hic : i ≠ c) (hb : barred md ops listed i c = true)
    (hQ : ∀ c a w, Q (.panic c) (a.put oi.dst v) w → Q (.panic c) a w) (hy : YieldsIf P ops S oi v a) (hS : S w)
    (h : wpAnyC P md ops Q S c fuel (listed.setIfInBounds i true) (a.put oi.dst v) w) : wpAnyC P md ops Q S c (fuel + 1) listed a w := by
  unfold barred at hb
  simp only [Bool.or_eq_true, decide_eq_true_eq, Bool.and_eq_true, List.contains_iff_mem, List.all_eq_true, beq_iff_eq] at hb
  have hB := waiters_blocks md ops i (List.range ops.size).reverse
  generalize waiters md ops i (List.range ops.size).reverse = W at *
  rcases hb with hb | hb
  · exact wpAnyC_first (W := []) hi (Region.noSelect_spec hs) hQ (fun x hx => by cases hx) hic (.inl hb) fuel listed a w (Region.free_spec hi hf) (fun x hx => by cases hx) (by simpa using hr) hy hS h
  · exact wpAnyC_first (W := W) hi (Region.noSelect_spec hs) hQ hB hic (.inr hb.1) fuel listed a w (Region.free_spec hi hf) hb.2 (by simpa using hr) hy hS h

/-- The order: 0: it only looks; 1: it comes up alone, and the world grows; 2: it only reckons; 3: it comes up alone, and may change what was there. -/
def nextCut (n : Nat) : List (Nat × Nat) → Nat
  | [] => n
  | (i, 3) :: _ => i
  | _ :: rest => nextCut n rest
def pathOk (P : Program) (md : Region.Mode) (ops : Array Oper) : List (Nat × Nat) → Array Bool → Bool
  | [], listed => (Region.ready md ops listed).isEmpty
  | (i, 0) :: rest, listed => ((ops[i]?).map (isReader P)).getD false && Region.free md ops listed i && (Region.ready md ops listed).contains i && (i != nextCut ops.size rest) && barred md ops listed i (nextCut ops.size rest) && pathOk P md ops rest (listed.setIfInBounds i true)
  | (i, 1) :: rest, listed => (Region.ready md ops listed == [i]) && (i != nextCut ops.size rest) && pathOk P md ops rest (listed.setIfInBounds i true)
  | (i, 3) :: rest, listed => (Region.ready md ops listed == [i]) && pathOk P md ops rest (listed.setIfInBounds i true)
  | (i, _) :: rest, listed => (ops[i]?).isSome && Region.free md ops listed i && (Region.ready md ops listed).contains i && (i != nextCut ops.size rest) && barred md ops listed i (nextCut ops.size rest) && pathOk P md ops rest (listed.setIfInBounds i true)
def wpPath (P : Program) (ops : Array Oper) (Q : Exit → Act → World → Prop) : List (Nat × Nat) → World → Act → World → Prop
  | [], _, a, w => Q .normal a w
  | (i, 0) :: rest, w0, a, w => wpOp P ops Q i (wpPath P ops Q rest w0) a w
  | (i, 1) :: rest, w0, a, w => wpOp P ops Q i (fun a' w' => Grow w0 w' ∧ wpPath P ops Q rest w' a' w') a w
  | (i, 3) :: rest, _, a, w => wpOp P ops Q i (fun a' w' => wpPath P ops Q rest w' a' w') a w
  | (i, _) :: rest, w0, a, w => (∀ o, ops[i]? = some o → Region.wanted o (yielded ops a.tmps) = true → Looks P (execOp a.eval o)) ∧ wpOp P ops Q i (wpPath P ops Q rest w0) a w
theorem path_take {md : Region.Mode} (hs : Region.noSelect ops = true) (hp : ∀ c a w, ¬ Q (.panic c) a w) (ho : ¬ LetsOut Q) {i c n : Nat} {o : Oper} {listed : Array Bool} {a : Act} {w : World} {K : Act → World → Prop} (hi : ops[i]? = some o)
    (hlk : Region.wanted o (yielded ops a.tmps) = true → Looks P (execOp a.eval o)) (h2 : Region.free md ops listed i = true) (h3 : (Region.ready md ops listed).contains i = true) (hic : i ≠ c) (hb : barred md ops listed i c = true)
    (hK : ∀ a', K a' w → wpAnyC P md ops Q (Grow w) c n (listed.setIfInBounds i true) a' w) (h : wpOp P ops Q i K a w) : wpAnyC P md ops Q (Grow w) c (n + 1) listed a w := by
  have hQ : ∀ v c a w, Q (.panic c) (a.put o.dst v) w → Q (.panic c) a w := fun v c a w h => (hp _ _ _ h).elim
  simp only [wpOp, hi] at h
  split at h
  · rename_i hw
    rcases h with h | ⟨_, hl⟩
    · unfold Oper.wp at h
      have hlook := hlk hw w
      cases hr : (execOp a.eval o).run P w with
      | halt e w1 =>
        rw [hr] at h
        cases e <;> first | exact h.elim | exact (hp _ _ _ h).elim
      | ok x w1 =>
        obtain ⟨v, rfl, rfl, hv⟩ := hlook x w1 hr
        rw [hr] at h
        exact wpAnyC_take hi hs h2 h3 hic hb (hQ v) (Or.inl ⟨hw, hv⟩) (Grow.refl _) (hK _ h)
    · exact (ho hl).elim
  · rename_i hw
    exact wpAnyC_take hi hs h2 h3 hic hb (hQ undef) (Or.inr ⟨by simpa using hw, rfl⟩) (Grow.refl _) (hK _ h)
theorem held_path (hs : Region.noSelect ops = true) (hp : ∀ c a w, ¬ Q (.panic c) a w) (ho : ¬ LetsOut Q) {md : Region.Mode} : ∀ (path : List (Nat × Nat)) (listed : Array Bool) (a : Act) (w : World),
    pathOk P md ops path listed = true → wpPath P ops Q path w a w → wpAnyC P md ops Q (Grow w) (nextCut ops.size path) path.length listed a w
  | [], listed, a, w, hk, h => wpAnyC_done (by simpa [pathOk] using hk) h _
  | (i, 0) :: rest, listed, a, w, hk, h => by
    simp only [pathOk, Bool.and_eq_true, bne_iff_ne] at hk
    obtain ⟨⟨⟨⟨⟨h1, h2⟩, h3⟩, hic⟩, hb⟩, h4⟩ := hk
    cases hi : ops[i]? with
    | none => rw [hi] at h1; cases h1
    | some o =>
      rw [hi] at h1
      simp only [Option.map_some, Option.getD_some] at h1
      exact path_take hs hp ho hi (fun _ => isReader_looks h1 a.eval) h2 h3 hic hb (fun a' h' => held_path hs hp ho rest _ a' w h4 h') h
  | (i, 1) :: rest, listed, a, w, hk, h => by
    simp only [pathOk, Bool.and_eq_true, beq_iff_eq, bne_iff_ne] at hk
    refine ⟨fun h0 => (by rw [hk.1.1] at h0; cases h0), fun j hj => ?_⟩
    rw [hk.1.1] at hj
    obtain rfl : j = i := by simpa using hj
    exact wpOp_mono (fun a' w' h' => .inr ⟨hk.1.2, h'.1, wpAnyC_weaken (fun x hx => h'.1.trans hx) _ _ _ _ (held_path hs hp ho rest _ a' w' hk.2 h'.2)⟩) h
  | (i, 2) :: rest, listed, a, w, hk, h => by
    simp only [pathOk, Bool.and_eq_true, bne_iff_ne] at hk
    obtain ⟨⟨⟨⟨⟨h1, h2⟩, h3⟩, hic⟩, hb⟩, h4⟩ := hk
    cases hi : ops[i]? with
    | none => rw [hi] at h1; cases h1
    | some o => exact path_take hs hp ho hi (h.1 o hi) h2 h3 hic hb (fun a' h' => held_path hs hp ho rest _ a' w h4 h') h.2
  | (i, 3) :: rest, listed, a, w, hk, h => by
    simp only [pathOk, Bool.and_eq_true, beq_iff_eq] at hk
    refine ⟨fun h0 => (by rw [hk.1] at h0; cases h0), fun j hj => ?_⟩
    rw [hk.1] at hj
    obtain rfl : j = i := by simpa using hj
    exact wpOp_mono (fun a' w' h' => .inl ⟨rfl, wpAny_of_C _ _ _ _ (held_path hs hp ho rest _ a' w' hk.2 h')⟩) h
  | (i, k + 4) :: rest, listed, a, w, hk, h => by
    simp only [pathOk, Bool.and_eq_true, bne_iff_ne] at hk
    obtain ⟨⟨⟨⟨⟨h1, h2⟩, h3⟩, hic⟩, hb⟩, h4⟩ := hk
    cases hi : ops[i]? with
    | none => rw [hi] at h1; cases h1
    | some o => exact path_take hs hp ho hi (h.1 o hi) h2 h3 hic hb (fun a' h' => held_path hs hp ho rest _ a' w h4 h') h.2
theorem path_from {w0 w1 : World} (hg : Grow w0 w1) : ∀ (path : List (Nat × Nat)) (a : Act) (w : World), wpPath P ops Q path w1 a w → wpPath P ops Q path w0 a w
  | [], _, _, h => h
  | (_, 0) :: rest, _, _, h => wpOp_mono (fun a' w' h' => path_from hg rest a' w' h') h
  | (_, 1) :: _, _, _, h => wpOp_mono (fun _ _ h' => ⟨hg.trans h'.1, h'.2⟩) h
  | (_, 2) :: rest, _, _, h => ⟨h.1, wpOp_mono (fun a' w' h' => path_from hg rest a' w' h') h.2⟩
  | (_, 3) :: _, _, _, h => h
  | (_, _ + 4) :: rest, _, _, h => ⟨h.1, wpOp_mono (fun a' w' h' => path_from hg rest a' w' h') h.2⟩

/-- The parts of a path: each begins with what only reckons, or ends with what comes up alone. -/
abbrev Part := Option Oper × Bool × List Oper
def headed (o : Oper) : List Part → List Part
  | (none, b, s) :: t => (none, b, o :: s) :: t
  | t => (none, false, [o]) :: t
def headed2 (o : Oper) : List Part → List Part
  | (none, b, s) :: t => (some o, b, o :: s) :: t
  | t => (some o, false, [o]) :: t
def parts (ops : Array Oper) : List (Nat × Nat) → List Part
  | [] => [(none, false, [])]
  | (i, k) :: rest =>
    match ops[i]?, k with
    | none, _ => parts ops rest
    | some o, 0 => headed o (parts ops rest)
    | some o, 1 => (none, false, [o]) :: parts ops rest
    | some o, 3 => (none, true, [o]) :: parts ops rest
    | some o, _ => headed2 o (parts ops rest)
/-- The walk, part by part. -/
def wpParts (P : Program) (ops : Array Oper) (Q : Exit → Act → World → Prop) : List Part → Act → World → Prop
  | [], a, w => Q .normal a w
  | (p, b, s) :: t, a, w => (∀ o, p = some o → Region.wanted o (yielded ops a.tmps) = true → Looks P (execOp a.eval o)) ∧ wpList P ops (Exit.then (fun a' w' => (b = false → Grow w w') ∧ wpParts P ops Q t a' w') Q) s a w
/-- One part, in a world that has grown since its beginning. -/
theorem parts_list {o : Oper} {a : Act} {w : World} {X K : Act → World → Prop} {rest : List Oper} (hX : ∀ a' w', wpList P ops (Exit.then K Q) rest a' w' → X a' w') (h : wpList P ops (Exit.then K Q) (o :: rest) a w) {i : Nat} (hi : ops[i]? = some o) : wpOp P ops Q i X a w := by
  simp only [wpList] at h
  unfold wpOp
  simp only [hi]
  split at h
  · rename_i hw
    rw [if_pos hw]
    exact h.imp (fun h => wp_then (Oper.wp_mono hX h)) id
  · rename_i hw
    rw [if_neg hw]
    exact hX _ _ h
theorem parts_ne : ∀ (path : List (Nat × Nat)), ∃ p b s t, parts ops path = (p, b, s) :: t
  | [] => ⟨none, false, [], [], rfl⟩
  | (i, k) :: rest => by
    obtain ⟨p, b, s, t, h⟩ := parts_ne rest
    unfold parts
    split
    · exact ⟨p, b, s, t, h⟩
    · rw [h]; cases p <;> exact ⟨_, _, _, _, rfl⟩
    · exact ⟨_, _, _, _, rfl⟩
    · exact ⟨_, _, _, _, rfl⟩
    · rw [h]; cases p <;> exact ⟨_, _, _, _, rfl⟩
theorem path_parts : ∀ (path : List (Nat × Nat)), (∀ x ∈ path, ∃ o, ops[x.1]? = some o) → ∀ (w0 : World) (a : Act) (w : World) (p : Option Oper) (b : Bool) (s : List Oper) (t : List Part), parts ops path = (p, b, s) :: t →
    (∀ o, p = some o → Region.wanted o (yielded ops a.tmps) = true → Looks P (execOp a.eval o)) → wpList P ops (Exit.then (fun a' w' => (b = false → Grow w0 w') ∧ wpParts P ops Q t a' w') Q) s a w → wpPath P ops Q path w0 a w
  | [], _, w0, a, w, p, b, s, t, hs, _, h => by
    cases hs
    exact h.2
  | (i, k) :: rest, hb, w0, a, w, p, b, s, t, hs, hl, h => by
    have hb' : ∀ x ∈ rest, ∃ o, ops[x.1]? = some o := fun x hx => hb x (List.mem_cons_of_mem _ hx)
    obtain ⟨o, hi⟩ := hb (i, k) (List.mem_cons_self ..)
    simp only at hi
    obtain ⟨p', b', s', t', hr⟩ := parts_ne (ops := ops) rest
    have at' : ∀ a' w', wpParts P ops Q (parts ops rest) a' w' → wpPath P ops Q rest w' a' w' := fun a' w' h2 => by
      rw [hr] at h2
      exact path_parts rest hb' w' a' w' p' b' s' t' hr h2.1 h2.2
    have next : ∀ a' w', ((false = false → Grow w0 w') ∧ wpParts P ops Q (parts ops rest) a' w') → wpPath P ops Q rest w0 a' w' := fun a' w' h' => path_from (h'.1 rfl) rest a' w' (at' a' w' h'.2)
    have reckon : headed2 o (parts ops rest) = (p, b, s) :: t → (∀ o', ops[i]? = some o' → Region.wanted o' (yielded ops a.tmps) = true → Looks P (execOp a.eval o')) ∧ wpOp P ops Q i (wpPath P ops Q rest w0) a w := fun hs => by
      rw [hr] at hs
      cases p' with
      | none =>
        simp only [headed2] at hs
        cases hs
        refine ⟨fun o' ho' hw' => ?_, parts_list (fun a' w' h' => path_parts rest hb' w0 a' w' none _ s' _ hr (fun o e => by cases e) h') h hi⟩
        rw [hi] at ho'
        cases ho'
        exact hl o rfl hw'
      | some q =>
        simp only [headed2] at hs
        rw [← hr] at hs
        cases hs
        refine ⟨fun o' ho' hw' => ?_, parts_list ?_ h hi⟩
        rotate_left
        · intro a' w' h'
          exact next a' w' h'
        rw [hi] at ho'
        cases ho'
        exact hl o rfl hw'
    unfold parts at hs
    rw [hi] at hs
    match k with
    | 0 =>
      simp only at hs
      rw [hr] at hs
      cases p' with
      | none =>
        simp only [headed] at hs
        cases hs
        exact parts_list (fun a' w' h' => path_parts rest hb' w0 a' w' none _ s' _ hr (fun o e => by cases e) h') h hi
      | some q =>
        simp only [headed] at hs
        rw [← hr] at hs
        cases hs
        refine parts_list ?_ h hi
        intro a' w' h'
        exact next a' w' h'
    | 1 =>
      simp only at hs
      cases hs
      exact parts_list (fun a' w' h' => ⟨h'.1 rfl, at' a' w' h'.2⟩) h hi
    | 2 => exact reckon hs
    | 3 =>
      simp only at hs
      cases hs
      refine parts_list ?_ h hi
      intro a' w' h'
      exact at' a' w' (show (true = false → Grow w0 w') ∧ _ from h').2
    | k + 4 => exact reckon hs
theorem path_in {md : Region.Mode} : ∀ (path : List (Nat × Nat)) (listed : Array Bool), pathOk P md ops path listed = true → ∀ x ∈ path, ∃ o, ops[x.1]? = some o
  | [], _, _, x, hx => by cases hx
  | (i, k) :: rest, listed, hk, x, hx => by
    have alone : Region.ready md ops listed = [i] → ∃ o, ops[i]? = some o := fun h => by
      have hm : i ∈ Region.ready md ops listed := by rw [h]; simp
      obtain ⟨_, o, ho, _⟩ := mem_ready.1 hm
      exact ⟨o, ho⟩
    have both : (∃ o, ops[i]? = some o) ∧ pathOk P md ops rest (listed.setIfInBounds i true) = true := by
      match k with
      | 0 =>
        simp only [pathOk, Bool.and_eq_true] at hk
        refine ⟨?_, hk.2⟩
        cases hi : ops[i]? with
        | none => rw [hi] at hk; cases hk.1.1.1.1.1
        | some o => exact ⟨o, rfl⟩
      | 1 =>
        simp only [pathOk, Bool.and_eq_true, beq_iff_eq] at hk
        exact ⟨alone hk.1.1, hk.2⟩
      | 2 =>
        simp only [pathOk, Bool.and_eq_true] at hk
        exact ⟨Option.isSome_iff_exists.1 hk.1.1.1.1.1, hk.2⟩
      | 3 =>
        simp only [pathOk, Bool.and_eq_true, beq_iff_eq] at hk
        exact ⟨alone hk.1, hk.2⟩
      | k + 4 =>
        simp only [pathOk, Bool.and_eq_true] at hk
        exact ⟨Option.isSome_iff_exists.1 hk.1.1.1.1.1, hk.2⟩
    rcases List.mem_cons.1 hx with rfl | hx
    · exact both.1
    · exact path_in rest _ both.2 x hx

/-- A region that leaves its order open, walked once, by a path. -/
theorem wp_region_path {id : Nat} {a : Act} {w : World} (path : List (Nat × Nat)) (hm : P.follows .mixedOrders = true) (hs : Region.noSelect ops = true) (hl : path.length = ops.size)
    (hk : pathOk P .any ops path (Array.replicate ops.size false) = true) (h : wpParts P ops (Sure Q) (parts ops path) a w.drew) : (Code.region id ops true).wp P Q a w := by
  refine Code.wp_mono Sure.imp (wp_region_any hm (wpAny_of_C (S := Grow w.drew) (c := nextCut ops.size path) _ _ _ _ ?_))
  rw [← hl]
  obtain ⟨p, b, s, t, e⟩ := parts_ne (ops := ops) path
  have hin := path_in path _ hk
  rw [e] at h
  have := held_path hs (fun _ _ _ h => h) (fun ⟨_, _, h⟩ => h) path _ a w.drew hk (path_parts path hin _ a _ p b s t e h.1 h.2)
  rw [← hl] at this
  exact this
theorem parts_step {s : List Oper} {t : List Part} {a : Act} {w : World}
    (h : ∀ K : Act → World → Prop, Hid (∀ a' w', Grow w w' → wpParts P ops Q t a' w' → K a' w') → wpList P ops (Exit.then K Q) s a w) : wpParts P ops Q ((none, false, s) :: t) a w :=
  ⟨fun _ e => by (cases e), h _ fun _ _ hg h' => ⟨fun _ => hg, h'⟩⟩
theorem parts_step2 {o : Oper} {s : List Oper} {t : List Part} {a : Act} {w : World} (hl : Region.wanted o (yielded ops a.tmps) = true → Looks P (execOp a.eval o))
    (h : ∀ K : Act → World → Prop, Hid (∀ a' w', Grow w w' → wpParts P ops Q t a' w' → K a' w') → wpList P ops (Exit.then K Q) s a w) : wpParts P ops Q ((some o, false, s) :: t) a w :=
  ⟨fun _ e hw => by (cases e; exact hl hw), h _ fun _ _ hg h' => ⟨fun _ => hg, h'⟩⟩
/-- A part that ends with what may change what was there. -/
theorem parts_cut {s : List Oper} {t : List Part} {a : Act} {w : World}
    (h : ∀ K : Act → World → Prop, Hid (∀ a' w', wpParts P ops Q t a' w' → K a' w') → wpList P ops (Exit.then K Q) s a w) : wpParts P ops Q ((none, true, s) :: t) a w :=
  ⟨fun _ e => by (cases e), h _ fun _ _ h' => ⟨fun e => by (cases e), h'⟩⟩
theorem parts_cut2 {o : Oper} {s : List Oper} {t : List Part} {a : Act} {w : World} (hl : Region.wanted o (yielded ops a.tmps) = true → Looks P (execOp a.eval o))
    (h : ∀ K : Act → World → Prop, Hid (∀ a' w', wpParts P ops Q t a' w' → K a' w') → wpList P ops (Exit.then K Q) s a w) : wpParts P ops Q ((some o, true, s) :: t) a w :=
  ⟨fun _ e hw => by (cases e; exact hl hw), h _ fun _ _ h' => ⟨fun e => by (cases e), h'⟩⟩
theorem parts_done {a : Act} {w : World} (h : Q .normal a w) : wpParts P ops (Sure Q) [] a w := h
end
end Go.Proofs.Ytlioojekjnigiab
/- Rows of structs in memory: as they lie, and rows of one's own. -/
namespace Go.Proofs.Ytlioojekjnigiab
open Go.RowKit

/-- Elements, one value behind another. -/
def flat {α : Type} (enc : α → List Value) (xs : List α) : List Value := xs.flatMap enc
section
variable {α : Type} {enc : α → List Value} {k : Nat}
theorem flat_cons (x : α) (xs : List α) : flat enc (x :: xs) = enc x ++ flat enc xs := rfl
theorem flat_append (xs ys : List α) : flat enc (xs ++ ys) = flat enc xs ++ flat enc ys := by simp [flat]
theorem flat_length (hk : ∀ x, (enc x).length = k) : ∀ xs : List α, (flat enc xs).length = xs.length * k
  | [] => by simp [flat]
  | x :: xs => by rw [flat_cons, List.length_append, hk, flat_length hk xs, List.length_cons, Nat.add_mul, Nat.one_mul, Nat.add_comm]
theorem flat_get (hk : ∀ x, (enc x).length = k) : ∀ (xs : List α) (i r : Nat) (x : α) (v : Value), xs[i]? = some x → (enc x)[r]? = some v → (flat enc xs)[i * k + r]? = some v
  | [], i, r, x, v, h, _ => by cases h
  | y :: ys, 0, r, x, v, h, hv => by
    obtain rfl : y = x := by simpa using h
    rw [flat_cons, Nat.zero_mul, Nat.zero_add, List.getElem?_append_left (List.getElem?_eq_some_iff.1 hv).1, hv]
  | y :: ys, i + 1, r, x, v, h, hv => by
    rw [flat_cons, List.getElem?_append_right (by rw [hk, Nat.add_mul]; omega), hk, show (i + 1) * k + r - k = i * k + r from by rw [Nat.add_mul]; omega]
    exact flat_get hk ys i r x v (by simpa using h) hv
theorem flat_at (hk : ∀ x, (enc x).length = k) : ∀ (xs : List α) (j : Nat) (v : Value), (flat enc xs)[j]? = some v → ∃ i r x, j = i * k + r ∧ xs[i]? = some x ∧ (enc x)[r]? = some v
  | [], j, v, h => by simp [flat] at h
  | y :: ys, j, v, h => by
    rw [flat_cons] at h
    by_cases hj : j < k
    · rw [List.getElem?_append_left (by rw [hk]; exact hj)] at h
      exact ⟨0, j, y, by simp, rfl, h⟩
    · rw [List.getElem?_append_right (by rw [hk]; omega), hk] at h
      obtain ⟨i, r, x, e, hx, hv⟩ := flat_at hk ys (j - k) v h
      exact ⟨i + 1, r, x, by rw [Nat.add_mul]; omega, by simpa using hx, hv⟩
theorem flat_one (h1 : ∀ x, ∀ v ∈ enc x, v.oneCell' = true) (xs : List α) : ∀ v ∈ flat enc xs, v.oneCell' = true := by
  intro v hv
  unfold flat at hv
  rw [List.mem_flatMap] at hv
  obtain ⟨x, _, hv⟩ := hv
  exact h1 x v hv
theorem flat_take (hk : ∀ x, (enc x).length = k) : ∀ (xs : List α) (i : Nat), (flat enc xs).take (i * k) = flat enc (xs.take i)
  | [], i => by simp [flat]
  | x :: xs, 0 => by simp [flat]
  | x :: xs, i + 1 => by
    rw [flat_cons, List.take_succ_cons, flat_cons, Nat.add_mul, Nat.one_mul, Nat.add_comm (i * k) k, ← hk x, List.take_length_add_append, hk x, flat_take hk xs i]
theorem flat_drop (hk : ∀ x, (enc x).length = k) : ∀ (xs : List α) (i : Nat), (flat enc xs).drop (i * k) = flat enc (xs.drop i)
  | [], i => by simp [flat]
  | x :: xs, 0 => by simp
  | x :: xs, i + 1 => by
    rw [flat_cons, List.drop_succ_cons, Nat.add_mul, Nat.one_mul, Nat.add_comm (i * k) k, ← hk x, List.drop_length_add_append, hk x, flat_drop hk xs i]

theorem add_at' {b off : Nat} (i : Nat) : (⟨b, off, none⟩ : Addr).add i = ⟨b, off + i, none⟩ := by unfold Addr.add; split <;> simp_all
/-- A row that lies in memory. -/
def RowAt (enc : α → List Value) (k : Nat) (w : World) (a : Option Addr) (cap : Nat) (xs : List α) : Prop :=
  xs.length ≤ 9223372036854775807 ∧ xs.length ≤ cap ∧ (xs = [] ∨ ∃ b off, a = some ⟨b, off, none⟩ ∧ ∀ i x, xs[i]? = some x → ∀ r v, (enc x)[r]? = some v → w.cell? ⟨b, off + i * k + r, none⟩ = some v)
theorem RowAt.nil (w : World) (a : Option Addr) (cap : Nat) : RowAt enc k w a cap [] := ⟨by simp, by simp, .inl rfl⟩
theorem RowAt.grow {w w' : World} {a : Option Addr} {cap : Nat} {xs : List α} (h : RowAt enc k w a cap xs) (hg : Grow w w') : RowAt enc k w' a cap xs := by
  refine ⟨h.1, h.2.1, h.2.2.imp id ?_⟩
  rintro ⟨b, off, ha, hc⟩
  exact ⟨b, off, ha, fun i x hi r v hv => cell_grow hg (hc i x hi r v hv)⟩
theorem RowAt.at {w : World} {a : Option Addr} {cap : Nat} {xs : List α} (h : RowAt enc k w a cap xs) {i : Nat} {x : α} (hi : xs[i]? = some x) :
    ∃ b off, a = some ⟨b, off, none⟩ ∧ ∀ r v, (enc x)[r]? = some v → w.cell? ⟨b, off + i * k + r, none⟩ = some v := by
  rcases h.2.2 with rfl | ⟨b, off, ha, hc⟩
  · cases hi
  · exact ⟨b, off, ha, hc i x hi⟩
theorem RowAt.news (hk : ∀ x, (enc x).length = k) {w : World} {b off cap : Nat} {xs : List α} (h : RowAt enc k w (some ⟨b, off, none⟩) cap xs) : ∀ j v, (flat enc xs)[j]? = some v → w.cell? ((⟨b, off, none⟩ : Addr).add j) = some v := by
  intro j v hv
  obtain ⟨i, r, x, rfl, hx, hv⟩ := flat_at hk xs j v hv
  obtain ⟨b', off', e, hc⟩ := h.at hx
  cases e
  rw [add_at', ← Nat.add_assoc]
  exact hc r v hv
/-- A row of one's own, as a row that lies in memory. -/
theorem RowAt.of_own (hk : ∀ x, (enc x).length = k) {w : World} {base : Nat} {e : TypeId} {a : Option Addr} {cap : Nat} {xs : List α} (hl : xs.length ≤ 9223372036854775807)
    (h : w.ownsRow base e k (.slice a xs.length cap) xs.length (flat enc xs)) : RowAt enc k w a cap xs := by
  rcases h.2 with ⟨h0, h1⟩ | ⟨g, cap', cur, hv, hb, hg, hle, _⟩
  · rw [List.length_eq_zero_iff.1 h1]
    exact RowAt.nil _ _ _
  · cases hv
    refine ⟨hl, hle, .inr ⟨g, 0, rfl, fun i x hi r v hv => ?_⟩⟩
    have := h.cells (g := g) rfl (i * k + r) v (flat_get hk xs i r x v hi hv)
    rwa [add_at', ← Nat.add_assoc] at this
theorem RowAt.take {w : World} {a : Option Addr} {cap : Nat} {xs : List α} (h : RowAt enc k w a cap xs) (n : Nat) : RowAt enc k w a cap (xs.take n) := by
  refine ⟨by have := h.1; rw [List.length_take]; omega, by have := h.2.1; rw [List.length_take]; omega, h.2.2.imp (fun e => by rw [e]; simp) ?_⟩
  rintro ⟨b, off, ha, hc⟩
  refine ⟨b, off, ha, fun i x hi => hc i x ?_⟩
  rw [List.getElem?_take] at hi
  split at hi
  · exact hi
  · cases hi
theorem grow_of_grown' {w w3 : World} (hg : w.grownBy w3 none) : Grow w w3 :=
  ⟨hg.os, hg.tape, hg.output, hg.size, fun k hk => hg.block k hk (by simp)⟩
/-- What is appended to a row of one's own leaves what lay ahead of it. -/
theorem below_grown {base : Nat} {w w' : World} {row : Option Nat} (hg : w.grownBy w' row) (hr : ∀ g, row = some g → base ≤ g) (hb : base ≤ w.heap.size) : Below base w w' :=
  ⟨hg.os, hg.tape, hg.output, hg.size, fun j hj => hg.block j (by omega) (fun e => by have := hr j e.symm; omega)⟩

/-- Nothing is appended to nothing. -/
theorem wpList_append_none {P : Program} {w : World} {ops : Array Oper} {rest : List Oper} {o : Oper} {a : Act} {Q : Exit → Act → World → Prop} (hgd : o.guard = none) (s x : Operand) (t : TypeId)
    (ho : o.op = .call { callee := .builtin .append, args := #[s, x], argTypes := #[t, t] }) (e : TypeId) (i : TypeInfo) (ht : P.underlying t = some (.slice e)) (hi : P.info? e = some i)
    (hs : a.eval s = .slice none 0 0) (a0 : Option Addr) (cap : Nat) (hx : a.eval x = .slice a0 0 cap) (h : wpList P ops Q rest (a.put o.dst (.slice none 0 0)) w) : wpList P ops Q (o :: rest) a w := by
  refine wpList_plain hgd fun K hK => ?_
  have hrun : (Builtin.append_ #[t, t] o.type #[.slice none 0 0, .slice a0 0 cap]).run P w = .ok (.slice none 0 0) w := by
    cases a0 <;> simp [Builtin.append_, run_underlying ht, sizeOf, typeInfo, hi, loadCells, loadCellsFrom, Builtin.lenOf, Builtin.firstCells]
  unfold Oper.wp
  simp [execOp, ho, resolve, invoke, builtin, hs, hx, hrun, Result.andThen]
  exact hK _ _ h
end
end Go.Proofs.Ytlioojekjnigiab
/- Laws of rows of structs: copy, clear, and what slices.Insert and slices.Delete make of a row. -/
namespace Go.Proofs.Ytlioojekjnigiab
open Go.RowKit

section
variable {P : Program}
/-- copy into a row that is known whole. -/
theorem run_copy_row (w : World) (dT sT ty elem : TypeId) (size g o dLen dCap : Nat) (a : Addr) (sLen sCap : Nat) (cs : List Value) (cur : Array Value) (t : TypeId)
    (hu : P.underlying dT = some (.slice elem)) (i : TypeInfo) (hi : P.info? elem = some i) (hs : i.size = size) (hn : cs.length = Nat.min sLen dLen * size)
    (hsrc : ∀ j v, cs[j]? = some v → w.cell? (a.add j) = some v) (hg : w.heap[g]? = some (.cells cur t (0, 0))) (hfit : o + cs.length ≤ cur.size) (h1 : ∀ v ∈ cs, v.oneCell' = true) :
    (Builtin.copy_ #[dT, sT] ty #[.slice (some ⟨g, o, none⟩) dLen dCap, .slice (some a) sLen sCap]).run P w = .ok (goInt (Nat.min sLen dLen)) (w.setRow g (cur.toList.take o ++ cs ++ cur.toList.drop (o + cs.length)).toArray) := by
  have hl := run_loadCells_list (P := P) w a cs hsrc
  have hst := run_storeCells_at P g o t cs 0 cur w hg (by simpa using hfit) h1
  simp only [Nat.add_zero] at hst
  rw [hn] at hl
  simp [Builtin.copy_, run_underlying hu, Builtin.lenOf, Builtin.firstCells, sizeOf, typeInfo, hi, hs, hl, hst]
/-- clear, of a row that is known whole. -/
theorem run_clear_row (w : World) (t e ty : TypeId) (z : Value) (ht : P.underlying t = some (.slice e)) (hv : ∀ w, (zeroValue e).run P w = .ok z w) (h1 : ∀ v ∈ z.cells.toList, v.oneCell' = true) (g o n c : Nat) (cur : Array Value) (et : TypeId)
    (hg : w.heap[g]? = some (.cells cur et (0, 0))) (hfit : o + (n + 1) * z.cells.size ≤ cur.size) :
    (Builtin.clear_ #[t] ty #[.slice (some ⟨g, o, none⟩) (n + 1) c]).run P w = .ok (.tuple #[]) (w.setRow g (cur.toList.take o ++ (Builtin.zeroCells z.cells (n + 1)).toList ++ cur.toList.drop (o + (n + 1) * z.cells.size)).toArray) := by
  have hl : (Builtin.zeroCells z.cells (n + 1)).toList.length = (n + 1) * z.cells.size := by simp [size_zeroCells]
  have hst := run_storeCells_at P g o et (Builtin.zeroCells z.cells (n + 1)).toList 0 cur w hg (by rw [hl]; simpa using hfit) (by
    intro v hv'
    simp only [Builtin.zeroCells, Array.toList_map, List.mem_map, Array.toList_range, List.mem_range] at hv'
    obtain ⟨j, hj, rfl⟩ := hv'
    have hz : 0 < z.cells.size := by
      rcases Nat.eq_zero_or_pos z.cells.size with h | h
      · rw [h] at hj; simp at hj
      · exact h
    have hlt : j % z.cells.size < z.cells.size := Nat.mod_lt _ hz
    rw [getElem!_pos z.cells (j % z.cells.size) hlt]
    exact h1 _ (by simp))
  simp only [Nat.add_zero] at hst
  rw [hl] at hst
  simp [Builtin.clear_, run_underlying ht, hv, hst]
theorem wpList_copy_run (w : World) {ops : Array Oper} {rest : List Oper} {o : Oper} {a : Act} {Q : Exit → Act → World → Prop} (hgd : o.guard = none) (d s : Operand) (t t' : TypeId)
    (ho : o.op = .call { callee := .builtin .copy, args := #[d, s], argTypes := #[t, t'] }) (v u : Value) (hd : a.eval d = v) (hs : a.eval s = u) {v' : Value} {w' : World}
    (hr : (Builtin.copy_ #[t, t'] o.type #[v, u]).run P w = .ok v' w') (h : wpList P ops Q rest (a.put o.dst v') w') : wpList P ops Q (o :: rest) a w :=
  wpList_plain hgd fun _ hK => by
    unfold Oper.wp execOp
    simp only [ho, resolve, invoke, builtin, Sem.run_bind, Sem.run_pure, Result.andThen_ok, List.map_toArray, List.map_cons, List.map_nil, hd, hs, hr]
    exact hK _ _ h
theorem wpList_clear_run (w : World) {ops : Array Oper} {rest : List Oper} {o : Oper} {a : Act} {Q : Exit → Act → World → Prop} (hgd : o.guard = none) (s : Operand) (t : TypeId)
    (ho : o.op = .call { callee := .builtin .clear, args := #[s], argTypes := #[t] }) (u : Value) (hs : a.eval s = u) {v' : Value} {w' : World}
    (hr : (Builtin.clear_ #[t] o.type #[u]).run P w = .ok v' w') (h : wpList P ops Q rest (a.put o.dst v') w') : wpList P ops Q (o :: rest) a w :=
  wpList_plain hgd fun _ hK => by
    unfold Oper.wp execOp
    simp only [ho, resolve, invoke, builtin, Sem.run_bind, Sem.run_pure, Result.andThen_ok, List.map_toArray, List.map_cons, List.map_nil, hs, hr]
    exact hK _ _ h
theorem wpList_append_ran (w : World) {ops : Array Oper} {rest : List Oper} {o : Oper} {a : Act} {Q : Exit → Act → World → Prop} (hgd : o.guard = none) (s x : Operand) (t tn : TypeId)
    (ho : o.op = .call { callee := .builtin .append, args := #[s, x], argTypes := #[t, tn] }) (vs vx : Value) (hs : a.eval s = vs) (hx : a.eval x = vx)
    {v' : Value} {w' : World} (hr : (Builtin.append_ #[t, tn] o.type #[vs, vx]).run P w = .ok v' w') (h : wpList P ops Q rest (a.put o.dst v') w') : wpList P ops Q (o :: rest) a w :=
  Lib.wpList_append_run w hgd s x t tn ho vs vx hs hx v' w' hr h
end

theorem grownBy_setRow {w : World} {g : Nat} {cur cur' : Array Value} {t : TypeId} (_h : w.heap[g]? = some (.cells cur t (0, 0))) : w.grownBy (w.setRow g cur') (some g) :=
  ⟨rfl, rfl, rfl, by simp [World.setRow], fun k hk hn => setRow_other _ _ _ _ (fun e => hn (by rw [e]))⟩
theorem grownBy_trans {a b c : World} {row : Option Nat} (h : a.grownBy b row) (k : b.grownBy c row) : a.grownBy c row :=
  ⟨k.os.trans h.os, k.tape.trans h.tape, k.output.trans h.output, Nat.le_trans h.size k.size, fun j hj hn => (k.block j (Nat.lt_of_lt_of_le hj h.size) hn).trans (h.block j hj hn)⟩
theorem grownBy_drew (w : World) (row : Option Nat) : w.grownBy w.drew row := ⟨rfl, rfl, rfl, Nat.le_refl _, fun _ _ _ => rfl⟩
theorem grownBy_refl (w : World) (row : Option Nat) : w.grownBy w row := ⟨rfl, rfl, rfl, Nat.le_refl _, fun _ _ _ => rfl⟩
theorem grownBy_of_grow {w w' : World} (h : Grow w w') (row : Option Nat) : w.grownBy w' row := ⟨Below.os h, Below.tape h, Below.output h, Below.size h, fun k hk _ => Below.block h k hk⟩

/-- What a row is behind a shift. -/
theorem row_shift {cur cs xs : List Value} {I N k : Nat} (hI : I ≤ N) (hx : xs.length = k) (hc : N + k ≤ cur.length) (ht : cur.take N = cs) :
    ((cur.take (I + k) ++ cs.drop I ++ cur.drop (I + k + (N - I))).take I ++ xs ++ (cur.take (I + k) ++ cs.drop I ++ cur.drop (I + k + (N - I))).drop (I + k)).take (N + k) = cs.take I ++ xs ++ cs.drop I := by
  have hl : cs.length = N := by rw [← ht, List.length_take]; omega
  have e1 : (cur.take (I + k) ++ cs.drop I ++ cur.drop (I + k + (N - I))).take I = cs.take I := by
    rw [List.append_assoc, List.take_append_of_le_length (by rw [List.length_take]; omega), List.take_take, Nat.min_eq_left (by omega), ← ht, List.take_take, Nat.min_eq_left hI]
  have e2 : (cur.take (I + k) ++ cs.drop I ++ cur.drop (I + k + (N - I))).drop (I + k) = cs.drop I ++ cur.drop (I + k + (N - I)) := by
    rw [List.append_assoc]
    exact List.drop_left' (by rw [List.length_take]; omega)
  rw [e1, e2, ← List.append_assoc]
  exact List.take_left' (by simp; omega)
theorem row_shift_size {cur cs xs : List Value} {I N k : Nat} (hI : I ≤ N) (hx : xs.length = k) (hc : N + k ≤ cur.length) (hl : cs.length = N) :
    ((cur.take (I + k) ++ cs.drop I ++ cur.drop (I + k + (N - I))).take I ++ xs ++ (cur.take (I + k) ++ cs.drop I ++ cur.drop (I + k + (N - I))).drop (I + k)).length = cur.length := by
  simp
  omega
/-- What a new row is. -/
theorem row_new {cur cs xs : List Value} {I N k : Nat} (hI : I ≤ N) (hx : xs.length = k) (ht : cur.take I = cs.take I) (hl : cs.length = N) :
    ((cur.take I ++ xs ++ cur.drop (I + k)).take (I + k) ++ cs.drop I ++ (cur.take I ++ xs ++ cur.drop (I + k)).drop (I + k + (N - I))).take (N + k) = cs.take I ++ xs ++ cs.drop I := by
  have e1 : (cur.take I ++ xs ++ cur.drop (I + k)).take (I + k) = cs.take I ++ xs := by
    rw [ht]
    exact List.take_left' (by simp; omega)
  rw [e1]
  exact List.take_left' (by simp; omega)
theorem row_new_size {cur cs xs : List Value} {I N k : Nat} (hI : I ≤ N) (hx : xs.length = k) (hc : N + k ≤ cur.length) (hl : cs.length = N) :
    ((cur.take I ++ xs ++ cur.drop (I + k)).take (I + k) ++ cs.drop I ++ (cur.take I ++ xs ++ cur.drop (I + k)).drop (I + k + (N - I))).length = cur.length := by
  simp
  omega
/-- What a row is where one is taken out, and its end cleared. -/
theorem row_cut {cur cs zs : List Value} {I N k : Nat} (hI : I + k ≤ N) (hz : zs.length = k) (hc : N ≤ cur.length) (ht : cur.take N = cs) :
    ((cur.take I ++ cs.drop (I + k) ++ cur.drop (I + (N - (I + k)))).take (N - k) ++ zs ++ (cur.take I ++ cs.drop (I + k) ++ cur.drop (I + (N - (I + k)))).drop (N - k + k)).take (N - k) = cs.take I ++ cs.drop (I + k) := by
  have hl : cs.length = N := by rw [← ht, List.length_take]; omega
  have e0 : cur.take I = cs.take I := by rw [← ht, List.take_take, Nat.min_eq_left (by omega)]
  have e1 : (cur.take I ++ cs.drop (I + k) ++ cur.drop (I + (N - (I + k)))).take (N - k) = cs.take I ++ cs.drop (I + k) := by
    rw [e0]
    exact List.take_left' (by simp; omega)
  rw [e1, List.append_assoc]
  exact List.take_left' (by simp; omega)
theorem row_cut_size {cur cs zs : List Value} {I N k : Nat} (hI : I + k ≤ N) (hz : zs.length = k) (hc : N ≤ cur.length) (hl : cs.length = N) :
    ((cur.take I ++ cs.drop (I + k) ++ cur.drop (I + (N - (I + k)))).take (N - k) ++ zs ++ (cur.take I ++ cs.drop (I + k) ++ cur.drop (I + (N - (I + k)))).drop (N - k + k)).length = cur.length := by
  simp
  omega
theorem ownsRow_grow {w w' : World} {base : Nat} {e : TypeId} {size : Nat} {v : Value} {n : Nat} {xs : List Value} (h : w.ownsRow base e size v n xs) (hg : Grow w w') : w'.ownsRow base e size v n xs :=
  h.kept (grownBy_of_grow hg none) (by cases hv : v.ownBlock <;> simp)
theorem ownsRow_set {w : World} {base : Nat} {e : TypeId} {size : Nat} {v : Value} {n : Nat} {xs : List Value} (h : w.ownsRow base e size v n xs) {p : Addr} (hp : v.ownBlock ≠ some p.block) (u : Value) : (w.setCell p u).ownsRow base e size v n xs := by
  obtain ⟨h1, h2⟩ := h
  refine ⟨h1, ?_⟩
  rcases h2 with h2 | ⟨g, cap, cur, hv, hg, hh, r⟩
  · exact .inl h2
  · subst hv
    exact .inr ⟨g, cap, cur, rfl, hg, block_far (fun e => hp (by rw [← e]; rfl)) hh, r⟩
section
variable {P : Program} {α : Type} {enc : α → List Value}
/-- A row is appended to nothing: a row of one's own. -/
theorem wpList_append_copy {w : World} {ops : Array Oper} {rest : List Oper} {o : Oper} {a : Act} {Q : Exit → Act → World → Prop} (hgd : o.guard = none) (s x : Operand) (t : TypeId)
    (ho : o.op = .call { callee := .builtin .append, args := #[s, x], argTypes := #[t, t] }) (base : Nat) (e : TypeId) (i : TypeInfo) (z : Value) (size bytes : Nat) (ht : P.underlying t = some (.slice e)) (hi : P.info? e = some i) (hz : i.zero = some z)
    (hsize : i.size = size) (hby : i.bytes = bytes) (hzs : z.cells.size = size) (hsz : 0 < size) (hs : a.eval s = .slice none 0 0) (a0 : Option Addr) (cap : Nat) (xs : List α) (hx : a.eval x = .slice a0 xs.length cap)
    (hrow : RowAt enc size w a0 cap xs) (hk : ∀ x, (enc x).length = size) (h1 : ∀ x, ∀ v ∈ enc x, v.oneCell' = true) (hn : xs.length * bytes ≤ 140737488355328) (h63 : xs.length ≤ maxLen) (hb : base ≤ w.heap.size) (H : Nat) (hH : w.heap.size = H)
    (h : ∀ a' cap' w', w'.ownsRow base e size (.slice a' xs.length cap') xs.length (flat enc xs) → Grow w w' → (∀ y, a' = some y → y.block = H) → wpList P ops Q rest (a.put o.dst (.slice a' xs.length cap')) w') : wpList P ops Q (o :: rest) a w := by
  by_cases hn0 : xs = []
  · subst hn0
    exact wpList_append_none hgd s x t ho e i ht hi hs a0 cap hx (h none 0 w ⟨by simp [flat], .inl ⟨rfl, rfl⟩⟩ (Grow.refl _) (fun y hy => by cases hy))
  · have hpos := List.length_pos_iff.2 hn0
    obtain ⟨b, off, rfl, _⟩ := hrow.at (List.getElem?_eq_getElem hpos)
    refine wpList_append_lies w hgd s x t ho base e i z size bytes ht hi hz hsize hby hzs hsz (.slice none 0 0) 0 [] hs (World.ownsRow_nil _ _ _ _) ⟨b, off, none⟩ xs.length cap (flat enc xs) hx (flat_length hk xs) (hrow.news hk) (flat_one h1 xs) hpos (by omega) (by rw [Nat.zero_add]; exact hn) hb H hH ?_
    intro g cap' w' hown hgrow hat _
    simp only [List.nil_append, Nat.zero_add] at hown
    rw [Nat.zero_add]
    exact h (some ⟨g, 0, none⟩) cap' w' hown (grow_of_grown' hgrow) (fun y hy => by
      cases hy
      rcases hat with h | h
      · cases h
      · exact h)
end
end Go.Proofs.Ytlioojekjnigiab
