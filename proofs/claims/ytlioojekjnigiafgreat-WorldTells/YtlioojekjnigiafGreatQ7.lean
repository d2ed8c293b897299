/- What is leaned on: part 7. -/
import Derived.Test.YtlioojekjnigiafGreatQ6
/- Worlds: the acts. -/
namespace Go.Proofs.YtlioojekjnigiafGreat.AM
set_option linter.unusedVariables false
set_option linter.unusedSimpArgs false
structure Act' where
  kind : Int
  at' : Int
  n : Int
  colors : Int
  text : ByteArray
def Act'.arg (x : Act') : AVal := .agg [dInt x.kind, dInt x.at', dInt x.n, dInt x.colors, .dat (.str x.text)]
set_option maxHeartbeats 0 in
theorem do_write0_no (a b : Site') (u v : List Entry') (c : Int) (t : ByteArray) (k : Int) (hs : SiteOk a) (h : appErr a c t ≠ 0) : ECall Tryz.prog 119 [.ptr 0 0, (⟨1, 0, k, c, t⟩ : Act').arg] [(0, .vars 184 2 [.row 1, .row 2] true), (1, .vars 32 3 (sitesC a b) true), (2, .vars 22 1 [.row 3, .row 4] true), (3, .rows 28 5 (u.map Entry'.enc) true), (4, .rows 28 5 (v.map Entry'.enc) true)] 5 (dInt (appErr a c t)) [(0, .vars 184 2 [.row 1, .row 2] true), (1, .vars 32 3 (sitesC a b) true), (2, .vars 22 1 [.row 3, .row 4] true), (3, .rows 28 5 (u.map Entry'.enc) true), (4, .rows 28 5 (v.map Entry'.enc) true)] 0 := by
  refine acall_cut tab_all tab_mixed Tryz.func119 (by kernel_rfl) Tryz.ntmps119 rfl ?_
  conv => whnf
  conv => whnf
  repeat (first | (refine Conf.mk (by kernel_rfl) ?_; conv => whnf) | (refine SeqOk.go ?_; conv => whnf))
  refine BoolCase.yes rfl ?_
  conv => whnf
  repeat (first | (refine Conf.mk (by kernel_rfl) ?_; conv => whnf) | (refine SeqOk.go ?_; conv => whnf))
  refine .eff [0, 1, 2, 3, 4] _ _ _ _ 0 (write0_no a b u v c t hs h) rfl rfl rfl rfl rfl ?_
  conv => whnf
  repeat (first | (refine Conf.mk (by kernel_rfl) ?_; conv => whnf) | (refine SeqOk.go ?_; conv => whnf))
  exact .mk [] [0, 1, 2, 3, 4] (dInt (appErr a c t)) [(0, .vars 184 2 [.row 1, .row 2] true), (1, .vars 32 3 (sitesC a b) true), (2, .vars 22 1 [.row 3, .row 4] true), (3, .rows 28 5 (u.map Entry'.enc) true), (4, .rows 28 5 (v.map Entry'.enc) true)] rfl (.same rfl) ⟨⟨rfl, rfl, rfl, .same rfl, rfl, .same rfl, rfl, trivial⟩, ⟨rfl, rfl, rfl, .same rfl, rfl, .same rfl, rfl, .same rfl, rfl, .same rfl, rfl, .same rfl, rfl, .same rfl, rfl, trivial⟩, ⟨rfl, rfl, rfl, .same rfl, rfl, .same rfl, rfl, trivial⟩, ⟨rfl, rfl, rfl, rfl⟩, ⟨rfl, rfl, rfl, rfl⟩, trivial⟩ rfl rfl ⟨rfl, rfl, rfl⟩
set_option maxHeartbeats 0 in
theorem do_write0_full (a b : Site') (u v : List Entry') (c : Int) (t : ByteArray) (k : Int) (hs : SiteOk a) (h : appErr a c t = 0) (hl : v.length ≤ 1000) (hf : 30 ≤ v.length) : ECall Tryz.prog 119 [.ptr 0 0, (⟨1, 0, k, c, t⟩ : Act').arg] [(0, .vars 184 2 [.row 1, .row 2] true), (1, .vars 32 3 (sitesC a b) true), (2, .vars 22 1 [.row 3, .row 4] true), (3, .rows 28 5 (u.map Entry'.enc) true), (4, .rows 28 5 (v.map Entry'.enc) true)] 5 (dInt 0) [(0, .vars 184 2 [.row 1, .row 2] true), (1, .vars 32 3 (sitesC (appAns a c t) b) true), (2, .vars 22 1 [.row 3, .row 4] true), (3, .rows 28 5 (u.map Entry'.enc) true), (4, .rows 28 5 (v.map Entry'.enc) true)] 0 := by
  refine acall_cut tab_all tab_mixed Tryz.func119 (by kernel_rfl) Tryz.ntmps119 rfl ?_
  conv => whnf
  conv => whnf
  repeat (first | (refine Conf.mk (by kernel_rfl) ?_; conv => whnf) | (refine SeqOk.go ?_; conv => whnf))
  refine BoolCase.yes rfl ?_
  conv => whnf
  repeat (first | (refine Conf.mk (by kernel_rfl) ?_; conv => whnf) | (refine SeqOk.go ?_; conv => whnf))
  refine .eff [0, 1, 2, 3, 4] _ _ _ _ 0 (write0_full a b u v c t hs h hl hf) rfl rfl rfl rfl rfl ?_
  conv => whnf
  repeat (first | (refine Conf.mk (by kernel_rfl) ?_; conv => whnf) | (refine SeqOk.go ?_; conv => whnf))
  exact .mk [] [0, 1, 2, 3, 4] (dInt 0) [(0, .vars 184 2 [.row 1, .row 2] true), (1, .vars 32 3 (sitesC (appAns a c t) b) true), (2, .vars 22 1 [.row 3, .row 4] true), (3, .rows 28 5 (u.map Entry'.enc) true), (4, .rows 28 5 (v.map Entry'.enc) true)] rfl (.same rfl) ⟨⟨rfl, rfl, rfl, .same rfl, rfl, .same rfl, rfl, trivial⟩, ⟨rfl, rfl, rfl, .same rfl, rfl, .same rfl, rfl, .same rfl, rfl, .same rfl, rfl, .same rfl, rfl, .same rfl, rfl, trivial⟩, ⟨rfl, rfl, rfl, .same rfl, rfl, .same rfl, rfl, trivial⟩, ⟨rfl, rfl, rfl, rfl⟩, ⟨rfl, rfl, rfl, rfl⟩, trivial⟩ rfl rfl ⟨rfl, rfl, rfl⟩
set_option maxHeartbeats 0 in
theorem do_write0_ok (a b : Site') (u v : List Entry') (c : Int) (t : ByteArray) (k : Int) (hs : SiteOk a) (h : appErr a c t = 0) (hl : v.length ≤ 1000) (hf : v.length < 30) : ECall Tryz.prog 119 [.ptr 0 0, (⟨1, 0, k, c, t⟩ : Act').arg] [(0, .vars 184 2 [.row 1, .row 2] true), (1, .vars 32 3 (sitesC a b) true), (2, .vars 22 1 [.row 3, .row 4] true), (3, .rows 28 5 (u.map Entry'.enc) true), (4, .rows 28 5 (v.map Entry'.enc) true)] 5 (dInt 0) [(0, .vars 184 2 [.row 1, .row 2] true), (1, .vars 32 3 (sitesC (appAns a c t) b) true), (2, .vars 22 1 [.row 3, .row 5] true), (3, .rows 28 5 (u.map Entry'.enc) true), (4, .dead), (5, .rows 28 5 ((v ++ [appE a c t]).map Entry'.enc) true)] 1 := by
  refine acall_cut tab_all tab_mixed Tryz.func119 (by kernel_rfl) Tryz.ntmps119 rfl ?_
  conv => whnf
  conv => whnf
  repeat (first | (refine Conf.mk (by kernel_rfl) ?_; conv => whnf) | (refine SeqOk.go ?_; conv => whnf))
  refine BoolCase.yes rfl ?_
  conv => whnf
  repeat (first | (refine Conf.mk (by kernel_rfl) ?_; conv => whnf) | (refine SeqOk.go ?_; conv => whnf))
  refine .eff [0, 1, 2, 3, 4] _ _ _ _ 1 (write0_ok a b u v c t hs h hl hf) rfl rfl rfl rfl rfl ?_
  conv => whnf
  repeat (first | (refine Conf.mk (by kernel_rfl) ?_; conv => whnf) | (refine SeqOk.go ?_; conv => whnf))
  exact .mk [] [0, 1, 2, 3, 4, 6] (dInt 0) [(0, .vars 184 2 [.row 1, .row 2] true), (1, .vars 32 3 (sitesC (appAns a c t) b) true), (2, .vars 22 1 [.row 3, .row 5] true), (3, .rows 28 5 (u.map Entry'.enc) true), (4, .dead), (5, .rows 28 5 ((v ++ [appE a c t]).map Entry'.enc) true)] rfl (.same rfl) ⟨⟨rfl, rfl, rfl, .same rfl, rfl, .same rfl, rfl, trivial⟩, ⟨rfl, rfl, rfl, .same rfl, rfl, .same rfl, rfl, .same rfl, rfl, .same rfl, rfl, .same rfl, rfl, .same rfl, rfl, trivial⟩, ⟨rfl, rfl, rfl, .same rfl, rfl, .same rfl, rfl, trivial⟩, ⟨rfl, rfl, rfl, rfl⟩, trivial, ⟨rfl, rfl, rfl, rfl⟩, trivial⟩ rfl rfl ⟨rfl, rfl, rfl⟩
set_option maxHeartbeats 0 in
theorem do_bring0_no (a b : Site') (u v : List Entry') (n : Int) (c : Int) (t : ByteArray) (hl : u.length ≤ 1000) (hn : n < 0 ∨ (u.length : Int) ≤ n) : ECall Tryz.prog 119 [.ptr 0 0, (⟨2, 0, n, c, t⟩ : Act').arg] [(0, .vars 184 2 [.row 1, .row 2] true), (1, .vars 32 3 (sitesC a b) true), (2, .vars 22 1 [.row 3, .row 4] true), (3, .rows 28 5 (u.map Entry'.enc) true), (4, .rows 28 5 (v.map Entry'.enc) true)] 5 (dInt 5) [(0, .vars 184 2 [.row 1, .row 2] true), (1, .vars 32 3 (sitesC a b) true), (2, .vars 22 1 [.row 3, .row 4] true), (3, .rows 28 5 (u.map Entry'.enc) true), (4, .rows 28 5 (v.map Entry'.enc) true)] 0 := by
  refine acall_cut tab_all tab_mixed Tryz.func119 (by kernel_rfl) Tryz.ntmps119 rfl ?_
  conv => whnf
  conv => whnf
  repeat (first | (refine Conf.mk (by kernel_rfl) ?_; conv => whnf) | (refine SeqOk.go ?_; conv => whnf))
  refine BoolCase.no rfl ?_
  conv => whnf
  repeat (first | (refine Conf.mk (by kernel_rfl) ?_; conv => whnf) | (refine SeqOk.go ?_; conv => whnf))
  refine BoolCase.yes rfl ?_
  conv => whnf
  repeat (first | (refine Conf.mk (by kernel_rfl) ?_; conv => whnf) | (refine SeqOk.go ?_; conv => whnf))
  refine .eff [0, 1, 2, 3, 4] _ _ _ _ 0 (bring0_no a b u v n hl hn) rfl rfl rfl rfl rfl ?_
  conv => whnf
  repeat (first | (refine Conf.mk (by kernel_rfl) ?_; conv => whnf) | (refine SeqOk.go ?_; conv => whnf))
  exact .mk [] [0, 1, 2, 3, 4] (dInt 5) [(0, .vars 184 2 [.row 1, .row 2] true), (1, .vars 32 3 (sitesC a b) true), (2, .vars 22 1 [.row 3, .row 4] true), (3, .rows 28 5 (u.map Entry'.enc) true), (4, .rows 28 5 (v.map Entry'.enc) true)] rfl (.same rfl) ⟨⟨rfl, rfl, rfl, .same rfl, rfl, .same rfl, rfl, trivial⟩, ⟨rfl, rfl, rfl, .same rfl, rfl, .same rfl, rfl, .same rfl, rfl, .same rfl, rfl, .same rfl, rfl, .same rfl, rfl, trivial⟩, ⟨rfl, rfl, rfl, .same rfl, rfl, .same rfl, rfl, trivial⟩, ⟨rfl, rfl, rfl, rfl⟩, ⟨rfl, rfl, rfl, rfl⟩, trivial⟩ rfl rfl ⟨rfl, rfl, rfl⟩
set_option maxHeartbeats 0 in
theorem do_bring0_ok (a b : Site') (u v : List Entry') (n : Nat) (c : Int) (t : ByteArray) (hl : u.length ≤ 1000) (hn : n < u.length) (hs : SiteOk a) (he : u[n].links.length ≤ 140737488355328) (hz : recvErr a u[n] = 0) : ECall Tryz.prog 119 [.ptr 0 0, (⟨2, 0, n, c, t⟩ : Act').arg] [(0, .vars 184 2 [.row 1, .row 2] true), (1, .vars 32 3 (sitesC a b) true), (2, .vars 22 1 [.row 3, .row 4] true), (3, .rows 28 5 (u.map Entry'.enc) true), (4, .rows 28 5 (v.map Entry'.enc) true)] 5 (dInt 0) [(0, .vars 184 2 [.row 1, .row 2] true), (1, .vars 32 3 (sitesC (recvAns a u[n]) b) true), (2, .vars 22 1 [.row 5, .row 4] true), (3, .dead), (4, .rows 28 5 (v.map Entry'.enc) true), (5, .rows 28 5 ((u.eraseIdx n).map Entry'.enc) true)] 1 := by
  refine acall_cut tab_all tab_mixed Tryz.func119 (by kernel_rfl) Tryz.ntmps119 rfl ?_
  conv => whnf
  conv => whnf
  repeat (first | (refine Conf.mk (by kernel_rfl) ?_; conv => whnf) | (refine SeqOk.go ?_; conv => whnf))
  refine BoolCase.no rfl ?_
  conv => whnf
  repeat (first | (refine Conf.mk (by kernel_rfl) ?_; conv => whnf) | (refine SeqOk.go ?_; conv => whnf))
  refine BoolCase.yes rfl ?_
  conv => whnf
  repeat (first | (refine Conf.mk (by kernel_rfl) ?_; conv => whnf) | (refine SeqOk.go ?_; conv => whnf))
  refine .eff [0, 1, 2, 3, 4] _ _ _ _ 1 (bring0_ok a b u v n hl hn hs he hz) rfl rfl rfl rfl rfl ?_
  conv => whnf
  repeat (first | (refine Conf.mk (by kernel_rfl) ?_; conv => whnf) | (refine SeqOk.go ?_; conv => whnf))
  exact .mk [] [0, 1, 2, 3, 4, 6] (dInt 0) [(0, .vars 184 2 [.row 1, .row 2] true), (1, .vars 32 3 (sitesC (recvAns a u[n]) b) true), (2, .vars 22 1 [.row 5, .row 4] true), (3, .dead), (4, .rows 28 5 (v.map Entry'.enc) true), (5, .rows 28 5 ((u.eraseIdx n).map Entry'.enc) true)] rfl (.same rfl) ⟨⟨rfl, rfl, rfl, .same rfl, rfl, .same rfl, rfl, trivial⟩, ⟨rfl, rfl, rfl, .same rfl, rfl, .same rfl, rfl, .same rfl, rfl, .same rfl, rfl, .same rfl, rfl, .same rfl, rfl, trivial⟩, ⟨rfl, rfl, rfl, .same rfl, rfl, .same rfl, rfl, trivial⟩, trivial, ⟨rfl, rfl, rfl, rfl⟩, ⟨rfl, rfl, rfl, rfl⟩, trivial⟩ rfl rfl ⟨rfl, rfl, rfl⟩
set_option maxHeartbeats 0 in
theorem do_lose0_no (a b : Site') (u v : List Entry') (n : Int) (c : Int) (t : ByteArray) (hl : u.length ≤ 1000) (hn : n < 0 ∨ (u.length : Int) ≤ n) : ECall Tryz.prog 119 [.ptr 0 0, (⟨3, 0, n, c, t⟩ : Act').arg] [(0, .vars 184 2 [.row 1, .row 2] true), (1, .vars 32 3 (sitesC a b) true), (2, .vars 22 1 [.row 3, .row 4] true), (3, .rows 28 5 (u.map Entry'.enc) true), (4, .rows 28 5 (v.map Entry'.enc) true)] 5 (dInt 5) [(0, .vars 184 2 [.row 1, .row 2] true), (1, .vars 32 3 (sitesC a b) true), (2, .vars 22 1 [.row 3, .row 4] true), (3, .rows 28 5 (u.map Entry'.enc) true), (4, .rows 28 5 (v.map Entry'.enc) true)] 0 := by
  refine acall_cut tab_all tab_mixed Tryz.func119 (by kernel_rfl) Tryz.ntmps119 rfl ?_
  conv => whnf
  conv => whnf
  repeat (first | (refine Conf.mk (by kernel_rfl) ?_; conv => whnf) | (refine SeqOk.go ?_; conv => whnf))
  refine BoolCase.no rfl ?_
  conv => whnf
  repeat (first | (refine Conf.mk (by kernel_rfl) ?_; conv => whnf) | (refine SeqOk.go ?_; conv => whnf))
  refine BoolCase.no rfl ?_
  conv => whnf
  repeat (first | (refine Conf.mk (by kernel_rfl) ?_; conv => whnf) | (refine SeqOk.go ?_; conv => whnf))
  refine BoolCase.yes rfl ?_
  conv => whnf
  repeat (first | (refine Conf.mk (by kernel_rfl) ?_; conv => whnf) | (refine SeqOk.go ?_; conv => whnf))
  refine .eff [0, 1, 2, 3, 4] _ _ _ _ 0 (take0_no a b u v n hl hn) rfl rfl rfl rfl rfl ?_
  conv => whnf
  repeat (first | (refine Conf.mk (by kernel_rfl) ?_; conv => whnf) | (refine SeqOk.go ?_; conv => whnf))
  exact .mk [] [0, 1, 2, 3, 4] (dInt 5) [(0, .vars 184 2 [.row 1, .row 2] true), (1, .vars 32 3 (sitesC a b) true), (2, .vars 22 1 [.row 3, .row 4] true), (3, .rows 28 5 (u.map Entry'.enc) true), (4, .rows 28 5 (v.map Entry'.enc) true)] rfl (.same rfl) ⟨⟨rfl, rfl, rfl, .same rfl, rfl, .same rfl, rfl, trivial⟩, ⟨rfl, rfl, rfl, .same rfl, rfl, .same rfl, rfl, .same rfl, rfl, .same rfl, rfl, .same rfl, rfl, .same rfl, rfl, trivial⟩, ⟨rfl, rfl, rfl, .same rfl, rfl, .same rfl, rfl, trivial⟩, ⟨rfl, rfl, rfl, rfl⟩, ⟨rfl, rfl, rfl, rfl⟩, trivial⟩ rfl rfl ⟨rfl, rfl, rfl⟩
set_option maxHeartbeats 0 in
theorem do_lose0_ok (a b : Site') (u v : List Entry') (n : Nat) (c : Int) (t : ByteArray) (hl : u.length ≤ 1000) (hn : n < u.length) : ECall Tryz.prog 119 [.ptr 0 0, (⟨3, 0, n, c, t⟩ : Act').arg] [(0, .vars 184 2 [.row 1, .row 2] true), (1, .vars 32 3 (sitesC a b) true), (2, .vars 22 1 [.row 3, .row 4] true), (3, .rows 28 5 (u.map Entry'.enc) true), (4, .rows 28 5 (v.map Entry'.enc) true)] 5 (dInt 0) [(0, .vars 184 2 [.row 1, .row 2] true), (1, .vars 32 3 (sitesC a b) true), (2, .vars 22 1 [.row 5, .row 4] true), (3, .dead), (4, .rows 28 5 (v.map Entry'.enc) true), (5, .rows 28 5 ((u.eraseIdx n).map Entry'.enc) true)] 1 := by
  refine acall_cut tab_all tab_mixed Tryz.func119 (by kernel_rfl) Tryz.ntmps119 rfl ?_
  conv => whnf
  conv => whnf
  repeat (first | (refine Conf.mk (by kernel_rfl) ?_; conv => whnf) | (refine SeqOk.go ?_; conv => whnf))
  refine BoolCase.no rfl ?_
  conv => whnf
  repeat (first | (refine Conf.mk (by kernel_rfl) ?_; conv => whnf) | (refine SeqOk.go ?_; conv => whnf))
  refine BoolCase.no rfl ?_
  conv => whnf
  repeat (first | (refine Conf.mk (by kernel_rfl) ?_; conv => whnf) | (refine SeqOk.go ?_; conv => whnf))
  refine BoolCase.yes rfl ?_
  conv => whnf
  repeat (first | (refine Conf.mk (by kernel_rfl) ?_; conv => whnf) | (refine SeqOk.go ?_; conv => whnf))
  refine .eff [0, 1, 2, 3, 4] _ _ _ _ 1 (take0_ok a b u v n hl hn) rfl rfl rfl rfl rfl ?_
  conv => whnf
  repeat (first | (refine Conf.mk (by kernel_rfl) ?_; conv => whnf) | (refine SeqOk.go ?_; conv => whnf))
  exact .mk [] [0, 1, 2, 3, 4, 6] (dInt 0) [(0, .vars 184 2 [.row 1, .row 2] true), (1, .vars 32 3 (sitesC a b) true), (2, .vars 22 1 [.row 5, .row 4] true), (3, .dead), (4, .rows 28 5 (v.map Entry'.enc) true), (5, .rows 28 5 ((u.eraseIdx n).map Entry'.enc) true)] rfl (.same rfl) ⟨⟨rfl, rfl, rfl, .same rfl, rfl, .same rfl, rfl, trivial⟩, ⟨rfl, rfl, rfl, .same rfl, rfl, .same rfl, rfl, .same rfl, rfl, .same rfl, rfl, .same rfl, rfl, .same rfl, rfl, trivial⟩, ⟨rfl, rfl, rfl, .same rfl, rfl, .same rfl, rfl, trivial⟩, trivial, ⟨rfl, rfl, rfl, rfl⟩, ⟨rfl, rfl, rfl, rfl⟩, trivial⟩ rfl rfl ⟨rfl, rfl, rfl⟩
set_option maxHeartbeats 0 in
theorem do_again0_no (a b : Site') (u v : List Entry') (n : Int) (c : Int) (t : ByteArray) (hl : u.length ≤ 1000) (hn : n < 0 ∨ (u.length : Int) ≤ n) : ECall Tryz.prog 119 [.ptr 0 0, (⟨4, 0, n, c, t⟩ : Act').arg] [(0, .vars 184 2 [.row 1, .row 2] true), (1, .vars 32 3 (sitesC a b) true), (2, .vars 22 1 [.row 3, .row 4] true), (3, .rows 28 5 (u.map Entry'.enc) true), (4, .rows 28 5 (v.map Entry'.enc) true)] 5 (dInt 5) [(0, .vars 184 2 [.row 1, .row 2] true), (1, .vars 32 3 (sitesC a b) true), (2, .vars 22 1 [.row 3, .row 4] true), (3, .rows 28 5 (u.map Entry'.enc) true), (4, .rows 28 5 (v.map Entry'.enc) true)] 0 := by
  refine acall_cut tab_all tab_mixed Tryz.func119 (by kernel_rfl) Tryz.ntmps119 rfl ?_
  conv => whnf
  conv => whnf
  repeat (first | (refine Conf.mk (by kernel_rfl) ?_; conv => whnf) | (refine SeqOk.go ?_; conv => whnf))
  refine BoolCase.no rfl ?_
  conv => whnf
  repeat (first | (refine Conf.mk (by kernel_rfl) ?_; conv => whnf) | (refine SeqOk.go ?_; conv => whnf))
  refine BoolCase.no rfl ?_
  conv => whnf
  repeat (first | (refine Conf.mk (by kernel_rfl) ?_; conv => whnf) | (refine SeqOk.go ?_; conv => whnf))
  refine BoolCase.no rfl ?_
  conv => whnf
  repeat (first | (refine Conf.mk (by kernel_rfl) ?_; conv => whnf) | (refine SeqOk.go ?_; conv => whnf))
  refine BoolCase.yes rfl ?_
  conv => whnf
  repeat (first | (refine Conf.mk (by kernel_rfl) ?_; conv => whnf) | (refine SeqOk.go ?_; conv => whnf))
  refine .eff [0, 1, 2, 3, 4] _ _ _ _ 0 (again0_no a b u v n hl hn) rfl rfl rfl rfl rfl ?_
  conv => whnf
  repeat (first | (refine Conf.mk (by kernel_rfl) ?_; conv => whnf) | (refine SeqOk.go ?_; conv => whnf))
  exact .mk [] [0, 1, 2, 3, 4] (dInt 5) [(0, .vars 184 2 [.row 1, .row 2] true), (1, .vars 32 3 (sitesC a b) true), (2, .vars 22 1 [.row 3, .row 4] true), (3, .rows 28 5 (u.map Entry'.enc) true), (4, .rows 28 5 (v.map Entry'.enc) true)] rfl (.same rfl) ⟨⟨rfl, rfl, rfl, .same rfl, rfl, .same rfl, rfl, trivial⟩, ⟨rfl, rfl, rfl, .same rfl, rfl, .same rfl, rfl, .same rfl, rfl, .same rfl, rfl, .same rfl, rfl, .same rfl, rfl, trivial⟩, ⟨rfl, rfl, rfl, .same rfl, rfl, .same rfl, rfl, trivial⟩, ⟨rfl, rfl, rfl, rfl⟩, ⟨rfl, rfl, rfl, rfl⟩, trivial⟩ rfl rfl ⟨rfl, rfl, rfl⟩
set_option maxHeartbeats 0 in
theorem do_again0_full (a b : Site') (u v : List Entry') (n : Nat) (c : Int) (t : ByteArray) (hl : u.length ≤ 1000) (hn : n < u.length) (hf : u.length = 30) : ECall Tryz.prog 119 [.ptr 0 0, (⟨4, 0, n, c, t⟩ : Act').arg] [(0, .vars 184 2 [.row 1, .row 2] true), (1, .vars 32 3 (sitesC a b) true), (2, .vars 22 1 [.row 3, .row 4] true), (3, .rows 28 5 (u.map Entry'.enc) true), (4, .rows 28 5 (v.map Entry'.enc) true)] 5 (dInt 2) [(0, .vars 184 2 [.row 1, .row 2] true), (1, .vars 32 3 (sitesC a b) true), (2, .vars 22 1 [.row 3, .row 4] true), (3, .rows 28 5 (u.map Entry'.enc) true), (4, .rows 28 5 (v.map Entry'.enc) true)] 0 := by
  refine acall_cut tab_all tab_mixed Tryz.func119 (by kernel_rfl) Tryz.ntmps119 rfl ?_
  conv => whnf
  conv => whnf
  repeat (first | (refine Conf.mk (by kernel_rfl) ?_; conv => whnf) | (refine SeqOk.go ?_; conv => whnf))
  refine BoolCase.no rfl ?_
  conv => whnf
  repeat (first | (refine Conf.mk (by kernel_rfl) ?_; conv => whnf) | (refine SeqOk.go ?_; conv => whnf))
  refine BoolCase.no rfl ?_
  conv => whnf
  repeat (first | (refine Conf.mk (by kernel_rfl) ?_; conv => whnf) | (refine SeqOk.go ?_; conv => whnf))
  refine BoolCase.no rfl ?_
  conv => whnf
  repeat (first | (refine Conf.mk (by kernel_rfl) ?_; conv => whnf) | (refine SeqOk.go ?_; conv => whnf))
  refine BoolCase.yes rfl ?_
  conv => whnf
  repeat (first | (refine Conf.mk (by kernel_rfl) ?_; conv => whnf) | (refine SeqOk.go ?_; conv => whnf))
  refine .eff [0, 1, 2, 3, 4] _ _ _ _ 0 (again0_full a b u v n hl hn hf) rfl rfl rfl rfl rfl ?_
  conv => whnf
  repeat (first | (refine Conf.mk (by kernel_rfl) ?_; conv => whnf) | (refine SeqOk.go ?_; conv => whnf))
  exact .mk [] [0, 1, 2, 3, 4] (dInt 2) [(0, .vars 184 2 [.row 1, .row 2] true), (1, .vars 32 3 (sitesC a b) true), (2, .vars 22 1 [.row 3, .row 4] true), (3, .rows 28 5 (u.map Entry'.enc) true), (4, .rows 28 5 (v.map Entry'.enc) true)] rfl (.same rfl) ⟨⟨rfl, rfl, rfl, .same rfl, rfl, .same rfl, rfl, trivial⟩, ⟨rfl, rfl, rfl, .same rfl, rfl, .same rfl, rfl, .same rfl, rfl, .same rfl, rfl, .same rfl, rfl, .same rfl, rfl, trivial⟩, ⟨rfl, rfl, rfl, .same rfl, rfl, .same rfl, rfl, trivial⟩, ⟨rfl, rfl, rfl, rfl⟩, ⟨rfl, rfl, rfl, rfl⟩, trivial⟩ rfl rfl ⟨rfl, rfl, rfl⟩
set_option maxHeartbeats 0 in
theorem do_again0_ok (a b : Site') (u v : List Entry') (n : Nat) (c : Int) (t : ByteArray) (hl : u.length ≤ 1000) (hn : n < u.length) (hf : u.length ≠ 30) (he : u[n].links.length ≤ 1000) : ECall Tryz.prog 119 [.ptr 0 0, (⟨4, 0, n, c, t⟩ : Act').arg] [(0, .vars 184 2 [.row 1, .row 2] true), (1, .vars 32 3 (sitesC a b) true), (2, .vars 22 1 [.row 3, .row 4] true), (3, .rows 28 5 (u.map Entry'.enc) true), (4, .rows 28 5 (v.map Entry'.enc) true)] 5 (dInt 0) [(0, .vars 184 2 [.row 1, .row 2] true), (1, .vars 32 3 (sitesC a b) true), (2, .vars 22 1 [.row 5, .row 4] true), (3, .dead), (4, .rows 28 5 (v.map Entry'.enc) true), (5, .rows 28 5 ((u ++ [u[n]]).map Entry'.enc) true)] 1 := by
  refine acall_cut tab_all tab_mixed Tryz.func119 (by kernel_rfl) Tryz.ntmps119 rfl ?_
  conv => whnf
  conv => whnf
  repeat (first | (refine Conf.mk (by kernel_rfl) ?_; conv => whnf) | (refine SeqOk.go ?_; conv => whnf))
  refine BoolCase.no rfl ?_
  conv => whnf
  repeat (first | (refine Conf.mk (by kernel_rfl) ?_; conv => whnf) | (refine SeqOk.go ?_; conv => whnf))
  refine BoolCase.no rfl ?_
  conv => whnf
  repeat (first | (refine Conf.mk (by kernel_rfl) ?_; conv => whnf) | (refine SeqOk.go ?_; conv => whnf))
  refine BoolCase.no rfl ?_
  conv => whnf
  repeat (first | (refine Conf.mk (by kernel_rfl) ?_; conv => whnf) | (refine SeqOk.go ?_; conv => whnf))
  refine BoolCase.yes rfl ?_
  conv => whnf
  repeat (first | (refine Conf.mk (by kernel_rfl) ?_; conv => whnf) | (refine SeqOk.go ?_; conv => whnf))
  refine .eff [0, 1, 2, 3, 4] _ _ _ _ 1 (again0_ok a b u v n hl hn hf he) rfl rfl rfl rfl rfl ?_
  conv => whnf
  repeat (first | (refine Conf.mk (by kernel_rfl) ?_; conv => whnf) | (refine SeqOk.go ?_; conv => whnf))
  exact .mk [] [0, 1, 2, 3, 4, 6] (dInt 0) [(0, .vars 184 2 [.row 1, .row 2] true), (1, .vars 32 3 (sitesC a b) true), (2, .vars 22 1 [.row 5, .row 4] true), (3, .dead), (4, .rows 28 5 (v.map Entry'.enc) true), (5, .rows 28 5 ((u ++ [u[n]]).map Entry'.enc) true)] rfl (.same rfl) ⟨⟨rfl, rfl, rfl, .same rfl, rfl, .same rfl, rfl, trivial⟩, ⟨rfl, rfl, rfl, .same rfl, rfl, .same rfl, rfl, .same rfl, rfl, .same rfl, rfl, .same rfl, rfl, .same rfl, rfl, trivial⟩, ⟨rfl, rfl, rfl, .same rfl, rfl, .same rfl, rfl, trivial⟩, trivial, ⟨rfl, rfl, rfl, rfl⟩, ⟨rfl, rfl, rfl, rfl⟩, trivial⟩ rfl rfl ⟨rfl, rfl, rfl⟩
set_option maxHeartbeats 0 in
theorem do_all0_ok (a b : Site') (u v : List Entry') (n c : Int) (t : ByteArray) (hs : SiteR a) (hi : a.region = 0) (ht : Right b.log) : ECall Tryz.prog 119 [.ptr 0 0, (⟨5, 0, n, c, t⟩ : Act').arg] [(0, .vars 184 2 [.row 1, .row 2] true), (1, .vars 32 3 (sitesC a b) true), (2, .vars 22 1 [.row 3, .row 4] true), (3, .rows 28 5 (u.map Entry'.enc) true), (4, .rows 28 5 (v.map Entry'.enc) true)] 5 (dInt 0) [(0, .vars 184 2 [.row 1, .row 2] true), (1, .vars 32 3 (sitesC (bring a (ownOf b.log 1)) b) true), (2, .vars 22 1 [.row 3, .row 4] true), (3, .rows 28 5 (u.map Entry'.enc) true), (4, .rows 28 5 (v.map Entry'.enc) true)] 0 := by
  refine acall_cut tab_all tab_mixed Tryz.func119 (by kernel_rfl) Tryz.ntmps119 rfl ?_
  conv => whnf
  conv => whnf
  repeat (first | (refine Conf.mk (by kernel_rfl) ?_; conv => whnf) | (refine SeqOk.go ?_; conv => whnf))
  refine BoolCase.no rfl ?_
  conv => whnf
  repeat (first | (refine Conf.mk (by kernel_rfl) ?_; conv => whnf) | (refine SeqOk.go ?_; conv => whnf))
  refine BoolCase.no rfl ?_
  conv => whnf
  repeat (first | (refine Conf.mk (by kernel_rfl) ?_; conv => whnf) | (refine SeqOk.go ?_; conv => whnf))
  refine BoolCase.no rfl ?_
  conv => whnf
  repeat (first | (refine Conf.mk (by kernel_rfl) ?_; conv => whnf) | (refine SeqOk.go ?_; conv => whnf))
  refine BoolCase.no rfl ?_
  conv => whnf
  repeat (first | (refine Conf.mk (by kernel_rfl) ?_; conv => whnf) | (refine SeqOk.go ?_; conv => whnf))
  refine .eff [0, 1, 2, 3, 4] _ _ _ _ 0 (bringAll0_ok a b u v hs hi ht) rfl rfl rfl rfl rfl ?_
  conv => whnf
  repeat (first | (refine Conf.mk (by kernel_rfl) ?_; conv => whnf) | (refine SeqOk.go ?_; conv => whnf))
  exact .mk [] [0, 1, 2, 3, 4] (dInt 0) [(0, .vars 184 2 [.row 1, .row 2] true), (1, .vars 32 3 (sitesC (bring a (ownOf b.log 1)) b) true), (2, .vars 22 1 [.row 3, .row 4] true), (3, .rows 28 5 (u.map Entry'.enc) true), (4, .rows 28 5 (v.map Entry'.enc) true)] rfl (.same rfl) ⟨⟨rfl, rfl, rfl, .same rfl, rfl, .same rfl, rfl, trivial⟩, ⟨rfl, rfl, rfl, .same rfl, rfl, .same rfl, rfl, .same rfl, rfl, .same rfl, rfl, .same rfl, rfl, .same rfl, rfl, trivial⟩, ⟨rfl, rfl, rfl, .same rfl, rfl, .same rfl, rfl, trivial⟩, ⟨rfl, rfl, rfl, rfl⟩, ⟨rfl, rfl, rfl, rfl⟩, trivial⟩ rfl rfl ⟨rfl, rfl, rfl⟩
set_option maxHeartbeats 0 in
theorem do_write1_no (a b : Site') (u v : List Entry') (c : Int) (t : ByteArray) (k : Int) (hs : SiteOk b) (h : appErr b c t ≠ 0) : ECall Tryz.prog 119 [.ptr 0 0, (⟨1, 1, k, c, t⟩ : Act').arg] [(0, .vars 184 2 [.row 1, .row 2] true), (1, .vars 32 3 (sitesC a b) true), (2, .vars 22 1 [.row 3, .row 4] true), (3, .rows 28 5 (u.map Entry'.enc) true), (4, .rows 28 5 (v.map Entry'.enc) true)] 5 (dInt (appErr b c t)) [(0, .vars 184 2 [.row 1, .row 2] true), (1, .vars 32 3 (sitesC a b) true), (2, .vars 22 1 [.row 3, .row 4] true), (3, .rows 28 5 (u.map Entry'.enc) true), (4, .rows 28 5 (v.map Entry'.enc) true)] 0 := by
  refine acall_cut tab_all tab_mixed Tryz.func119 (by kernel_rfl) Tryz.ntmps119 rfl ?_
  conv => whnf
  conv => whnf
  repeat (first | (refine Conf.mk (by kernel_rfl) ?_; conv => whnf) | (refine SeqOk.go ?_; conv => whnf))
  refine BoolCase.yes rfl ?_
  conv => whnf
  repeat (first | (refine Conf.mk (by kernel_rfl) ?_; conv => whnf) | (refine SeqOk.go ?_; conv => whnf))
  refine .eff [0, 1, 2, 3, 4] _ _ _ _ 0 (write1_no a b u v c t hs h) rfl rfl rfl rfl rfl ?_
  conv => whnf
  repeat (first | (refine Conf.mk (by kernel_rfl) ?_; conv => whnf) | (refine SeqOk.go ?_; conv => whnf))
  exact .mk [] [0, 1, 2, 3, 4] (dInt (appErr b c t)) [(0, .vars 184 2 [.row 1, .row 2] true), (1, .vars 32 3 (sitesC a b) true), (2, .vars 22 1 [.row 3, .row 4] true), (3, .rows 28 5 (u.map Entry'.enc) true), (4, .rows 28 5 (v.map Entry'.enc) true)] rfl (.same rfl) ⟨⟨rfl, rfl, rfl, .same rfl, rfl, .same rfl, rfl, trivial⟩, ⟨rfl, rfl, rfl, .same rfl, rfl, .same rfl, rfl, .same rfl, rfl, .same rfl, rfl, .same rfl, rfl, .same rfl, rfl, trivial⟩, ⟨rfl, rfl, rfl, .same rfl, rfl, .same rfl, rfl, trivial⟩, ⟨rfl, rfl, rfl, rfl⟩, ⟨rfl, rfl, rfl, rfl⟩, trivial⟩ rfl rfl ⟨rfl, rfl, rfl⟩
set_option maxHeartbeats 0 in
theorem do_write1_full (a b : Site') (u v : List Entry') (c : Int) (t : ByteArray) (k : Int) (hs : SiteOk b) (h : appErr b c t = 0) (hl : u.length ≤ 1000) (hf : 30 ≤ u.length) : ECall Tryz.prog 119 [.ptr 0 0, (⟨1, 1, k, c, t⟩ : Act').arg] [(0, .vars 184 2 [.row 1, .row 2] true), (1, .vars 32 3 (sitesC a b) true), (2, .vars 22 1 [.row 3, .row 4] true), (3, .rows 28 5 (u.map Entry'.enc) true), (4, .rows 28 5 (v.map Entry'.enc) true)] 5 (dInt 0) [(0, .vars 184 2 [.row 1, .row 2] true), (1, .vars 32 3 (sitesC a (appAns b c t)) true), (2, .vars 22 1 [.row 3, .row 4] true), (3, .rows 28 5 (u.map Entry'.enc) true), (4, .rows 28 5 (v.map Entry'.enc) true)] 0 := by
  refine acall_cut tab_all tab_mixed Tryz.func119 (by kernel_rfl) Tryz.ntmps119 rfl ?_
  conv => whnf
  conv => whnf
  repeat (first | (refine Conf.mk (by kernel_rfl) ?_; conv => whnf) | (refine SeqOk.go ?_; conv => whnf))
  refine BoolCase.yes rfl ?_
  conv => whnf
  repeat (first | (refine Conf.mk (by kernel_rfl) ?_; conv => whnf) | (refine SeqOk.go ?_; conv => whnf))
  refine .eff [0, 1, 2, 3, 4] _ _ _ _ 0 (write1_full a b u v c t hs h hl hf) rfl rfl rfl rfl rfl ?_
  conv => whnf
  repeat (first | (refine Conf.mk (by kernel_rfl) ?_; conv => whnf) | (refine SeqOk.go ?_; conv => whnf))
  exact .mk [] [0, 1, 2, 3, 4] (dInt 0) [(0, .vars 184 2 [.row 1, .row 2] true), (1, .vars 32 3 (sitesC a (appAns b c t)) true), (2, .vars 22 1 [.row 3, .row 4] true), (3, .rows 28 5 (u.map Entry'.enc) true), (4, .rows 28 5 (v.map Entry'.enc) true)] rfl (.same rfl) ⟨⟨rfl, rfl, rfl, .same rfl, rfl, .same rfl, rfl, trivial⟩, ⟨rfl, rfl, rfl, .same rfl, rfl, .same rfl, rfl, .same rfl, rfl, .same rfl, rfl, .same rfl, rfl, .same rfl, rfl, trivial⟩, ⟨rfl, rfl, rfl, .same rfl, rfl, .same rfl, rfl, trivial⟩, ⟨rfl, rfl, rfl, rfl⟩, ⟨rfl, rfl, rfl, rfl⟩, trivial⟩ rfl rfl ⟨rfl, rfl, rfl⟩
set_option maxHeartbeats 0 in
theorem do_write1_ok (a b : Site') (u v : List Entry') (c : Int) (t : ByteArray) (k : Int) (hs : SiteOk b) (h : appErr b c t = 0) (hl : u.length ≤ 1000) (hf : u.length < 30) : ECall Tryz.prog 119 [.ptr 0 0, (⟨1, 1, k, c, t⟩ : Act').arg] [(0, .vars 184 2 [.row 1, .row 2] true), (1, .vars 32 3 (sitesC a b) true), (2, .vars 22 1 [.row 3, .row 4] true), (3, .rows 28 5 (u.map Entry'.enc) true), (4, .rows 28 5 (v.map Entry'.enc) true)] 5 (dInt 0) [(0, .vars 184 2 [.row 1, .row 2] true), (1, .vars 32 3 (sitesC a (appAns b c t)) true), (2, .vars 22 1 [.row 5, .row 4] true), (3, .dead), (4, .rows 28 5 (v.map Entry'.enc) true), (5, .rows 28 5 ((u ++ [appE b c t]).map Entry'.enc) true)] 1 := by
  refine acall_cut tab_all tab_mixed Tryz.func119 (by kernel_rfl) Tryz.ntmps119 rfl ?_
  conv => whnf
  conv => whnf
  repeat (first | (refine Conf.mk (by kernel_rfl) ?_; conv => whnf) | (refine SeqOk.go ?_; conv => whnf))
  refine BoolCase.yes rfl ?_
  conv => whnf
  repeat (first | (refine Conf.mk (by kernel_rfl) ?_; conv => whnf) | (refine SeqOk.go ?_; conv => whnf))
  refine .eff [0, 1, 2, 3, 4] _ _ _ _ 1 (write1_ok a b u v c t hs h hl hf) rfl rfl rfl rfl rfl ?_
  conv => whnf
  repeat (first | (refine Conf.mk (by kernel_rfl) ?_; conv => whnf) | (refine SeqOk.go ?_; conv => whnf))
  exact .mk [] [0, 1, 2, 3, 4, 6] (dInt 0) [(0, .vars 184 2 [.row 1, .row 2] true), (1, .vars 32 3 (sitesC a (appAns b c t)) true), (2, .vars 22 1 [.row 5, .row 4] true), (3, .dead), (4, .rows 28 5 (v.map Entry'.enc) true), (5, .rows 28 5 ((u ++ [appE b c t]).map Entry'.enc) true)] rfl (.same rfl) ⟨⟨rfl, rfl, rfl, .same rfl, rfl, .same rfl, rfl, trivial⟩, ⟨rfl, rfl, rfl, .same rfl, rfl, .same rfl, rfl, .same rfl, rfl, .same rfl, rfl, .same rfl, rfl, .same rfl, rfl, trivial⟩, ⟨rfl, rfl, rfl, .same rfl, rfl, .same rfl, rfl, trivial⟩, trivial, ⟨rfl, rfl, rfl, rfl⟩, ⟨rfl, rfl, rfl, rfl⟩, trivial⟩ rfl rfl ⟨rfl, rfl, rfl⟩
set_option maxHeartbeats 0 in
theorem do_bring1_no (a b : Site') (u v : List Entry') (n : Int) (c : Int) (t : ByteArray) (hl : v.length ≤ 1000) (hn : n < 0 ∨ (v.length : Int) ≤ n) : ECall Tryz.prog 119 [.ptr 0 0, (⟨2, 1, n, c, t⟩ : Act').arg] [(0, .vars 184 2 [.row 1, .row 2] true), (1, .vars 32 3 (sitesC a b) true), (2, .vars 22 1 [.row 3, .row 4] true), (3, .rows 28 5 (u.map Entry'.enc) true), (4, .rows 28 5 (v.map Entry'.enc) true)] 5 (dInt 5) [(0, .vars 184 2 [.row 1, .row 2] true), (1, .vars 32 3 (sitesC a b) true), (2, .vars 22 1 [.row 3, .row 4] true), (3, .rows 28 5 (u.map Entry'.enc) true), (4, .rows 28 5 (v.map Entry'.enc) true)] 0 := by
  refine acall_cut tab_all tab_mixed Tryz.func119 (by kernel_rfl) Tryz.ntmps119 rfl ?_
  conv => whnf
  conv => whnf
  repeat (first | (refine Conf.mk (by kernel_rfl) ?_; conv => whnf) | (refine SeqOk.go ?_; conv => whnf))
  refine BoolCase.no rfl ?_
  conv => whnf
  repeat (first | (refine Conf.mk (by kernel_rfl) ?_; conv => whnf) | (refine SeqOk.go ?_; conv => whnf))
  refine BoolCase.yes rfl ?_
  conv => whnf
  repeat (first | (refine Conf.mk (by kernel_rfl) ?_; conv => whnf) | (refine SeqOk.go ?_; conv => whnf))
  refine .eff [0, 1, 2, 3, 4] _ _ _ _ 0 (bring1_no a b u v n hl hn) rfl rfl rfl rfl rfl ?_
  conv => whnf
  repeat (first | (refine Conf.mk (by kernel_rfl) ?_; conv => whnf) | (refine SeqOk.go ?_; conv => whnf))
  exact .mk [] [0, 1, 2, 3, 4] (dInt 5) [(0, .vars 184 2 [.row 1, .row 2] true), (1, .vars 32 3 (sitesC a b) true), (2, .vars 22 1 [.row 3, .row 4] true), (3, .rows 28 5 (u.map Entry'.enc) true), (4, .rows 28 5 (v.map Entry'.enc) true)] rfl (.same rfl) ⟨⟨rfl, rfl, rfl, .same rfl, rfl, .same rfl, rfl, trivial⟩, ⟨rfl, rfl, rfl, .same rfl, rfl, .same rfl, rfl, .same rfl, rfl, .same rfl, rfl, .same rfl, rfl, .same rfl, rfl, trivial⟩, ⟨rfl, rfl, rfl, .same rfl, rfl, .same rfl, rfl, trivial⟩, ⟨rfl, rfl, rfl, rfl⟩, ⟨rfl, rfl, rfl, rfl⟩, trivial⟩ rfl rfl ⟨rfl, rfl, rfl⟩
set_option maxHeartbeats 0 in
theorem do_bring1_ok (a b : Site') (u v : List Entry') (n : Nat) (c : Int) (t : ByteArray) (hl : v.length ≤ 1000) (hn : n < v.length) (hs : SiteOk b) (he : v[n].links.length ≤ 140737488355328) (hz : recvErr b v[n] = 0) : ECall Tryz.prog 119 [.ptr 0 0, (⟨2, 1, n, c, t⟩ : Act').arg] [(0, .vars 184 2 [.row 1, .row 2] true), (1, .vars 32 3 (sitesC a b) true), (2, .vars 22 1 [.row 3, .row 4] true), (3, .rows 28 5 (u.map Entry'.enc) true), (4, .rows 28 5 (v.map Entry'.enc) true)] 5 (dInt 0) [(0, .vars 184 2 [.row 1, .row 2] true), (1, .vars 32 3 (sitesC a (recvAns b v[n])) true), (2, .vars 22 1 [.row 3, .row 5] true), (3, .rows 28 5 (u.map Entry'.enc) true), (4, .dead), (5, .rows 28 5 ((v.eraseIdx n).map Entry'.enc) true)] 1 := by
  refine acall_cut tab_all tab_mixed Tryz.func119 (by kernel_rfl) Tryz.ntmps119 rfl ?_
  conv => whnf
  conv => whnf
  repeat (first | (refine Conf.mk (by kernel_rfl) ?_; conv => whnf) | (refine SeqOk.go ?_; conv => whnf))
  refine BoolCase.no rfl ?_
  conv => whnf
  repeat (first | (refine Conf.mk (by kernel_rfl) ?_; conv => whnf) | (refine SeqOk.go ?_; conv => whnf))
  refine BoolCase.yes rfl ?_
  conv => whnf
  repeat (first | (refine Conf.mk (by kernel_rfl) ?_; conv => whnf) | (refine SeqOk.go ?_; conv => whnf))
  refine .eff [0, 1, 2, 3, 4] _ _ _ _ 1 (bring1_ok a b u v n hl hn hs he hz) rfl rfl rfl rfl rfl ?_
  conv => whnf
  repeat (first | (refine Conf.mk (by kernel_rfl) ?_; conv => whnf) | (refine SeqOk.go ?_; conv => whnf))
  exact .mk [] [0, 1, 2, 3, 4, 6] (dInt 0) [(0, .vars 184 2 [.row 1, .row 2] true), (1, .vars 32 3 (sitesC a (recvAns b v[n])) true), (2, .vars 22 1 [.row 3, .row 5] true), (3, .rows 28 5 (u.map Entry'.enc) true), (4, .dead), (5, .rows 28 5 ((v.eraseIdx n).map Entry'.enc) true)] rfl (.same rfl) ⟨⟨rfl, rfl, rfl, .same rfl, rfl, .same rfl, rfl, trivial⟩, ⟨rfl, rfl, rfl, .same rfl, rfl, .same rfl, rfl, .same rfl, rfl, .same rfl, rfl, .same rfl, rfl, .same rfl, rfl, trivial⟩, ⟨rfl, rfl, rfl, .same rfl, rfl, .same rfl, rfl, trivial⟩, ⟨rfl, rfl, rfl, rfl⟩, trivial, ⟨rfl, rfl, rfl, rfl⟩, trivial⟩ rfl rfl ⟨rfl, rfl, rfl⟩
set_option maxHeartbeats 0 in
theorem do_lose1_no (a b : Site') (u v : List Entry') (n : Int) (c : Int) (t : ByteArray) (hl : v.length ≤ 1000) (hn : n < 0 ∨ (v.length : Int) ≤ n) : ECall Tryz.prog 119 [.ptr 0 0, (⟨3, 1, n, c, t⟩ : Act').arg] [(0, .vars 184 2 [.row 1, .row 2] true), (1, .vars 32 3 (sitesC a b) true), (2, .vars 22 1 [.row 3, .row 4] true), (3, .rows 28 5 (u.map Entry'.enc) true), (4, .rows 28 5 (v.map Entry'.enc) true)] 5 (dInt 5) [(0, .vars 184 2 [.row 1, .row 2] true), (1, .vars 32 3 (sitesC a b) true), (2, .vars 22 1 [.row 3, .row 4] true), (3, .rows 28 5 (u.map Entry'.enc) true), (4, .rows 28 5 (v.map Entry'.enc) true)] 0 := by
  refine acall_cut tab_all tab_mixed Tryz.func119 (by kernel_rfl) Tryz.ntmps119 rfl ?_
  conv => whnf
  conv => whnf
  repeat (first | (refine Conf.mk (by kernel_rfl) ?_; conv => whnf) | (refine SeqOk.go ?_; conv => whnf))
  refine BoolCase.no rfl ?_
  conv => whnf
  repeat (first | (refine Conf.mk (by kernel_rfl) ?_; conv => whnf) | (refine SeqOk.go ?_; conv => whnf))
  refine BoolCase.no rfl ?_
  conv => whnf
  repeat (first | (refine Conf.mk (by kernel_rfl) ?_; conv => whnf) | (refine SeqOk.go ?_; conv => whnf))
  refine BoolCase.yes rfl ?_
  conv => whnf
  repeat (first | (refine Conf.mk (by kernel_rfl) ?_; conv => whnf) | (refine SeqOk.go ?_; conv => whnf))
  refine .eff [0, 1, 2, 3, 4] _ _ _ _ 0 (take1_no a b u v n hl hn) rfl rfl rfl rfl rfl ?_
  conv => whnf
  repeat (first | (refine Conf.mk (by kernel_rfl) ?_; conv => whnf) | (refine SeqOk.go ?_; conv => whnf))
  exact .mk [] [0, 1, 2, 3, 4] (dInt 5) [(0, .vars 184 2 [.row 1, .row 2] true), (1, .vars 32 3 (sitesC a b) true), (2, .vars 22 1 [.row 3, .row 4] true), (3, .rows 28 5 (u.map Entry'.enc) true), (4, .rows 28 5 (v.map Entry'.enc) true)] rfl (.same rfl) ⟨⟨rfl, rfl, rfl, .same rfl, rfl, .same rfl, rfl, trivial⟩, ⟨rfl, rfl, rfl, .same rfl, rfl, .same rfl, rfl, .same rfl, rfl, .same rfl, rfl, .same rfl, rfl, .same rfl, rfl, trivial⟩, ⟨rfl, rfl, rfl, .same rfl, rfl, .same rfl, rfl, trivial⟩, ⟨rfl, rfl, rfl, rfl⟩, ⟨rfl, rfl, rfl, rfl⟩, trivial⟩ rfl rfl ⟨rfl, rfl, rfl⟩
set_option maxHeartbeats 0 in
theorem do_lose1_ok (a b : Site') (u v : List Entry') (n : Nat) (c : Int) (t : ByteArray) (hl : v.length ≤ 1000) (hn : n < v.length) : ECall Tryz.prog 119 [.ptr 0 0, (⟨3, 1, n, c, t⟩ : Act').arg] [(0, .vars 184 2 [.row 1, .row 2] true), (1, .vars 32 3 (sitesC a b) true), (2, .vars 22 1 [.row 3, .row 4] true), (3, .rows 28 5 (u.map Entry'.enc) true), (4, .rows 28 5 (v.map Entry'.enc) true)] 5 (dInt 0) [(0, .vars 184 2 [.row 1, .row 2] true), (1, .vars 32 3 (sitesC a b) true), (2, .vars 22 1 [.row 3, .row 5] true), (3, .rows 28 5 (u.map Entry'.enc) true), (4, .dead), (5, .rows 28 5 ((v.eraseIdx n).map Entry'.enc) true)] 1 := by
  refine acall_cut tab_all tab_mixed Tryz.func119 (by kernel_rfl) Tryz.ntmps119 rfl ?_
  conv => whnf
  conv => whnf
  repeat (first | (refine Conf.mk (by kernel_rfl) ?_; conv => whnf) | (refine SeqOk.go ?_; conv => whnf))
  refine BoolCase.no rfl ?_
  conv => whnf
  repeat (first | (refine Conf.mk (by kernel_rfl) ?_; conv => whnf) | (refine SeqOk.go ?_; conv => whnf))
  refine BoolCase.no rfl ?_
  conv => whnf
  repeat (first | (refine Conf.mk (by kernel_rfl) ?_; conv => whnf) | (refine SeqOk.go ?_; conv => whnf))
  refine BoolCase.yes rfl ?_
  conv => whnf
  repeat (first | (refine Conf.mk (by kernel_rfl) ?_; conv => whnf) | (refine SeqOk.go ?_; conv => whnf))
  refine .eff [0, 1, 2, 3, 4] _ _ _ _ 1 (take1_ok a b u v n hl hn) rfl rfl rfl rfl rfl ?_
  conv => whnf
  repeat (first | (refine Conf.mk (by kernel_rfl) ?_; conv => whnf) | (refine SeqOk.go ?_; conv => whnf))
  exact .mk [] [0, 1, 2, 3, 4, 6] (dInt 0) [(0, .vars 184 2 [.row 1, .row 2] true), (1, .vars 32 3 (sitesC a b) true), (2, .vars 22 1 [.row 3, .row 5] true), (3, .rows 28 5 (u.map Entry'.enc) true), (4, .dead), (5, .rows 28 5 ((v.eraseIdx n).map Entry'.enc) true)] rfl (.same rfl) ⟨⟨rfl, rfl, rfl, .same rfl, rfl, .same rfl, rfl, trivial⟩, ⟨rfl, rfl, rfl, .same rfl, rfl, .same rfl, rfl, .same rfl, rfl, .same rfl, rfl, .same rfl, rfl, .same rfl, rfl, trivial⟩, ⟨rfl, rfl, rfl, .same rfl, rfl, .same rfl, rfl, trivial⟩, ⟨rfl, rfl, rfl, rfl⟩, trivial, ⟨rfl, rfl, rfl, rfl⟩, trivial⟩ rfl rfl ⟨rfl, rfl, rfl⟩
set_option maxHeartbeats 0 in
theorem do_again1_no (a b : Site') (u v : List Entry') (n : Int) (c : Int) (t : ByteArray) (hl : v.length ≤ 1000) (hn : n < 0 ∨ (v.length : Int) ≤ n) : ECall Tryz.prog 119 [.ptr 0 0, (⟨4, 1, n, c, t⟩ : Act').arg] [(0, .vars 184 2 [.row 1, .row 2] true), (1, .vars 32 3 (sitesC a b) true), (2, .vars 22 1 [.row 3, .row 4] true), (3, .rows 28 5 (u.map Entry'.enc) true), (4, .rows 28 5 (v.map Entry'.enc) true)] 5 (dInt 5) [(0, .vars 184 2 [.row 1, .row 2] true), (1, .vars 32 3 (sitesC a b) true), (2, .vars 22 1 [.row 3, .row 4] true), (3, .rows 28 5 (u.map Entry'.enc) true), (4, .rows 28 5 (v.map Entry'.enc) true)] 0 := by
  refine acall_cut tab_all tab_mixed Tryz.func119 (by kernel_rfl) Tryz.ntmps119 rfl ?_
  conv => whnf
  conv => whnf
  repeat (first | (refine Conf.mk (by kernel_rfl) ?_; conv => whnf) | (refine SeqOk.go ?_; conv => whnf))
  refine BoolCase.no rfl ?_
  conv => whnf
  repeat (first | (refine Conf.mk (by kernel_rfl) ?_; conv => whnf) | (refine SeqOk.go ?_; conv => whnf))
  refine BoolCase.no rfl ?_
  conv => whnf
  repeat (first | (refine Conf.mk (by kernel_rfl) ?_; conv => whnf) | (refine SeqOk.go ?_; conv => whnf))
  refine BoolCase.no rfl ?_
  conv => whnf
  repeat (first | (refine Conf.mk (by kernel_rfl) ?_; conv => whnf) | (refine SeqOk.go ?_; conv => whnf))
  refine BoolCase.yes rfl ?_
  conv => whnf
  repeat (first | (refine Conf.mk (by kernel_rfl) ?_; conv => whnf) | (refine SeqOk.go ?_; conv => whnf))
  refine .eff [0, 1, 2, 3, 4] _ _ _ _ 0 (again1_no a b u v n hl hn) rfl rfl rfl rfl rfl ?_
  conv => whnf
  repeat (first | (refine Conf.mk (by kernel_rfl) ?_; conv => whnf) | (refine SeqOk.go ?_; conv => whnf))
  exact .mk [] [0, 1, 2, 3, 4] (dInt 5) [(0, .vars 184 2 [.row 1, .row 2] true), (1, .vars 32 3 (sitesC a b) true), (2, .vars 22 1 [.row 3, .row 4] true), (3, .rows 28 5 (u.map Entry'.enc) true), (4, .rows 28 5 (v.map Entry'.enc) true)] rfl (.same rfl) ⟨⟨rfl, rfl, rfl, .same rfl, rfl, .same rfl, rfl, trivial⟩, ⟨rfl, rfl, rfl, .same rfl, rfl, .same rfl, rfl, .same rfl, rfl, .same rfl, rfl, .same rfl, rfl, .same rfl, rfl, trivial⟩, ⟨rfl, rfl, rfl, .same rfl, rfl, .same rfl, rfl, trivial⟩, ⟨rfl, rfl, rfl, rfl⟩, ⟨rfl, rfl, rfl, rfl⟩, trivial⟩ rfl rfl ⟨rfl, rfl, rfl⟩
set_option maxHeartbeats 0 in
theorem do_again1_full (a b : Site') (u v : List Entry') (n : Nat) (c : Int) (t : ByteArray) (hl : v.length ≤ 1000) (hn : n < v.length) (hf : v.length = 30) : ECall Tryz.prog 119 [.ptr 0 0, (⟨4, 1, n, c, t⟩ : Act').arg] [(0, .vars 184 2 [.row 1, .row 2] true), (1, .vars 32 3 (sitesC a b) true), (2, .vars 22 1 [.row 3, .row 4] true), (3, .rows 28 5 (u.map Entry'.enc) true), (4, .rows 28 5 (v.map Entry'.enc) true)] 5 (dInt 2) [(0, .vars 184 2 [.row 1, .row 2] true), (1, .vars 32 3 (sitesC a b) true), (2, .vars 22 1 [.row 3, .row 4] true), (3, .rows 28 5 (u.map Entry'.enc) true), (4, .rows 28 5 (v.map Entry'.enc) true)] 0 := by
  refine acall_cut tab_all tab_mixed Tryz.func119 (by kernel_rfl) Tryz.ntmps119 rfl ?_
  conv => whnf
  conv => whnf
  repeat (first | (refine Conf.mk (by kernel_rfl) ?_; conv => whnf) | (refine SeqOk.go ?_; conv => whnf))
  refine BoolCase.no rfl ?_
  conv => whnf
  repeat (first | (refine Conf.mk (by kernel_rfl) ?_; conv => whnf) | (refine SeqOk.go ?_; conv => whnf))
  refine BoolCase.no rfl ?_
  conv => whnf
  repeat (first | (refine Conf.mk (by kernel_rfl) ?_; conv => whnf) | (refine SeqOk.go ?_; conv => whnf))
  refine BoolCase.no rfl ?_
  conv => whnf
  repeat (first | (refine Conf.mk (by kernel_rfl) ?_; conv => whnf) | (refine SeqOk.go ?_; conv => whnf))
  refine BoolCase.yes rfl ?_
  conv => whnf
  repeat (first | (refine Conf.mk (by kernel_rfl) ?_; conv => whnf) | (refine SeqOk.go ?_; conv => whnf))
  refine .eff [0, 1, 2, 3, 4] _ _ _ _ 0 (again1_full a b u v n hl hn hf) rfl rfl rfl rfl rfl ?_
  conv => whnf
  repeat (first | (refine Conf.mk (by kernel_rfl) ?_; conv => whnf) | (refine SeqOk.go ?_; conv => whnf))
  exact .mk [] [0, 1, 2, 3, 4] (dInt 2) [(0, .vars 184 2 [.row 1, .row 2] true), (1, .vars 32 3 (sitesC a b) true), (2, .vars 22 1 [.row 3, .row 4] true), (3, .rows 28 5 (u.map Entry'.enc) true), (4, .rows 28 5 (v.map Entry'.enc) true)] rfl (.same rfl) ⟨⟨rfl, rfl, rfl, .same rfl, rfl, .same rfl, rfl, trivial⟩, ⟨rfl, rfl, rfl, .same rfl, rfl, .same rfl, rfl, .same rfl, rfl, .same rfl, rfl, .same rfl, rfl, .same rfl, rfl, trivial⟩, ⟨rfl, rfl, rfl, .same rfl, rfl, .same rfl, rfl, trivial⟩, ⟨rfl, rfl, rfl, rfl⟩, ⟨rfl, rfl, rfl, rfl⟩, trivial⟩ rfl rfl ⟨rfl, rfl, rfl⟩
set_option maxHeartbeats 0 in
theorem do_again1_ok (a b : Site') (u v : List Entry') (n : Nat) (c : Int) (t : ByteArray) (hl : v.length ≤ 1000) (hn : n < v.length) (hf : v.length ≠ 30) (he : v[n].links.length ≤ 1000) : ECall Tryz.prog 119 [.ptr 0 0, (⟨4, 1, n, c, t⟩ : Act').arg] [(0, .vars 184 2 [.row 1, .row 2] true), (1, .vars 32 3 (sitesC a b) true), (2, .vars 22 1 [.row 3, .row 4] true), (3, .rows 28 5 (u.map Entry'.enc) true), (4, .rows 28 5 (v.map Entry'.enc) true)] 5 (dInt 0) [(0, .vars 184 2 [.row 1, .row 2] true), (1, .vars 32 3 (sitesC a b) true), (2, .vars 22 1 [.row 3, .row 5] true), (3, .rows 28 5 (u.map Entry'.enc) true), (4, .dead), (5, .rows 28 5 ((v ++ [v[n]]).map Entry'.enc) true)] 1 := by
  refine acall_cut tab_all tab_mixed Tryz.func119 (by kernel_rfl) Tryz.ntmps119 rfl ?_
  conv => whnf
  conv => whnf
  repeat (first | (refine Conf.mk (by kernel_rfl) ?_; conv => whnf) | (refine SeqOk.go ?_; conv => whnf))
  refine BoolCase.no rfl ?_
  conv => whnf
  repeat (first | (refine Conf.mk (by kernel_rfl) ?_; conv => whnf) | (refine SeqOk.go ?_; conv => whnf))
  refine BoolCase.no rfl ?_
  conv => whnf
  repeat (first | (refine Conf.mk (by kernel_rfl) ?_; conv => whnf) | (refine SeqOk.go ?_; conv => whnf))
  refine BoolCase.no rfl ?_
  conv => whnf
  repeat (first | (refine Conf.mk (by kernel_rfl) ?_; conv => whnf) | (refine SeqOk.go ?_; conv => whnf))
  refine BoolCase.yes rfl ?_
  conv => whnf
  repeat (first | (refine Conf.mk (by kernel_rfl) ?_; conv => whnf) | (refine SeqOk.go ?_; conv => whnf))
  refine .eff [0, 1, 2, 3, 4] _ _ _ _ 1 (again1_ok a b u v n hl hn hf he) rfl rfl rfl rfl rfl ?_
  conv => whnf
  repeat (first | (refine Conf.mk (by kernel_rfl) ?_; conv => whnf) | (refine SeqOk.go ?_; conv => whnf))
  exact .mk [] [0, 1, 2, 3, 4, 6] (dInt 0) [(0, .vars 184 2 [.row 1, .row 2] true), (1, .vars 32 3 (sitesC a b) true), (2, .vars 22 1 [.row 3, .row 5] true), (3, .rows 28 5 (u.map Entry'.enc) true), (4, .dead), (5, .rows 28 5 ((v ++ [v[n]]).map Entry'.enc) true)] rfl (.same rfl) ⟨⟨rfl, rfl, rfl, .same rfl, rfl, .same rfl, rfl, trivial⟩, ⟨rfl, rfl, rfl, .same rfl, rfl, .same rfl, rfl, .same rfl, rfl, .same rfl, rfl, .same rfl, rfl, .same rfl, rfl, trivial⟩, ⟨rfl, rfl, rfl, .same rfl, rfl, .same rfl, rfl, trivial⟩, ⟨rfl, rfl, rfl, rfl⟩, trivial, ⟨rfl, rfl, rfl, rfl⟩, trivial⟩ rfl rfl ⟨rfl, rfl, rfl⟩
set_option maxHeartbeats 0 in
theorem do_all1_ok (a b : Site') (u v : List Entry') (n c : Int) (t : ByteArray) (hs : SiteR b) (hi : b.region = 1) (ht : Right a.log) : ECall Tryz.prog 119 [.ptr 0 0, (⟨5, 1, n, c, t⟩ : Act').arg] [(0, .vars 184 2 [.row 1, .row 2] true), (1, .vars 32 3 (sitesC a b) true), (2, .vars 22 1 [.row 3, .row 4] true), (3, .rows 28 5 (u.map Entry'.enc) true), (4, .rows 28 5 (v.map Entry'.enc) true)] 5 (dInt 0) [(0, .vars 184 2 [.row 1, .row 2] true), (1, .vars 32 3 (sitesC a (bring b (ownOf a.log 0))) true), (2, .vars 22 1 [.row 3, .row 4] true), (3, .rows 28 5 (u.map Entry'.enc) true), (4, .rows 28 5 (v.map Entry'.enc) true)] 0 := by
  refine acall_cut tab_all tab_mixed Tryz.func119 (by kernel_rfl) Tryz.ntmps119 rfl ?_
  conv => whnf
  conv => whnf
  repeat (first | (refine Conf.mk (by kernel_rfl) ?_; conv => whnf) | (refine SeqOk.go ?_; conv => whnf))
  refine BoolCase.no rfl ?_
  conv => whnf
  repeat (first | (refine Conf.mk (by kernel_rfl) ?_; conv => whnf) | (refine SeqOk.go ?_; conv => whnf))
  refine BoolCase.no rfl ?_
  conv => whnf
  repeat (first | (refine Conf.mk (by kernel_rfl) ?_; conv => whnf) | (refine SeqOk.go ?_; conv => whnf))
  refine BoolCase.no rfl ?_
  conv => whnf
  repeat (first | (refine Conf.mk (by kernel_rfl) ?_; conv => whnf) | (refine SeqOk.go ?_; conv => whnf))
  refine BoolCase.no rfl ?_
  conv => whnf
  repeat (first | (refine Conf.mk (by kernel_rfl) ?_; conv => whnf) | (refine SeqOk.go ?_; conv => whnf))
  refine .eff [0, 1, 2, 3, 4] _ _ _ _ 0 (bringAll1_ok a b u v hs hi ht) rfl rfl rfl rfl rfl ?_
  conv => whnf
  repeat (first | (refine Conf.mk (by kernel_rfl) ?_; conv => whnf) | (refine SeqOk.go ?_; conv => whnf))
  exact .mk [] [0, 1, 2, 3, 4] (dInt 0) [(0, .vars 184 2 [.row 1, .row 2] true), (1, .vars 32 3 (sitesC a (bring b (ownOf a.log 0))) true), (2, .vars 22 1 [.row 3, .row 4] true), (3, .rows 28 5 (u.map Entry'.enc) true), (4, .rows 28 5 (v.map Entry'.enc) true)] rfl (.same rfl) ⟨⟨rfl, rfl, rfl, .same rfl, rfl, .same rfl, rfl, trivial⟩, ⟨rfl, rfl, rfl, .same rfl, rfl, .same rfl, rfl, .same rfl, rfl, .same rfl, rfl, .same rfl, rfl, .same rfl, rfl, trivial⟩, ⟨rfl, rfl, rfl, .same rfl, rfl, .same rfl, rfl, trivial⟩, ⟨rfl, rfl, rfl, rfl⟩, ⟨rfl, rfl, rfl, rfl⟩, trivial⟩ rfl rfl ⟨rfl, rfl, rfl⟩
set_option maxHeartbeats 0 in
def formOk (x : Act') : Bool :=
  if x.kind = 1 then x.n == 0 else if x.kind = 5 then x.n == 0 && (x.colors == 0 && decide (x.text = ByteArray.empty)) else x.colors == 0 && decide (x.text = ByteArray.empty)
def actErr (x : Act') : Int :=
  if x.kind < 1 ∨ 5 < x.kind then 7 else if formOk x = false then 1 else if x.at' ≠ 0 ∧ x.at' ≠ 1 then 3 else 0
set_option maxHeartbeats 0 in
theorem checkAct_ok (x : Act') : PCall Tryz.prog 117 [x.arg] (dInt (actErr x)) := by
  refine pcall_cut tab_all tab_mixed Tryz.func117 (by kernel_rfl) Tryz.ntmps117 rfl ?_
  conv => whnf
  conv => whnf
  repeat (first | (refine Conf.mk (by kernel_rfl) ?_; conv => whnf) | (refine SeqOk.go ?_; conv => whnf))
  by_cases k1 : x.kind = 1
  · refine BoolCase.yes (by simp [k1]) ?_
    conv => whnf
    repeat (first | (refine Conf.mk (by kernel_rfl) ?_; conv => whnf) | (refine SeqOk.go ?_; conv => whnf))
    have hform : ∀ bb : Bool, (!(x.kind == x.kind && (x.at' == x.at' && (x.n == 0 && (x.colors == x.colors && (decide (x.text = x.text) && true)))))) = bb → formOk x = !bb := fun bb hf => by
      rw [← hf, Bool.not_not]
      unfold formOk
      simp [k1]
    refine ⟨fun hf => ?_, fun hf => ?_⟩
    · have hf : formOk x = false := hform true hf
      conv => whnf
      repeat (first | (refine Conf.mk (by kernel_rfl) ?_; conv => whnf) | (refine SeqOk.go ?_; conv => whnf))
      exact Ret.int (by unfold actErr; rw [if_neg (by omega), if_pos hf])
    · have hf : formOk x = true := hform false hf
      conv => whnf
      repeat (first | (refine Conf.mk (by kernel_rfl) ?_; conv => whnf) | (refine SeqOk.go ?_; conv => whnf))
      by_cases h1 : x.at' = 0
      · refine BoolCase.no (by simp [h1]) ?_
        conv => whnf
        repeat (first | (refine Conf.mk (by kernel_rfl) ?_; conv => whnf) | (refine SeqOk.go ?_; conv => whnf))
        exact Ret.int (by unfold actErr; rw [if_neg (by omega), if_neg (by simp [hf]), if_neg (by omega)])
      · refine BoolCase.yes (by simpa using h1) ?_
        conv => whnf
        repeat (first | (refine Conf.mk (by kernel_rfl) ?_; conv => whnf) | (refine SeqOk.go ?_; conv => whnf))
        by_cases h2 : x.at' = 1
        · refine BoolCase.no (by simp [h2]) ?_
          conv => whnf
          repeat (first | (refine Conf.mk (by kernel_rfl) ?_; conv => whnf) | (refine SeqOk.go ?_; conv => whnf))
          exact Ret.int (by unfold actErr; rw [if_neg (by omega), if_neg (by simp [hf]), if_neg (by omega)])
        · refine BoolCase.yes (by simpa using h2) ?_
          conv => whnf
          repeat (first | (refine Conf.mk (by kernel_rfl) ?_; conv => whnf) | (refine SeqOk.go ?_; conv => whnf))
          exact Ret.int (by unfold actErr; rw [if_neg (by omega), if_neg (by simp [hf]), if_pos ⟨h1, h2⟩])
  · refine BoolCase.no (by simpa using k1) ?_
    conv => whnf
    repeat (first | (refine Conf.mk (by kernel_rfl) ?_; conv => whnf) | (refine SeqOk.go ?_; conv => whnf))
    by_cases k2 : x.kind = 2
    · refine BoolCase.yes (by simp [k2]) ?_
      conv => whnf
      repeat (first | (refine Conf.mk (by kernel_rfl) ?_; conv => whnf) | (refine SeqOk.go ?_; conv => whnf))
      refine BoolCase.yes (by simp [k2]) ?_
      conv => whnf
      repeat (first | (refine Conf.mk (by kernel_rfl) ?_; conv => whnf) | (refine SeqOk.go ?_; conv => whnf))
      have hform : ∀ bb : Bool, (!(x.kind == x.kind && (x.at' == x.at' && (x.n == x.n && (x.colors == 0 && (decide (x.text = ByteArray.empty) && true)))))) = bb → formOk x = !bb := fun bb hf => by
        rw [← hf, Bool.not_not]
        unfold formOk
        simp [k2]
      refine ⟨fun hf => ?_, fun hf => ?_⟩
      · have hf : formOk x = false := hform true hf
        conv => whnf
        repeat (first | (refine Conf.mk (by kernel_rfl) ?_; conv => whnf) | (refine SeqOk.go ?_; conv => whnf))
        exact Ret.int (by unfold actErr; rw [if_neg (by omega), if_pos hf])
      · have hf : formOk x = true := hform false hf
        conv => whnf
        repeat (first | (refine Conf.mk (by kernel_rfl) ?_; conv => whnf) | (refine SeqOk.go ?_; conv => whnf))
        by_cases h1 : x.at' = 0
        · refine BoolCase.no (by simp [h1]) ?_
          conv => whnf
          repeat (first | (refine Conf.mk (by kernel_rfl) ?_; conv => whnf) | (refine SeqOk.go ?_; conv => whnf))
          exact Ret.int (by unfold actErr; rw [if_neg (by omega), if_neg (by simp [hf]), if_neg (by omega)])
        · refine BoolCase.yes (by simpa using h1) ?_
          conv => whnf
          repeat (first | (refine Conf.mk (by kernel_rfl) ?_; conv => whnf) | (refine SeqOk.go ?_; conv => whnf))
          by_cases h2 : x.at' = 1
          · refine BoolCase.no (by simp [h2]) ?_
            conv => whnf
            repeat (first | (refine Conf.mk (by kernel_rfl) ?_; conv => whnf) | (refine SeqOk.go ?_; conv => whnf))
            exact Ret.int (by unfold actErr; rw [if_neg (by omega), if_neg (by simp [hf]), if_neg (by omega)])
          · refine BoolCase.yes (by simpa using h2) ?_
            conv => whnf
            repeat (first | (refine Conf.mk (by kernel_rfl) ?_; conv => whnf) | (refine SeqOk.go ?_; conv => whnf))
            exact Ret.int (by unfold actErr; rw [if_neg (by omega), if_neg (by simp [hf]), if_pos ⟨h1, h2⟩])
    · refine BoolCase.no (by simpa using k2) ?_
      conv => whnf
      repeat (first | (refine Conf.mk (by kernel_rfl) ?_; conv => whnf) | (refine SeqOk.go ?_; conv => whnf))
      by_cases k3 : x.kind = 3
      · refine BoolCase.yes (by simp [k3]) ?_
        conv => whnf
        repeat (first | (refine Conf.mk (by kernel_rfl) ?_; conv => whnf) | (refine SeqOk.go ?_; conv => whnf))
        refine BoolCase.yes (by simp [k3]) ?_
        conv => whnf
        repeat (first | (refine Conf.mk (by kernel_rfl) ?_; conv => whnf) | (refine SeqOk.go ?_; conv => whnf))
        have hform : ∀ bb : Bool, (!(x.kind == x.kind && (x.at' == x.at' && (x.n == x.n && (x.colors == 0 && (decide (x.text = ByteArray.empty) && true)))))) = bb → formOk x = !bb := fun bb hf => by
          rw [← hf, Bool.not_not]
          unfold formOk
          simp [k3]
        refine ⟨fun hf => ?_, fun hf => ?_⟩
        · have hf : formOk x = false := hform true hf
          conv => whnf
          repeat (first | (refine Conf.mk (by kernel_rfl) ?_; conv => whnf) | (refine SeqOk.go ?_; conv => whnf))
          exact Ret.int (by unfold actErr; rw [if_neg (by omega), if_pos hf])
        · have hf : formOk x = true := hform false hf
          conv => whnf
          repeat (first | (refine Conf.mk (by kernel_rfl) ?_; conv => whnf) | (refine SeqOk.go ?_; conv => whnf))
          by_cases h1 : x.at' = 0
          · refine BoolCase.no (by simp [h1]) ?_
            conv => whnf
            repeat (first | (refine Conf.mk (by kernel_rfl) ?_; conv => whnf) | (refine SeqOk.go ?_; conv => whnf))
            exact Ret.int (by unfold actErr; rw [if_neg (by omega), if_neg (by simp [hf]), if_neg (by omega)])
          · refine BoolCase.yes (by simpa using h1) ?_
            conv => whnf
            repeat (first | (refine Conf.mk (by kernel_rfl) ?_; conv => whnf) | (refine SeqOk.go ?_; conv => whnf))
            by_cases h2 : x.at' = 1
            · refine BoolCase.no (by simp [h2]) ?_
              conv => whnf
              repeat (first | (refine Conf.mk (by kernel_rfl) ?_; conv => whnf) | (refine SeqOk.go ?_; conv => whnf))
              exact Ret.int (by unfold actErr; rw [if_neg (by omega), if_neg (by simp [hf]), if_neg (by omega)])
            · refine BoolCase.yes (by simpa using h2) ?_
              conv => whnf
              repeat (first | (refine Conf.mk (by kernel_rfl) ?_; conv => whnf) | (refine SeqOk.go ?_; conv => whnf))
              exact Ret.int (by unfold actErr; rw [if_neg (by omega), if_neg (by simp [hf]), if_pos ⟨h1, h2⟩])
      · refine BoolCase.no (by simpa using k3) ?_
        conv => whnf
        repeat (first | (refine Conf.mk (by kernel_rfl) ?_; conv => whnf) | (refine SeqOk.go ?_; conv => whnf))
        by_cases k4 : x.kind = 4
        · refine BoolCase.yes (by simp [k4]) ?_
          conv => whnf
          repeat (first | (refine Conf.mk (by kernel_rfl) ?_; conv => whnf) | (refine SeqOk.go ?_; conv => whnf))
          have hform : ∀ bb : Bool, (!(x.kind == x.kind && (x.at' == x.at' && (x.n == x.n && (x.colors == 0 && (decide (x.text = ByteArray.empty) && true)))))) = bb → formOk x = !bb := fun bb hf => by
            rw [← hf, Bool.not_not]
            unfold formOk
            simp [k4]
          refine ⟨fun hf => ?_, fun hf => ?_⟩
          · have hf : formOk x = false := hform true hf
            conv => whnf
            repeat (first | (refine Conf.mk (by kernel_rfl) ?_; conv => whnf) | (refine SeqOk.go ?_; conv => whnf))
            exact Ret.int (by unfold actErr; rw [if_neg (by omega), if_pos hf])
          · have hf : formOk x = true := hform false hf
            conv => whnf
            repeat (first | (refine Conf.mk (by kernel_rfl) ?_; conv => whnf) | (refine SeqOk.go ?_; conv => whnf))
            by_cases h1 : x.at' = 0
            · refine BoolCase.no (by simp [h1]) ?_
              conv => whnf
              repeat (first | (refine Conf.mk (by kernel_rfl) ?_; conv => whnf) | (refine SeqOk.go ?_; conv => whnf))
              exact Ret.int (by unfold actErr; rw [if_neg (by omega), if_neg (by simp [hf]), if_neg (by omega)])
            · refine BoolCase.yes (by simpa using h1) ?_
              conv => whnf
              repeat (first | (refine Conf.mk (by kernel_rfl) ?_; conv => whnf) | (refine SeqOk.go ?_; conv => whnf))
              by_cases h2 : x.at' = 1
              · refine BoolCase.no (by simp [h2]) ?_
                conv => whnf
                repeat (first | (refine Conf.mk (by kernel_rfl) ?_; conv => whnf) | (refine SeqOk.go ?_; conv => whnf))
                exact Ret.int (by unfold actErr; rw [if_neg (by omega), if_neg (by simp [hf]), if_neg (by omega)])
              · refine BoolCase.yes (by simpa using h2) ?_
                conv => whnf
                repeat (first | (refine Conf.mk (by kernel_rfl) ?_; conv => whnf) | (refine SeqOk.go ?_; conv => whnf))
                exact Ret.int (by unfold actErr; rw [if_neg (by omega), if_neg (by simp [hf]), if_pos ⟨h1, h2⟩])
        · refine BoolCase.no (by simpa using k4) ?_
          conv => whnf
          repeat (first | (refine Conf.mk (by kernel_rfl) ?_; conv => whnf) | (refine SeqOk.go ?_; conv => whnf))
          by_cases k5 : x.kind = 5
          · refine BoolCase.yes (by simp [k5]) ?_
            conv => whnf
            repeat (first | (refine Conf.mk (by kernel_rfl) ?_; conv => whnf) | (refine SeqOk.go ?_; conv => whnf))
            have hform : ∀ bb : Bool, (!(x.kind == x.kind && (x.at' == x.at' && (x.n == 0 && (x.colors == 0 && (decide (x.text = ByteArray.empty) && true)))))) = bb → formOk x = !bb := fun bb hf => by
              rw [← hf, Bool.not_not]
              unfold formOk
              simp [k5]
            refine ⟨fun hf => ?_, fun hf => ?_⟩
            · have hf : formOk x = false := hform true hf
              conv => whnf
              repeat (first | (refine Conf.mk (by kernel_rfl) ?_; conv => whnf) | (refine SeqOk.go ?_; conv => whnf))
              exact Ret.int (by unfold actErr; rw [if_neg (by omega), if_pos hf])
            · have hf : formOk x = true := hform false hf
              conv => whnf
              repeat (first | (refine Conf.mk (by kernel_rfl) ?_; conv => whnf) | (refine SeqOk.go ?_; conv => whnf))
              by_cases h1 : x.at' = 0
              · refine BoolCase.no (by simp [h1]) ?_
                conv => whnf
                repeat (first | (refine Conf.mk (by kernel_rfl) ?_; conv => whnf) | (refine SeqOk.go ?_; conv => whnf))
                exact Ret.int (by unfold actErr; rw [if_neg (by omega), if_neg (by simp [hf]), if_neg (by omega)])
              · refine BoolCase.yes (by simpa using h1) ?_
                conv => whnf
                repeat (first | (refine Conf.mk (by kernel_rfl) ?_; conv => whnf) | (refine SeqOk.go ?_; conv => whnf))
                by_cases h2 : x.at' = 1
                · refine BoolCase.no (by simp [h2]) ?_
                  conv => whnf
                  repeat (first | (refine Conf.mk (by kernel_rfl) ?_; conv => whnf) | (refine SeqOk.go ?_; conv => whnf))
                  exact Ret.int (by unfold actErr; rw [if_neg (by omega), if_neg (by simp [hf]), if_neg (by omega)])
                · refine BoolCase.yes (by simpa using h2) ?_
                  conv => whnf
                  repeat (first | (refine Conf.mk (by kernel_rfl) ?_; conv => whnf) | (refine SeqOk.go ?_; conv => whnf))
                  exact Ret.int (by unfold actErr; rw [if_neg (by omega), if_neg (by simp [hf]), if_pos ⟨h1, h2⟩])
          · refine BoolCase.no (by simpa using k5) ?_
            conv => whnf
            repeat (first | (refine Conf.mk (by kernel_rfl) ?_; conv => whnf) | (refine SeqOk.go ?_; conv => whnf))
            exact Ret.int (by unfold actErr; rw [if_pos (by omega)])
end Go.Proofs.YtlioojekjnigiafGreat.AM
/- Worlds: what is wrong with one. -/
namespace Go.Proofs.YtlioojekjnigiafGreat.AM
set_option linter.unusedVariables false
set_option linter.unusedSimpArgs false

def waysErr (p : Entry' → Bool) : List (List Entry') → Int
  | [] => 0
  | y :: t => if wayErr p y ≠ 0 then wayErr p y else waysErr p t
def strange (w : World') (e : Entry') : Bool := !bornP w.sites e
def strangeS (w : World') (s : Site') : Bool := s.log.any (strange w) || s.waits.any (strange w)
def worldErr (w : World') : Int :=
  if w.sites.length ≠ 2 ∨ w.ways.length ≠ 2 then 1 else if sitesFrom 0 w.sites ≠ 0 then sitesFrom 0 w.sites else if waysErr (strange w) w.ways ≠ 0 then waysErr (strange w) w.ways else if w.sites.any (strangeS w) = true then 4 else 0
structure WorldOk (w : World') : Prop where
  sites : ∀ s ∈ w.sites, SiteOk s
  ways : ∀ y ∈ w.ways, LogOk y
  slen : w.sites.length ≤ 140737488355327
  wlen : w.ways.length ≤ 140737488355327
theorem sitesFrom_two {a b : Site'} : sitesFrom 0 [a, b] = 0 ↔ (SiteR a ∧ a.region = 0) ∧ SiteR b ∧ b.region = 1 := by
  unfold sitesFrom sitesFrom sitesFrom
  by_cases h1 : siteErr a = 0
  · rw [if_neg (by simp [h1])]
    by_cases h2 : a.region = 0
    · rw [if_neg (by simp [h2])]
      by_cases h3 : siteErr b = 0
      · rw [if_neg (by simp [h3])]
        by_cases h4 : b.region = 1
        · rw [if_neg (by simp [h4])]
          exact ⟨fun _ => ⟨⟨siteErr_iff.1 h1, h2⟩, siteErr_iff.1 h3, h4⟩, fun _ => rfl⟩
        · rw [if_pos (by simpa using h4)]
          exact ⟨fun h => (by cases h), fun h => absurd h.2.2 h4⟩
      · rw [if_pos h3]
        exact ⟨fun h => absurd h h3, fun h => absurd (siteErr_iff.2 h.2.1) h3⟩
    · rw [if_pos (by simpa using h2)]
      exact ⟨fun h => (by cases h), fun h => absurd h.1.2 h2⟩
  · rw [if_pos h1]
    exact ⟨fun h => absurd h h1, fun h => absurd (siteErr_iff.2 h.1.1) h1⟩
theorem wayLoop_iff {p : Entry' → Bool} : ∀ {l : List Entry'}, wayLoop p l = 0 ↔ ∀ e ∈ l, e.err = 0 ∧ p e = false
  | [] => by simp [wayLoop]
  | e :: t => by
    unfold wayLoop
    by_cases h1 : e.err = 0
    · rw [if_neg (by simp [h1])]
      cases h2 : p e
      · rw [if_neg (by simp), wayLoop_iff]
        simp [h1, h2]
      · rw [if_pos rfl]
        exact ⟨fun h => (by cases h), fun h => by have := (h e (by simp)).2; rw [h2] at this; cases this⟩
    · rw [if_pos h1]
      exact ⟨fun h => absurd h h1, fun h => absurd (h e (by simp)).1 h1⟩
theorem wayErr_iff {p : Entry' → Bool} {l : List Entry'} : wayErr p l = 0 ↔ l.length ≤ 30 ∧ ∀ e ∈ l, e.err = 0 ∧ p e = false := by
  unfold wayErr
  by_cases h : 30 < l.length
  · rw [if_pos h]; exact ⟨fun k => (by cases k), fun k => by omega⟩
  · rw [if_neg h, wayLoop_iff]; exact ⟨fun k => ⟨by omega, k⟩, fun k => k.2⟩
theorem waysErr_iff {p : Entry' → Bool} : ∀ {l : List (List Entry')}, waysErr p l = 0 ↔ ∀ y ∈ l, wayErr p y = 0
  | [] => by simp [waysErr]
  | y :: t => by
    unfold waysErr
    by_cases h : wayErr p y = 0
    · rw [if_neg (by simp [h]), waysErr_iff]; simp [h]
    · rw [if_pos h]
      exact ⟨fun k => absurd k h, fun k => absurd (k y (by simp)) h⟩
set_option maxHeartbeats 0 in
theorem worldCheck_ok (w : World') (hw : WorldOk w) : PCall Tryz.prog 51 [w.arg] (dInt (worldErr w)) := by
  refine pcall_cut tab_all tab_mixed Tryz.func51 (by kernel_rfl) Tryz.ntmps51 rfl ?_
  conv => whnf
  conv => whnf
  repeat (first | (refine Conf.mk (by kernel_rfl) ?_; conv => whnf) | (refine SeqOk.go ?_; conv => whnf))
  by_cases h1 : w.sites.length = 2
  · refine BoolCase.no (by simp; omega) ?_
    conv => whnf
    repeat (first | (refine Conf.mk (by kernel_rfl) ?_; conv => whnf) | (refine SeqOk.go ?_; conv => whnf))
    by_cases h2 : w.ways.length = 2
    · refine BoolCase.no (by simp; omega) ?_
      conv => whnf
      repeat (first | (refine Conf.mk (by kernel_rfl) ?_; conv => whnf) | (refine SeqOk.go ?_; conv => whnf))
      refine .data _ _ (checkSites_ok w.sites (by omega) hw.sites) rfl ?_
      conv => whnf
      repeat (first | (refine Conf.mk (by kernel_rfl) ?_; conv => whnf) | (refine SeqOk.go ?_; conv => whnf))
      by_cases h3 : sitesFrom 0 w.sites = 0
      · have hE : worldErr w = if waysErr (strange w) w.ways ≠ 0 then waysErr (strange w) w.ways else if w.sites.any (strangeS w) = true then 4 else 0 := by unfold worldErr; rw [if_neg (by omega), if_neg (by simp [h3])]
        obtain ⟨a, b, hab⟩ : ∃ a b, w.sites = [a, b] := by
          match hs : w.sites with
          | [a, b] => exact ⟨a, b, rfl⟩
          | [] => rw [hs] at h1; cases h1
          | [_] => rw [hs] at h1; cases h1
          | _ :: _ :: _ :: _ => rw [hs] at h1; simp at h1
        have hR : ∀ s ∈ w.sites, SiteR s := by
          rw [hab] at h3 ⊢
          obtain ⟨⟨k1, _⟩, k2, _⟩ := sitesFrom_two.1 h3
          intro s hs
          rcases List.mem_cons.1 hs with rfl | hs
          · exact k1
          · have : s = b := by simpa using hs
            rw [this]; exact k2
        have h6 : ∀ s ∈ w.sites, s.log.length ≤ 1000 ∧ ∀ e ∈ s.log, e.links.length ≤ 1000 := fun s hs => ⟨by have := (hR s hs).log.len; omega, fun e he => by have := (hR s hs).log.six he; omega⟩
        refine BoolCase.no (by simp [h3]) ?_
        conv => whnf
        repeat (first | (refine Conf.mk (by kernel_rfl) ?_; conv => whnf) | (refine SeqOk.go ?_; conv => whnf))
        refine LoopOk.hide fun Q1 hQ1 => ?_
        refine LoopOk.mk (fun m s => ∃ i, i + m = w.ways.length ∧ waysErr (strange w) w.ways = waysErr (strange w) (w.ways.drop i) ∧ s = ⟨[(30, dInt i), (29, dInt (w.ways.map wayEnc).length), (28, .dat (.list (w.ways.map wayEnc))), (4, .fn (.func 130) [] [.ptr 0 0]), (1, .ptr 0 0)], 1, [(0, .vars 93 2 [.dat (.list (w.sites.map Site'.enc)), .dat (.list (w.ways.map wayEnc))] true)]⟩) w.ways.length (Into.mono (Into.to [0] [(30, dInt (0 : Nat)), (29, dInt (w.ways.map wayEnc).length), (28, .dat (.list (w.ways.map wayEnc))), (4, .fn (.func 130) [] [.ptr 0 0]), (1, .ptr 0 0)] [(0, .vars 93 2 [.dat (.list (w.sites.map Site'.enc)), .dat (.list (w.ways.map wayEnc))] true)] (by repeat (first | exact trivial | refine ⟨.same (congrArg dInt (wrap_up (by omega))), ?_⟩ | refine ⟨.same rfl, ?_⟩ | refine ⟨.any _, ?_⟩)) ⟨⟨rfl, rfl, rfl, .same rfl, rfl, .same rfl, rfl, trivial⟩, trivial⟩ rfl rfl) fun s' h => ⟨0, by omega, rfl, h⟩) ?_
        rintro m s ⟨i, him, hp, rfl⟩
        conv => whnf
        repeat (first | (refine Conf.mk (by kernel_rfl) ?_; conv => whnf) | (refine SeqOk.go ?_; conv => whnf))
        refine ⟨fun h => ?_, fun h => ?_⟩
        · have hi := lt_of_len h
          have hm := List.getElem_mem hi
          rw [List.drop_eq_getElem_cons hi, waysErr] at hp
          conv => whnf
          repeat (first | (refine Conf.mk (by kernel_rfl) ?_; conv => whnf) | (refine SeqOk.go ?_; conv => whnf))
          refine AtIdx.ofMap hi rfl ?_
          conv => whnf
          repeat (first | (refine Conf.mk (by kernel_rfl) ?_; conv => whnf) | (refine SeqOk.go ?_; conv => whnf))
          refine .look _ _ (checkWay_ok (p := strange w) w.ways[i] (hw.ways _ hm) fun e he h0 => check1_ok' w h1 h6 e (r_of_ok (ok_of_err h0))) rfl rfl ?_
          conv => whnf
          repeat (first | (refine Conf.mk (by kernel_rfl) ?_; conv => whnf) | (refine SeqOk.go ?_; conv => whnf))
          by_cases h4 : wayErr (strange w) w.ways[i] = 0
          · rw [if_neg (by simp [h4])] at hp
            refine BoolCase.no (by simp [h4]) ?_
            conv => whnf
            repeat (first | (refine Conf.mk (by kernel_rfl) ?_; conv => whnf) | (refine SeqOk.go ?_; conv => whnf))
            exact Into.mono (Into.to [0] [(30, dInt (i + 1 : Nat)), (29, dInt (w.ways.map wayEnc).length), (28, .dat (.list (w.ways.map wayEnc))), (4, .fn (.func 130) [] [.ptr 0 0]), (1, .ptr 0 0)] [(0, .vars 93 2 [.dat (.list (w.sites.map Site'.enc)), .dat (.list (w.ways.map wayEnc))] true)] (by repeat (first | exact trivial | refine ⟨.same (congrArg dInt (wrap_up (by omega))), ?_⟩ | refine ⟨.same rfl, ?_⟩ | refine ⟨.any _, ?_⟩)) ⟨⟨rfl, rfl, rfl, .same rfl, rfl, .same rfl, rfl, trivial⟩, trivial⟩ rfl rfl) fun s' h => ⟨m - 1, by omega, i + 1, by omega, hp, h⟩
          · rw [if_pos h4] at hp
            refine BoolCase.yes (by simp [h4]) ?_
            conv => whnf
            repeat (first | (refine Conf.mk (by kernel_rfl) ?_; conv => whnf) | (refine SeqOk.go ?_; conv => whnf))
            subst hQ1
            conv => whnf
            exact Ret.int (by rw [hE, hp, if_pos h4])
        · rw [List.drop_eq_nil_of_le (ge_of_len h)] at hp
          have hp : waysErr (strange w) w.ways = 0 := hp
          rw [if_neg (by simp [hp])] at hE
          conv => whnf
          repeat (first | (refine Conf.mk (by kernel_rfl) ?_; conv => whnf) | (refine SeqOk.go ?_; conv => whnf))
          subst hQ1
          conv => whnf
          conv => whnf
          repeat (first | (refine Conf.mk (by kernel_rfl) ?_; conv => whnf) | (refine SeqOk.go ?_; conv => whnf))
          refine LoopOk.hide fun Q2 hQ2 => ?_
          refine LoopOk.mk (fun m s => ∃ i, i + m = w.sites.length ∧ w.sites.any (strangeS w) = (w.sites.drop i).any (strangeS w) ∧ s = ⟨[(44, dInt i), (43, dInt (w.sites.map Site'.enc).length), (42, .dat (.list (w.sites.map Site'.enc))), (4, .fn (.func 130) [] [.ptr 0 0])], 1, [(0, .vars 93 2 [.dat (.list (w.sites.map Site'.enc)), .dat (.list (w.ways.map wayEnc))] true)]⟩) w.sites.length (Into.mono (Into.to [0] [(44, dInt (0 : Nat)), (43, dInt (w.sites.map Site'.enc).length), (42, .dat (.list (w.sites.map Site'.enc))), (4, .fn (.func 130) [] [.ptr 0 0])] [(0, .vars 93 2 [.dat (.list (w.sites.map Site'.enc)), .dat (.list (w.ways.map wayEnc))] true)] (by repeat (first | exact trivial | refine ⟨.same (congrArg dInt (wrap_up (by omega))), ?_⟩ | refine ⟨.same rfl, ?_⟩ | refine ⟨.any _, ?_⟩)) ⟨⟨rfl, rfl, rfl, .same rfl, rfl, .same rfl, rfl, trivial⟩, trivial⟩ rfl rfl) fun s' h => ⟨0, by omega, rfl, h⟩) ?_
          rintro m s ⟨i, him, hq, rfl⟩
          conv => whnf
          repeat (first | (refine Conf.mk (by kernel_rfl) ?_; conv => whnf) | (refine SeqOk.go ?_; conv => whnf))
          refine ⟨fun h => ?_, fun h => ?_⟩
          · have hi := lt_of_len h
            have hm := List.getElem_mem hi
            have hRs := hR _ hm
            have hll := hRs.log.len
            have hwl := hRs.len
            rw [List.drop_eq_getElem_cons hi, List.any_cons] at hq
            conv => whnf
            repeat (first | (refine Conf.mk (by kernel_rfl) ?_; conv => whnf) | (refine SeqOk.go ?_; conv => whnf))
            refine AtIdx.ofMap hi rfl ?_
            conv => whnf
            repeat (first | (refine Conf.mk (by kernel_rfl) ?_; conv => whnf) | (refine SeqOk.go ?_; conv => whnf))
            refine .look _ _ (containsFunc_entry (l := w.sites[i].log) (p := strange w) (by omega) fun e he => check1_ok' w h1 h6 e (hRs.log.regs e he)) rfl rfl ?_
            conv => whnf
            repeat (first | (refine Conf.mk (by kernel_rfl) ?_; conv => whnf) | (refine SeqOk.go ?_; conv => whnf))
            refine ⟨fun h5 => ?_, fun h5 => ?_⟩
            · have h5 : w.sites[i].log.any (strange w) = true := h5
              have hss : strangeS w w.sites[i] = true := by unfold strangeS; rw [h5]; rfl
              conv => whnf
              repeat (first | (refine Conf.mk (by kernel_rfl) ?_; conv => whnf) | (refine SeqOk.go ?_; conv => whnf))
              subst hQ2
              conv => whnf
              exact Ret.int (by rw [hE, hq, hss]; rfl)
            · have h5 : w.sites[i].log.any (strange w) = false := h5
              conv => whnf
              repeat (first | (refine Conf.mk (by kernel_rfl) ?_; conv => whnf) | (refine SeqOk.go ?_; conv => whnf))
              refine .look _ _ (containsFunc_entry (l := w.sites[i].waits) (p := strange w) (by omega) fun e he => check1_ok' w h1 h6 e (r_of_ok (ok_of_err (hRs.err e he)))) rfl rfl ?_
              conv => whnf
              repeat (first | (refine Conf.mk (by kernel_rfl) ?_; conv => whnf) | (refine SeqOk.go ?_; conv => whnf))
              refine ⟨fun h7 => ?_, fun h7 => ?_⟩
              · have h7 : w.sites[i].waits.any (strange w) = true := h7
                have hss : strangeS w w.sites[i] = true := by unfold strangeS; rw [h5, h7]; rfl
                conv => whnf
                repeat (first | (refine Conf.mk (by kernel_rfl) ?_; conv => whnf) | (refine SeqOk.go ?_; conv => whnf))
                subst hQ2
                conv => whnf
                exact Ret.int (by rw [hE, hq, hss]; rfl)
              · have h7 : w.sites[i].waits.any (strange w) = false := h7
                have hss : strangeS w w.sites[i] = false := by unfold strangeS; rw [h5, h7]; rfl
                rw [hss, Bool.false_or] at hq
                conv => whnf
                repeat (first | (refine Conf.mk (by kernel_rfl) ?_; conv => whnf) | (refine SeqOk.go ?_; conv => whnf))
                exact Into.mono (Into.to [0] [(44, dInt (i + 1 : Nat)), (43, dInt (w.sites.map Site'.enc).length), (42, .dat (.list (w.sites.map Site'.enc))), (4, .fn (.func 130) [] [.ptr 0 0])] [(0, .vars 93 2 [.dat (.list (w.sites.map Site'.enc)), .dat (.list (w.ways.map wayEnc))] true)] (by repeat (first | exact trivial | refine ⟨.same (congrArg dInt (wrap_up (by omega))), ?_⟩ | refine ⟨.same rfl, ?_⟩ | refine ⟨.any _, ?_⟩)) ⟨⟨rfl, rfl, rfl, .same rfl, rfl, .same rfl, rfl, trivial⟩, trivial⟩ rfl rfl) fun s' h => ⟨m - 1, by omega, i + 1, by omega, hq, h⟩
          · rw [List.drop_eq_nil_of_le (ge_of_len h)] at hq
            conv => whnf
            repeat (first | (refine Conf.mk (by kernel_rfl) ?_; conv => whnf) | (refine SeqOk.go ?_; conv => whnf))
            subst hQ2
            conv => whnf
            exact Ret.int (by rw [hE, hq]; rfl)
      · refine BoolCase.yes (by simp [h3]) ?_
        conv => whnf
        repeat (first | (refine Conf.mk (by kernel_rfl) ?_; conv => whnf) | (refine SeqOk.go ?_; conv => whnf))
        exact Ret.int (by unfold worldErr; rw [if_neg (by omega), if_pos h3])
    · refine BoolCase.yes (by simp; omega) ?_
      conv => whnf
      repeat (first | (refine Conf.mk (by kernel_rfl) ?_; conv => whnf) | (refine SeqOk.go ?_; conv => whnf))
      exact Ret.int (by unfold worldErr; rw [if_pos (.inr h2)])
  · refine BoolCase.yes (by simp; omega) ?_
    conv => whnf
    repeat (first | (refine Conf.mk (by kernel_rfl) ?_; conv => whnf) | (refine SeqOk.go ?_; conv => whnf))
    exact Ret.int (by unfold worldErr; rw [if_pos (.inl h1)])
end Go.Proofs.YtlioojekjnigiafGreat.AM
/- Plain: what is done in a world that is right. -/
namespace Go.Proofs.YtlioojekjnigiafGreat.AM
set_option linter.unusedVariables false
set_option linter.unusedSimpArgs false

theorem list_two {α : Type} {l : List α} (h : l.length = 2) : ∃ a b, l = [a, b] := by
  match l, h with
  | [a, b], _ => exact ⟨a, b, rfl⟩
theorem strange_iff {x : W4} {e : Entry'} (hr : e.id.r = 0 ∨ e.id.r = 1) : strange x.w e = false ↔ e ∈ x.logOf e.id.r := by
  rw [← born_iff hr]
  unfold strange
  cases bornP x.w.sites e <;> simp
theorem worldErr_iff {w : World'} : worldErr w = 0 ↔ ∃ x : W4, w = x.w ∧ WorldR x := by
  constructor
  · intro h
    unfold worldErr at h
    split at h
    · cases h
    · rename_i h1
      obtain ⟨a, b, hab⟩ := list_two (l := w.sites) (by omega)
      obtain ⟨u, v, huv⟩ := list_two (l := w.ways) (by omega)
      obtain ⟨ws, wy⟩ := w
      simp only at hab huv
      subst hab huv
      split at h
      · rename_i h2; exact absurd h h2
      · rename_i h2
        split at h
        · rename_i h3; exact absurd h h3
        · rename_i h3
          split at h
          · cases h
          · rename_i h4
            obtain ⟨⟨r1, r2⟩, r3, r4⟩ := sitesFrom_two.1 (by simpa using h2)
            have hw := waysErr_iff.1 (by simpa using h3 : waysErr _ _ = 0)
            obtain ⟨lu, eu⟩ := wayErr_iff.1 (hw u (by simp))
            obtain ⟨lv, ev⟩ := wayErr_iff.1 (hw v (by simp))
            have h5 : ∀ s ∈ [a, b], ∀ e, e ∈ s.log ∨ e ∈ s.waits → strange ⟨[a, b], [u, v]⟩ e = false := fun s hs e he => by
              cases hk : strange ⟨[a, b], [u, v]⟩ e
              · rfl
              · refine absurd (List.any_eq_true.2 ⟨s, hs, ?_⟩) h4
                unfold strangeS
                rw [Bool.or_eq_true, List.any_eq_true, List.any_eq_true]
                exact he.imp (fun he => ⟨e, he, hk⟩) fun he => ⟨e, he, hk⟩
            have reg : ∀ e : Entry', e.err = 0 → e.id.r = 0 ∨ e.id.r = 1 := fun e he => r_of_ok (ok_of_err he)
            refine ⟨⟨a, b, u, v⟩, rfl, r1, r3, r2, r4, lu, lv, fun e he => ?_, fun e he => ?_⟩
            · have : e.err = 0 ∧ strange ⟨[a, b], [u, v]⟩ e = false := he.elim (eu e) (ev e)
              exact ⟨this.1, (strange_iff (x := ⟨a, b, u, v⟩) (reg e this.1)).1 this.2⟩
            · rcases he with he | he | he | he
              · exact (strange_iff (x := ⟨a, b, u, v⟩) (r1.log.regs e he)).1 (h5 a (by simp) e (.inl he))
              · exact (strange_iff (x := ⟨a, b, u, v⟩) (reg e (r1.err e he))).1 (h5 a (by simp) e (.inr he))
              · exact (strange_iff (x := ⟨a, b, u, v⟩) (r3.log.regs e he)).1 (h5 b (by simp) e (.inl he))
              · exact (strange_iff (x := ⟨a, b, u, v⟩) (reg e (r3.err e he))).1 (h5 b (by simp) e (.inr he))
  · rintro ⟨x, rfl, h⟩
    have reg : ∀ e : Entry', e.err = 0 → e.id.r = 0 ∨ e.id.r = 1 := fun e he => r_of_ok (ok_of_err he)
    have hsf : sitesFrom 0 x.w.sites = 0 := sitesFrom_two.2 ⟨⟨h.ra, h.ia⟩, h.rb, h.ib⟩
    have hwy : waysErr (strange x.w) x.w.ways = 0 := waysErr_iff.2 fun y hy => by
      have hy : y = x.u ∨ y = x.v := by simpa [W4.w] using hy
      rcases hy with rfl | rfl
      · exact wayErr_iff.2 ⟨h.lu, fun e he => ⟨(h.eu e (.inl he)).1, (strange_iff (reg e (h.eu e (.inl he)).1)).2 (h.eu e (.inl he)).2⟩⟩
      · exact wayErr_iff.2 ⟨h.lv, fun e he => ⟨(h.eu e (.inr he)).1, (strange_iff (reg e (h.eu e (.inr he)).1)).2 (h.eu e (.inr he)).2⟩⟩
    have hst : x.w.sites.any (strangeS x.w) = false := by
      rw [List.any_eq_false]
      intro s hs
      have hs : s = x.a ∨ s = x.b := by simpa [W4.w] using hs
      unfold strangeS
      rw [Bool.or_eq_true, List.any_eq_true, List.any_eq_true]
      rintro (⟨e, he, k⟩ | ⟨e, he, k⟩)
      · rcases hs with rfl | rfl
        · rw [(strange_iff (h.ra.log.regs e he)).2 (h.bl e (.inl he))] at k; cases k
        · rw [(strange_iff (h.rb.log.regs e he)).2 (h.bl e (.inr (.inr (.inl he))))] at k; cases k
      · rcases hs with rfl | rfl
        · rw [(strange_iff (reg e (h.ra.err e he))).2 (h.bl e (.inr (.inl he)))] at k; cases k
        · rw [(strange_iff (reg e (h.rb.err e he))).2 (h.bl e (.inr (.inr (.inr he))))] at k; cases k
    unfold worldErr
    rw [if_neg (by simp [W4.w]), if_neg (by simp [hsf]), if_neg (by simp [hwy]), if_neg (by simp [hst])]
theorem app_mem {s : Site'} {c : Int} {t : ByteArray} (h : appErr s c t = 0) {x : Entry'} (hx : x ∈ (appAns s c t).log ∨ x ∈ (appAns s c t).waits) : x ∈ s.log ∨ x = newE s.region s.log c t ∨ x ∈ s.waits := by
  obtain ⟨h1, h2⟩ := appErr_zero h
  rw [(app_comes h1 h2).2.1] at hx
  rcases ((settle_after (app_beside h1 h2)).1.both x).1 hx with k | k
  · rcases List.mem_append.1 k with k | k
    · exact .inl k
    · exact .inr (.inl (by simpa using k))
  · exact .inr (.inr k)
def W4.siteAt (x : W4) (i : Int) : Site' := if i = 0 then x.a else x.b
def W4.wayAt (x : W4) (i : Int) : List Entry' := if i = 0 then x.u else x.v
def W4.setSite (x : W4) (i : Int) (s : Site') : W4 := if i = 0 then ⟨s, x.b, x.u, x.v⟩ else ⟨x.a, s, x.u, x.v⟩
def W4.setWay (x : W4) (i : Int) (l : List Entry') : W4 := if i = 0 then ⟨x.a, x.b, l, x.v⟩ else ⟨x.a, x.b, x.u, l⟩
def doErr4 (x : W4) (t : Act') : Int :=
  if t.kind = 1 then appErr (x.siteAt t.at') t.colors t.text
  else if t.kind = 5 then 0
  else if t.n < 0 ∨ ((x.wayAt t.at').length : Int) ≤ t.n then 5
  else if t.kind = 4 ∧ (x.wayAt t.at').length = 30 then 2 else 0
def nth0 (l : List Entry') (n : Nat) : Entry' := (l[n]?).getD zeroE
def doAns4 (x : W4) (t : Act') : W4 :=
  if t.kind = 1 then
    if (x.wayAt (1 - t.at')).length < 30 then (x.setSite t.at' (appAns (x.siteAt t.at') t.colors t.text)).setWay (1 - t.at') (x.wayAt (1 - t.at') ++ [appE (x.siteAt t.at') t.colors t.text])
    else x.setSite t.at' (appAns (x.siteAt t.at') t.colors t.text)
  else if t.kind = 5 then x.setSite t.at' (bring (x.siteAt t.at') (ownOf (x.siteAt (1 - t.at')).log (1 - t.at')))
  else if t.kind = 2 then (x.setSite t.at' (recvAns (x.siteAt t.at') (nth0 (x.wayAt t.at') t.n.toNat))).setWay t.at' ((x.wayAt t.at').eraseIdx t.n.toNat)
  else if t.kind = 3 then x.setWay t.at' ((x.wayAt t.at').eraseIdx t.n.toNat)
  else x.setWay t.at' (x.wayAt t.at' ++ [nth0 (x.wayAt t.at') t.n.toNat])
theorem logOf_a (x : W4) : x.logOf 0 = x.a.log := rfl
/-- A site that has got to know more. -/
theorem WorldR.site0 {x : W4} (h : WorldR x) {s : Site'} (hs : SiteR s) (hi : s.region = 0) (hl : ∀ e ∈ x.a.log, e ∈ s.log) (hm : ∀ e, e ∈ s.log ∨ e ∈ s.waits → e.id.r = 1 → e ∈ x.b.log) : WorldR ⟨s, x.b, x.u, x.v⟩ := by
  have reg : ∀ e : Entry', e.err = 0 → e.id.r = 0 ∨ e.id.r = 1 := fun e he => by have := r_of_ok (ok_of_err he); omega
  have up : ∀ e : Entry', e.id.r = 0 ∨ e.id.r = 1 → e ∈ x.logOf e.id.r → e ∈ W4.logOf ⟨s, x.b, x.u, x.v⟩ e.id.r := fun e hr he => by
    unfold W4.logOf at he ⊢
    rcases hr with k | k <;> rw [k] at he ⊢
    · exact hl e he
    · exact he
  have mine : ∀ e : Entry', e ∈ s.log ∨ e ∈ s.waits → e ∈ W4.logOf ⟨s, x.b, x.u, x.v⟩ e.id.r := fun e he => by
    have her : e.err = 0 := he.elim (fun he => hs.log.mem he) fun he => hs.err e he
    rcases reg e her with k | k
    · have hx : e ∈ s.log := he.elim id fun hw => absurd k (by rw [← hi]; exact hs.far e hw)
      unfold W4.logOf
      rw [k]
      exact hx
    · have := hm e he k
      unfold W4.logOf
      rw [k]
      exact this
  refine ⟨hs, h.rb, hi, h.ib, h.lu, h.lv, fun e he => ?_, fun e he => ?_⟩
  · obtain ⟨k1, k2⟩ := h.eu e he
    exact ⟨k1, up e (r_of_ok (ok_of_err k1)) k2⟩
  · rcases he with he | he | he | he
    · exact mine e (.inl he)
    · exact mine e (.inr he)
    · exact up e (h.rb.log.regs e he) (h.bl e (.inr (.inr (.inl he))))
    · exact up e (r_of_ok (ok_of_err (h.rb.err e he))) (h.bl e (.inr (.inr (.inr he))))
theorem WorldR.way0 {x : W4} (h : WorldR x) {l : List Entry'} (hl : l.length ≤ 30) (hm : ∀ e ∈ l, e.err = 0 ∧ e ∈ x.logOf e.id.r) : WorldR ⟨x.a, x.b, l, x.v⟩ := by
  refine ⟨h.ra, h.rb, h.ia, h.ib, hl, h.lv, fun e he => ?_, h.bl⟩
  rcases he with he | he
  · exact hm e he
  · exact h.eu e (.inr he)
theorem WorldR.app0 {x : W4} (h : WorldR x) {c : Int} {t : ByteArray} (h0 : appErr x.a c t = 0) : WorldR ⟨(appAns x.a c t), x.b, x.u, x.v⟩ ∧ appE x.a c t ∈ (appAns x.a c t).log ∧ (appE x.a c t).err = 0 ∧ (appE x.a c t).id.r = 0 := by
  obtain ⟨⟨u, hu⟩, hreg, _⟩ := app_ext h0
  obtain ⟨k1, k2⟩ := appErr_zero h0
  have hE := (app_comes k1 k2).2.2.2
  have hR := app_right h0
  have hin : appE x.a c t ∈ (appAns x.a c t).log := by rw [hE, hu]; simp
  have hr : (appE x.a c t).id.r = 0 := by rw [hE]; exact h.ia
  refine ⟨h.site0 hR (by rw [hreg]; exact h.ia) (fun e he => by rw [hu]; simp [he]) fun e he k => ?_, hin, hR.log.mem hin, hr⟩
  rcases app_mem h0 he with he | rfl | he
  · have := h.bl e (.inl he)
    rw [k] at this
    exact this
  · rw [hE] at hr
    rw [hr] at k
    cases k
  · have := h.bl e (.inr (.inl he))
    rw [k] at this
    exact this
theorem WorldR.recv0 {x : W4} (h : WorldR x) {e : Entry'} (he : e.err = 0) (hb : e ∈ x.logOf e.id.r) : recvErr x.a e = 0 ∧ WorldR ⟨(recvAns x.a e), x.b, x.u, x.v⟩ := by
  have hz : recvErr x.a e = 0 := by
    rcases r_of_ok (ok_of_err he) with k | k
    · rw [k] at hb; exact (recv_there h.ra he (thereS_iff.2 ⟨e, .inl hb, rfl⟩)).1
    · exact recv_far h.ra he (by rw [k, h.ia]; decide)
  obtain ⟨⟨u, hu⟩, hreg⟩ := recv_ext hz
  refine ⟨hz, h.site0 (recv_right hz) (by rw [hreg]; exact h.ia) (fun y hy => by rw [hu]; simp [hy]) fun y hy k => ?_⟩
  rcases recv_mem hz hy with hy | hy | rfl
  · have := h.bl y (.inl hy)
    rw [k] at this
    exact this
  · have := h.bl y (.inr (.inl hy))
    rw [k] at this
    exact this
  · rw [k] at hb
    exact hb
theorem WorldR.all0 {x : W4} (h : WorldR x) : Brought x.a (ownOf x.b.log 1) ∧ WorldR ⟨(bring x.a (ownOf x.b.log 1)), x.b, x.u, x.v⟩ ∧ (∀ e ∈ x.b.log, e ∈ (bring x.a (ownOf x.b.log 1)).log) ∧ (bring x.a (ownOf x.b.log 1)).waits = [] := by
  have hq := bring_all h.ra h.rb (by rw [h.ia, h.ib]; decide) (fun e he k => by
    rw [h.ib] at k
    have := h.bl e (he.elim (fun he => (.inl he)) fun he => (.inr (.inl he)))
    rw [k] at this
    exact this) (fun e he k => by
    rw [h.ia] at k
    have := h.bl e (.inr (.inr (.inl he)))
    rw [k] at this
    exact this)
  rw [h.ib] at hq
  obtain ⟨hb, h1, h2⟩ := hq
  obtain ⟨u, hu⟩ := hb.ext
  refine ⟨hb, h.site0 hb.right (by rw [hb.region]; exact h.ia) (fun y hy => by rw [hu]; simp [hy]) (fun y hy k => ?_), h1, h2⟩
  rcases hb.from' y hy with hy | hy | hy
  · have := h.bl y (.inl hy)
    rw [k] at this
    exact this
  · have := h.bl y (.inr (.inl hy))
    rw [k] at this
    exact this
  · exact (mem_ownOf.1 hy).1
theorem logOf_b (x : W4) : x.logOf 1 = x.b.log := rfl
/-- A site that has got to know more. -/
theorem WorldR.site1 {x : W4} (h : WorldR x) {s : Site'} (hs : SiteR s) (hi : s.region = 1) (hl : ∀ e ∈ x.b.log, e ∈ s.log) (hm : ∀ e, e ∈ s.log ∨ e ∈ s.waits → e.id.r = 0 → e ∈ x.a.log) : WorldR ⟨x.a, s, x.u, x.v⟩ := by
  have reg : ∀ e : Entry', e.err = 0 → e.id.r = 1 ∨ e.id.r = 0 := fun e he => by have := r_of_ok (ok_of_err he); omega
  have up : ∀ e : Entry', e.id.r = 0 ∨ e.id.r = 1 → e ∈ x.logOf e.id.r → e ∈ W4.logOf ⟨x.a, s, x.u, x.v⟩ e.id.r := fun e hr he => by
    unfold W4.logOf at he ⊢
    rcases hr with k | k <;> rw [k] at he ⊢
    · exact he
    · exact hl e he
  have mine : ∀ e : Entry', e ∈ s.log ∨ e ∈ s.waits → e ∈ W4.logOf ⟨x.a, s, x.u, x.v⟩ e.id.r := fun e he => by
    have her : e.err = 0 := he.elim (fun he => hs.log.mem he) fun he => hs.err e he
    rcases reg e her with k | k
    · have hx : e ∈ s.log := he.elim id fun hw => absurd k (by rw [← hi]; exact hs.far e hw)
      unfold W4.logOf
      rw [k]
      exact hx
    · have := hm e he k
      unfold W4.logOf
      rw [k]
      exact this
  refine ⟨h.ra, hs, h.ia, hi, h.lu, h.lv, fun e he => ?_, fun e he => ?_⟩
  · obtain ⟨k1, k2⟩ := h.eu e he
    exact ⟨k1, up e (r_of_ok (ok_of_err k1)) k2⟩
  · rcases he with he | he | he | he
    · exact up e (h.ra.log.regs e he) (h.bl e (.inl he))
    · exact up e (r_of_ok (ok_of_err (h.ra.err e he))) (h.bl e (.inr (.inl he)))
    · exact mine e (.inl he)
    · exact mine e (.inr he)
theorem WorldR.way1 {x : W4} (h : WorldR x) {l : List Entry'} (hl : l.length ≤ 30) (hm : ∀ e ∈ l, e.err = 0 ∧ e ∈ x.logOf e.id.r) : WorldR ⟨x.a, x.b, x.u, l⟩ := by
  refine ⟨h.ra, h.rb, h.ia, h.ib, h.lu, hl, fun e he => ?_, h.bl⟩
  rcases he with he | he
  · exact h.eu e (.inl he)
  · exact hm e he
theorem WorldR.app1 {x : W4} (h : WorldR x) {c : Int} {t : ByteArray} (h0 : appErr x.b c t = 0) : WorldR ⟨x.a, (appAns x.b c t), x.u, x.v⟩ ∧ appE x.b c t ∈ (appAns x.b c t).log ∧ (appE x.b c t).err = 0 ∧ (appE x.b c t).id.r = 1 := by
  obtain ⟨⟨u, hu⟩, hreg, _⟩ := app_ext h0
  obtain ⟨k1, k2⟩ := appErr_zero h0
  have hE := (app_comes k1 k2).2.2.2
  have hR := app_right h0
  have hin : appE x.b c t ∈ (appAns x.b c t).log := by rw [hE, hu]; simp
  have hr : (appE x.b c t).id.r = 1 := by rw [hE]; exact h.ib
  refine ⟨h.site1 hR (by rw [hreg]; exact h.ib) (fun e he => by rw [hu]; simp [he]) fun e he k => ?_, hin, hR.log.mem hin, hr⟩
  rcases app_mem h0 he with he | rfl | he
  · have := h.bl e (.inr (.inr (.inl he)))
    rw [k] at this
    exact this
  · rw [hE] at hr
    rw [hr] at k
    cases k
  · have := h.bl e (.inr (.inr (.inr he)))
    rw [k] at this
    exact this
theorem WorldR.recv1 {x : W4} (h : WorldR x) {e : Entry'} (he : e.err = 0) (hb : e ∈ x.logOf e.id.r) : recvErr x.b e = 0 ∧ WorldR ⟨x.a, (recvAns x.b e), x.u, x.v⟩ := by
  have hz : recvErr x.b e = 0 := by
    rcases r_of_ok (ok_of_err he) with k | k
    · exact recv_far h.rb he (by rw [k, h.ib]; decide)
    · rw [k] at hb; exact (recv_there h.rb he (thereS_iff.2 ⟨e, .inl hb, rfl⟩)).1
  obtain ⟨⟨u, hu⟩, hreg⟩ := recv_ext hz
  refine ⟨hz, h.site1 (recv_right hz) (by rw [hreg]; exact h.ib) (fun y hy => by rw [hu]; simp [hy]) fun y hy k => ?_⟩
  rcases recv_mem hz hy with hy | hy | rfl
  · have := h.bl y (.inr (.inr (.inl hy)))
    rw [k] at this
    exact this
  · have := h.bl y (.inr (.inr (.inr hy)))
    rw [k] at this
    exact this
  · rw [k] at hb
    exact hb
theorem WorldR.all1 {x : W4} (h : WorldR x) : Brought x.b (ownOf x.a.log 0) ∧ WorldR ⟨x.a, (bring x.b (ownOf x.a.log 0)), x.u, x.v⟩ ∧ (∀ e ∈ x.a.log, e ∈ (bring x.b (ownOf x.a.log 0)).log) ∧ (bring x.b (ownOf x.a.log 0)).waits = [] := by
  have hq := bring_all h.rb h.ra (by rw [h.ib, h.ia]; decide) (fun e he k => by
    rw [h.ia] at k
    have := h.bl e (he.elim (fun he => (.inr (.inr (.inl he)))) fun he => (.inr (.inr (.inr he))))
    rw [k] at this
    exact this) (fun e he k => by
    rw [h.ib] at k
    have := h.bl e (.inl he)
    rw [k] at this
    exact this)
  rw [h.ia] at hq
  obtain ⟨hb, h1, h2⟩ := hq
  obtain ⟨u, hu⟩ := hb.ext
  refine ⟨hb, h.site1 hb.right (by rw [hb.region]; exact h.ib) (fun y hy => by rw [hu]; simp [hy]) (fun y hy k => ?_), h1, h2⟩
  rcases hb.from' y hy with hy | hy | hy
  · have := h.bl y (.inr (.inr (.inl hy)))
    rw [k] at this
    exact this
  · have := h.bl y (.inr (.inr (.inr hy)))
    rw [k] at this
    exact this
  · exact (mem_ownOf.1 hy).1
end Go.Proofs.YtlioojekjnigiafGreat.AM
/- Worlds: Do. -/
namespace Go.Proofs.YtlioojekjnigiafGreat.AM
set_option linter.unusedVariables false
set_option linter.unusedSimpArgs false

theorem ret_of (o : Option AVal) (x : AVal) : (∃ y, o = some y ∧ y = x) → (match o with
    | some y => fA y fun y => Ret y x
    | none => False) := by
  rintro ⟨y, rfl, rfl⟩
  show fA y _
  rw [fA_eq]
  exact ⟨rfl⟩
def W4.of (w : World') : W4 := ⟨(w.sites[0]?).getD ⟨0, [], []⟩, (w.sites[1]?).getD ⟨0, [], []⟩, (w.ways[0]?).getD [], (w.ways[1]?).getD []⟩
theorem W4.of_w (x : W4) : W4.of x.w = x := rfl
def doErr (w : World') (t : Act') : Int := if worldErr w ≠ 0 then worldErr w else if actErr t ≠ 0 then actErr t else doErr4 (W4.of w) t
def doAns (w : World') (t : Act') : World' := if doErr w t ≠ 0 then ⟨[], []⟩ else (doAns4 (W4.of w) t).w
theorem act_facts {t : Act'} (h : actErr t = 0) : (t.kind = 1 ∨ t.kind = 2 ∨ t.kind = 3 ∨ t.kind = 4 ∨ t.kind = 5) ∧ (t.at' = 0 ∨ t.at' = 1) := by
  unfold actErr at h
  split at h
  · cases h
  · rename_i h1
    split at h
    · cases h
    · split at h
      · cases h
      · rename_i h2; omega
theorem nth0_lt {l : List Entry'} {n : Nat} (h : n < l.length) : nth0 l n = l[n] := by unfold nth0; rw [List.getElem?_eq_getElem h]; rfl
theorem do_right10 {x : W4} (h : WorldR x) (n c : Int) (tx : ByteArray) (h0 : appErr x.a c tx = 0) : WorldR (doAns4 x ⟨1, 0, n, c, tx⟩) := by
  obtain ⟨k1, k2, k3, k4⟩ := h.app0 h0
  by_cases hf : x.v.length < 30
  · have hA : doAns4 x ⟨1, 0, n, c, tx⟩ = ⟨(appAns x.a c tx), x.b, x.u, x.v ++ [appE x.a c tx]⟩ := by
      show (if x.v.length < 30 then _ else _) = _
      rw [if_pos hf]
      rfl
    rw [hA]
    refine k1.way1 (by show (x.v ++ [appE x.a c tx]).length ≤ 30; simp; omega) fun e he => ?_
    rcases List.mem_append.1 he with he | he
    · exact k1.eu e (.inr he)
    · have : e = appE x.a c tx := by simpa using he
      rw [this, k4]
      exact ⟨k3, k2⟩
  · have hA : doAns4 x ⟨1, 0, n, c, tx⟩ = ⟨(appAns x.a c tx), x.b, x.u, x.v⟩ := by
      show (if x.v.length < 30 then _ else _) = _
      rw [if_neg hf]
      rfl
    rw [hA]
    exact k1
theorem do_right20 {x : W4} (h : WorldR x) (m : Nat) (c : Int) (tx : ByteArray) (hm : m < x.u.length) : WorldR (doAns4 x ⟨2, 0, m, c, tx⟩) := by
  obtain ⟨e1, e2⟩ := h.eu _ (.inl (List.getElem_mem hm))
  have k1 := (h.recv0 e1 e2).2
  have hA : doAns4 x ⟨2, 0, m, c, tx⟩ = ⟨recvAns x.a (nth0 x.u m), x.b, x.u.eraseIdx m, x.v⟩ := rfl
  rw [hA, nth0_lt hm]
  refine k1.way0 (Nat.le_trans (List.length_eraseIdx_le _ _) h.lu) fun e he => ?_
  exact k1.eu e (.inl (List.mem_of_mem_eraseIdx he))
theorem do_right30 {x : W4} (h : WorldR x) (m : Nat) (c : Int) (tx : ByteArray) : WorldR (doAns4 x ⟨3, 0, m, c, tx⟩) :=
  h.way0 (l := x.u.eraseIdx m) (Nat.le_trans (List.length_eraseIdx_le _ _) h.lu) fun e he => h.eu e (.inl (List.mem_of_mem_eraseIdx he))
theorem do_right40 {x : W4} (h : WorldR x) (m : Nat) (c : Int) (tx : ByteArray) (hm : m < x.u.length) (hf : x.u.length ≠ 30) : WorldR (doAns4 x ⟨4, 0, m, c, tx⟩) := by
  have hA : doAns4 x ⟨4, 0, m, c, tx⟩ = ⟨x.a, x.b, x.u ++ [nth0 x.u m], x.v⟩ := rfl
  have hl := h.lu
  rw [hA, nth0_lt hm]
  refine h.way0 (by simp; omega) fun e he => ?_
  rcases List.mem_append.1 he with he | he
  · exact h.eu e (.inl he)
  · have : e = x.u[m] := by simpa using he
    rw [this]
    exact h.eu _ (.inl (List.getElem_mem hm))
theorem do_right11 {x : W4} (h : WorldR x) (n c : Int) (tx : ByteArray) (h0 : appErr x.b c tx = 0) : WorldR (doAns4 x ⟨1, 1, n, c, tx⟩) := by
  obtain ⟨k1, k2, k3, k4⟩ := h.app1 h0
  by_cases hf : x.u.length < 30
  · have hA : doAns4 x ⟨1, 1, n, c, tx⟩ = ⟨x.a, (appAns x.b c tx), x.u ++ [appE x.b c tx], x.v⟩ := by
      show (if x.u.length < 30 then _ else _) = _
      rw [if_pos hf]
      rfl
    rw [hA]
    refine k1.way0 (by show (x.u ++ [appE x.b c tx]).length ≤ 30; simp; omega) fun e he => ?_
    rcases List.mem_append.1 he with he | he
    · exact k1.eu e (.inl he)
    · have : e = appE x.b c tx := by simpa using he
      rw [this, k4]
      exact ⟨k3, k2⟩
  · have hA : doAns4 x ⟨1, 1, n, c, tx⟩ = ⟨x.a, (appAns x.b c tx), x.u, x.v⟩ := by
      show (if x.u.length < 30 then _ else _) = _
      rw [if_neg hf]
      rfl
    rw [hA]
    exact k1
theorem do_right21 {x : W4} (h : WorldR x) (m : Nat) (c : Int) (tx : ByteArray) (hm : m < x.v.length) : WorldR (doAns4 x ⟨2, 1, m, c, tx⟩) := by
  obtain ⟨e1, e2⟩ := h.eu _ (.inr (List.getElem_mem hm))
  have k1 := (h.recv1 e1 e2).2
  have hA : doAns4 x ⟨2, 1, m, c, tx⟩ = ⟨x.a, recvAns x.b (nth0 x.v m), x.u, x.v.eraseIdx m⟩ := rfl
  rw [hA, nth0_lt hm]
  refine k1.way1 (Nat.le_trans (List.length_eraseIdx_le _ _) h.lv) fun e he => ?_
  exact k1.eu e (.inr (List.mem_of_mem_eraseIdx he))
theorem do_right31 {x : W4} (h : WorldR x) (m : Nat) (c : Int) (tx : ByteArray) : WorldR (doAns4 x ⟨3, 1, m, c, tx⟩) :=
  h.way1 (l := x.v.eraseIdx m) (Nat.le_trans (List.length_eraseIdx_le _ _) h.lv) fun e he => h.eu e (.inr (List.mem_of_mem_eraseIdx he))
theorem do_right41 {x : W4} (h : WorldR x) (m : Nat) (c : Int) (tx : ByteArray) (hm : m < x.v.length) (hf : x.v.length ≠ 30) : WorldR (doAns4 x ⟨4, 1, m, c, tx⟩) := by
  have hA : doAns4 x ⟨4, 1, m, c, tx⟩ = ⟨x.a, x.b, x.u, x.v ++ [nth0 x.v m]⟩ := rfl
  have hl := h.lv
  rw [hA, nth0_lt hm]
  refine h.way1 (by simp; omega) fun e he => ?_
  rcases List.mem_append.1 he with he | he
  · exact h.eu e (.inr he)
  · have : e = x.v[m] := by simpa using he
    rw [this]
    exact h.eu _ (.inr (List.getElem_mem hm))

theorem do_right50 {x : W4} (h : WorldR x) (n c : Int) (tx : ByteArray) : WorldR (doAns4 x ⟨5, 0, n, c, tx⟩) := h.all0.2.1

theorem do_right51 {x : W4} (h : WorldR x) (n c : Int) (tx : ByteArray) : WorldR (doAns4 x ⟨5, 1, n, c, tx⟩) := h.all1.2.1
theorem W4.ok {x : W4} (h : WorldR x) : WorldOk x.w := by
  refine ⟨fun s hs => ?_, fun y hy => ?_, by simp [W4.w], by simp [W4.w]⟩
  · have hs : s = x.a ∨ s = x.b := by simpa [W4.w] using hs
    rcases hs with rfl | rfl
    · exact h.ra.ok
    · exact h.rb.ok
  · have hy : y = x.u ∨ y = x.v := by simpa [W4.w] using hy
    have hlu := h.lu
    have hlv := h.lv
    rcases hy with rfl | rfl
    · exact ⟨by omega, fun e he => by have := (six_of (h.eu e (.inl he)).1).2; omega⟩
    · exact ⟨by omega, fun e he => by have := (six_of (h.eu e (.inr he)).1).2; omega⟩
set_option maxHeartbeats 0 in
theorem Do_ok (w : World') (hw : WorldOk w) (t : Act') : PCall Tryz.prog 42 [w.arg, t.arg] (.tup [(doAns w t).arg, dInt (doErr w t)]) := by
  refine pcall_cut tab_all tab_mixed Tryz.func42 (by kernel_rfl) Tryz.ntmps42 rfl ?_
  conv => whnf
  conv => whnf
  repeat (first | (refine Conf.mk (by kernel_rfl) ?_; conv => whnf) | (refine SeqOk.go ?_; conv => whnf))
  refine .data _ _ (worldCheck_ok w hw) rfl ?_
  conv => whnf
  repeat (first | (refine Conf.mk (by kernel_rfl) ?_; conv => whnf) | (refine SeqOk.go ?_; conv => whnf))
  by_cases h1 : worldErr w = 0
  · obtain ⟨x, rfl, hR⟩ := worldErr_iff.1 h1
    refine BoolCase.no (by simp [h1]) ?_
    conv => whnf
    repeat (first | (refine Conf.mk (by kernel_rfl) ?_; conv => whnf) | (refine SeqOk.go ?_; conv => whnf))
    refine .data _ _ (checkAct_ok t) rfl ?_
    conv => whnf
    repeat (first | (refine Conf.mk (by kernel_rfl) ?_; conv => whnf) | (refine SeqOk.go ?_; conv => whnf))
    by_cases h2 : actErr t = 0
    · have hD : doErr x.w t = doErr4 x t := by unfold doErr; rw [if_neg (by simp [h1]), if_neg (by simp [h2])]; rfl
      have hlu := hR.lu
      have hlv := hR.lv
      have hal := hR.ra.log.len
      have haw := hR.ra.len
      have hbl := hR.rb.log.len
      have hbw := hR.rb.len
      have kk : ∀ e : Entry', e.err = 0 → e.links.length ≤ 1000 := fun e he => by have := (six_of he).2; omega
      have hcp := wcopyOf_ok x.a x.b x.u x.v (fun e he => (List.mem_append.1 he).elim (fun he => kk e (hR.ra.log.mem he)) fun he => kk e (hR.ra.err e he)) (fun e he => (List.mem_append.1 he).elim (fun he => kk e (hR.rb.log.mem he)) fun he => kk e (hR.rb.err e he)) (fun e he => kk e (hR.eu e (List.mem_append.1 he)).1) (by omega)
      refine BoolCase.no (by simp [h2]) ?_
      conv => whnf
      repeat (first | (refine Conf.mk (by kernel_rfl) ?_; conv => whnf) | (refine SeqOk.go ?_; conv => whnf))
      refine .eff [] _ _ _ _ 4 hcp rfl rfl rfl rfl rfl ?_
      conv => whnf
      repeat (first | (refine Conf.mk (by kernel_rfl) ?_; conv => whnf) | (refine SeqOk.go ?_; conv => whnf))
      obtain ⟨hk, hi⟩ := act_facts h2
      obtain ⟨k, i, n, c, tx⟩ := t
      simp only at hk hi
      rcases hi with rfl | rfl
      · rcases hk with rfl | rfl | rfl | rfl | rfl
        · by_cases h3 : appErr x.a c tx = 0
          · by_cases hf : x.v.length < 30
            · skip
              have hE : doErr4 x ⟨1, 0, n, c, tx⟩ = 0 := h3
              have hA : doAns x.w ⟨1, 0, n, c, tx⟩ = W4.w ⟨(appAns x.a c tx), x.b, x.u, (x.v ++ [appE x.a c tx])⟩ := by
                unfold doAns
                rw [hD, hE, if_neg (by decide), W4.of_w]
                show W4.w (if x.v.length < 30 then _ else _) = _; rw [if_pos hf]; rfl
              rw [hE] at hD
              refine .eff [7, 3, 4, 5, 6] _ _ _ _ 1 (do_write0_ok x.a x.b x.u x.v c tx n hR.ra.ok h3 (by omega) hf) rfl rfl rfl rfl rfl ?_
              conv => whnf
              repeat (first | (refine Conf.mk (by kernel_rfl) ?_; conv => whnf) | (refine SeqOk.go ?_; conv => whnf))
              refine BoolCase.no rfl ?_
              conv => whnf
              repeat (first | (refine Conf.mk (by kernel_rfl) ?_; conv => whnf) | (refine SeqOk.go ?_; conv => whnf))
              refine ret_of _ _ ?_
              exact ⟨.tup [(W4.w ⟨(appAns x.a c tx), x.b, x.u, (x.v ++ [appE x.a c tx])⟩).arg, dInt 0], by kernel_rfl, by rw [hD, hA]⟩
            · skip
              have hE : doErr4 x ⟨1, 0, n, c, tx⟩ = 0 := h3
              have hA : doAns x.w ⟨1, 0, n, c, tx⟩ = W4.w ⟨(appAns x.a c tx), x.b, x.u, x.v⟩ := by
                unfold doAns
                rw [hD, hE, if_neg (by decide), W4.of_w]
                show W4.w (if x.v.length < 30 then _ else _) = _; rw [if_neg hf]; rfl
              rw [hE] at hD
              refine .eff [7, 3, 4, 5, 6] _ _ _ _ 0 (do_write0_full x.a x.b x.u x.v c tx n hR.ra.ok h3 (by omega) (by omega)) rfl rfl rfl rfl rfl ?_
              conv => whnf
              repeat (first | (refine Conf.mk (by kernel_rfl) ?_; conv => whnf) | (refine SeqOk.go ?_; conv => whnf))
              refine BoolCase.no rfl ?_
              conv => whnf
              repeat (first | (refine Conf.mk (by kernel_rfl) ?_; conv => whnf) | (refine SeqOk.go ?_; conv => whnf))
              refine ret_of _ _ ?_
              exact ⟨.tup [(W4.w ⟨(appAns x.a c tx), x.b, x.u, x.v⟩).arg, dInt 0], by kernel_rfl, by rw [hD, hA]⟩
          · skip
            have hE : doErr4 x ⟨1, 0, n, c, tx⟩ = appErr x.a c tx := rfl
            rw [hE] at hD
            have hA : doAns x.w ⟨1, 0, n, c, tx⟩ = ⟨[], []⟩ := by unfold doAns; rw [hD, if_pos (by first | decide | assumption)]
            refine .eff [7, 3, 4, 5, 6] _ _ _ _ 0 (do_write0_no x.a x.b x.u x.v c tx n hR.ra.ok h3) rfl rfl rfl rfl rfl ?_
            conv => whnf
            repeat (first | (refine Conf.mk (by kernel_rfl) ?_; conv => whnf) | (refine SeqOk.go ?_; conv => whnf))
            refine BoolCase.yes (by first | rfl | simpa using h3) ?_
            conv => whnf
            repeat (first | (refine Conf.mk (by kernel_rfl) ?_; conv => whnf) | (refine SeqOk.go ?_; conv => whnf))
            exact Ret.to (by rw [hD, hA]; rfl)
        · by_cases h3 : n < 0 ∨ (x.u.length : Int) ≤ n
          · skip
            have hE : doErr4 x ⟨2, 0, n, c, tx⟩ = 5 := by show (if n < 0 ∨ (x.u.length : Int) ≤ n then _ else _) = _; rw [if_pos h3]
            rw [hE] at hD
            have hA : doAns x.w ⟨2, 0, n, c, tx⟩ = ⟨[], []⟩ := by unfold doAns; rw [hD, if_pos (by first | decide | assumption)]
            refine .eff [7, 3, 4, 5, 6] _ _ _ _ 0 (do_bring0_no x.a x.b x.u x.v n c tx (by omega) h3) rfl rfl rfl rfl rfl ?_
            conv => whnf
            repeat (first | (refine Conf.mk (by kernel_rfl) ?_; conv => whnf) | (refine SeqOk.go ?_; conv => whnf))
            refine BoolCase.yes (by first | rfl | simpa using h3) ?_
            conv => whnf
            repeat (first | (refine Conf.mk (by kernel_rfl) ?_; conv => whnf) | (refine SeqOk.go ?_; conv => whnf))
            exact Ret.to (by rw [hD, hA]; rfl)
          · obtain ⟨m, rfl⟩ : ∃ m : Nat, n = m := ⟨n.toNat, by omega⟩
            have hm : m < x.u.length := by omega
            obtain ⟨e1, e2⟩ := hR.eu _ (.inl (List.getElem_mem hm))
            have e6 := (six_of e1).2
            obtain ⟨hz, _⟩ := hR.recv0 e1 e2
            have hE : doErr4 x ⟨2, 0, m, c, tx⟩ = 0 := by show (if (m : Int) < 0 ∨ (x.u.length : Int) ≤ (m : Int) then _ else _) = _; rw [if_neg h3]; rfl
            have hA : doAns x.w ⟨2, 0, m, c, tx⟩ = W4.w ⟨(recvAns x.a x.u[m]), x.b, (x.u.eraseIdx m), x.v⟩ := by
              unfold doAns
              rw [hD, hE, if_neg (by decide), W4.of_w]
              rw [← nth0_lt hm]; rfl
            rw [hE] at hD
            refine .eff [7, 3, 4, 5, 6] _ _ _ _ 1 (do_bring0_ok x.a x.b x.u x.v m c tx (by omega) hm hR.ra.ok (by omega) hz) rfl rfl rfl rfl rfl ?_
            conv => whnf
            repeat (first | (refine Conf.mk (by kernel_rfl) ?_; conv => whnf) | (refine SeqOk.go ?_; conv => whnf))
            refine BoolCase.no rfl ?_
            conv => whnf
            repeat (first | (refine Conf.mk (by kernel_rfl) ?_; conv => whnf) | (refine SeqOk.go ?_; conv => whnf))
            refine ret_of _ _ ?_
            exact ⟨.tup [(W4.w ⟨(recvAns x.a x.u[m]), x.b, (x.u.eraseIdx m), x.v⟩).arg, dInt 0], by kernel_rfl, by rw [hD, hA]⟩
        · by_cases h3 : n < 0 ∨ (x.u.length : Int) ≤ n
          · skip
            have hE : doErr4 x ⟨3, 0, n, c, tx⟩ = 5 := by show (if n < 0 ∨ (x.u.length : Int) ≤ n then _ else _) = _; rw [if_pos h3]
            rw [hE] at hD
            have hA : doAns x.w ⟨3, 0, n, c, tx⟩ = ⟨[], []⟩ := by unfold doAns; rw [hD, if_pos (by first | decide | assumption)]
            refine .eff [7, 3, 4, 5, 6] _ _ _ _ 0 (do_lose0_no x.a x.b x.u x.v n c tx (by omega) h3) rfl rfl rfl rfl rfl ?_
            conv => whnf
            repeat (first | (refine Conf.mk (by kernel_rfl) ?_; conv => whnf) | (refine SeqOk.go ?_; conv => whnf))
            refine BoolCase.yes (by first | rfl | simpa using h3) ?_
            conv => whnf
            repeat (first | (refine Conf.mk (by kernel_rfl) ?_; conv => whnf) | (refine SeqOk.go ?_; conv => whnf))
            exact Ret.to (by rw [hD, hA]; rfl)
          · obtain ⟨m, rfl⟩ : ∃ m : Nat, n = m := ⟨n.toNat, by omega⟩
            have hm : m < x.u.length := by omega
            obtain ⟨e1, e2⟩ := hR.eu _ (.inl (List.getElem_mem hm))
            have e6 := (six_of e1).2
            have hE : doErr4 x ⟨3, 0, m, c, tx⟩ = 0 := by show (if (m : Int) < 0 ∨ (x.u.length : Int) ≤ (m : Int) then _ else _) = _; rw [if_neg h3]; rfl
            have hA : doAns x.w ⟨3, 0, m, c, tx⟩ = W4.w ⟨x.a, x.b, (x.u.eraseIdx m), x.v⟩ := by
              unfold doAns
              rw [hD, hE, if_neg (by decide), W4.of_w]
              rfl
            rw [hE] at hD
            refine .eff [7, 3, 4, 5, 6] _ _ _ _ 1 (do_lose0_ok x.a x.b x.u x.v m c tx (by omega) hm) rfl rfl rfl rfl rfl ?_
            conv => whnf
            repeat (first | (refine Conf.mk (by kernel_rfl) ?_; conv => whnf) | (refine SeqOk.go ?_; conv => whnf))
            refine BoolCase.no rfl ?_
            conv => whnf
            repeat (first | (refine Conf.mk (by kernel_rfl) ?_; conv => whnf) | (refine SeqOk.go ?_; conv => whnf))
            refine ret_of _ _ ?_
            exact ⟨.tup [(W4.w ⟨x.a, x.b, (x.u.eraseIdx m), x.v⟩).arg, dInt 0], by kernel_rfl, by rw [hD, hA]⟩
        · by_cases h3 : n < 0 ∨ (x.u.length : Int) ≤ n
          · skip
            have hE : doErr4 x ⟨4, 0, n, c, tx⟩ = 5 := by show (if n < 0 ∨ (x.u.length : Int) ≤ n then _ else _) = _; rw [if_pos h3]
            rw [hE] at hD
            have hA : doAns x.w ⟨4, 0, n, c, tx⟩ = ⟨[], []⟩ := by unfold doAns; rw [hD, if_pos (by first | decide | assumption)]
            refine .eff [7, 3, 4, 5, 6] _ _ _ _ 0 (do_again0_no x.a x.b x.u x.v n c tx (by omega) h3) rfl rfl rfl rfl rfl ?_
            conv => whnf
            repeat (first | (refine Conf.mk (by kernel_rfl) ?_; conv => whnf) | (refine SeqOk.go ?_; conv => whnf))
            refine BoolCase.yes (by first | rfl | simpa using h3) ?_
            conv => whnf
            repeat (first | (refine Conf.mk (by kernel_rfl) ?_; conv => whnf) | (refine SeqOk.go ?_; conv => whnf))
            exact Ret.to (by rw [hD, hA]; rfl)
          · obtain ⟨m, rfl⟩ : ∃ m : Nat, n = m := ⟨n.toNat, by omega⟩
            have hm : m < x.u.length := by omega
            obtain ⟨e1, e2⟩ := hR.eu _ (.inl (List.getElem_mem hm))
            have e6 := (six_of e1).2
            by_cases hf : x.u.length = 30
            · skip
              have hE : doErr4 x ⟨4, 0, m, c, tx⟩ = 2 := by show (if (m : Int) < 0 ∨ (x.u.length : Int) ≤ (m : Int) then _ else (if (4 : Int) = 4 ∧ x.u.length = 30 then _ else _)) = _; rw [if_neg h3, if_pos ⟨rfl, hf⟩]
              rw [hE] at hD
              have hA : doAns x.w ⟨4, 0, m, c, tx⟩ = ⟨[], []⟩ := by unfold doAns; rw [hD, if_pos (by first | decide | assumption)]
              refine .eff [7, 3, 4, 5, 6] _ _ _ _ 0 (do_again0_full x.a x.b x.u x.v m c tx (by omega) hm hf) rfl rfl rfl rfl rfl ?_
              conv => whnf
              repeat (first | (refine Conf.mk (by kernel_rfl) ?_; conv => whnf) | (refine SeqOk.go ?_; conv => whnf))
              refine BoolCase.yes (by first | rfl | simpa using h3) ?_
              conv => whnf
              repeat (first | (refine Conf.mk (by kernel_rfl) ?_; conv => whnf) | (refine SeqOk.go ?_; conv => whnf))
              exact Ret.to (by rw [hD, hA]; rfl)
            · skip
              have hE : doErr4 x ⟨4, 0, m, c, tx⟩ = 0 := by show (if (m : Int) < 0 ∨ (x.u.length : Int) ≤ (m : Int) then _ else (if (4 : Int) = 4 ∧ x.u.length = 30 then _ else _)) = _; rw [if_neg h3, if_neg fun k => hf k.2]
              have hA : doAns x.w ⟨4, 0, m, c, tx⟩ = W4.w ⟨x.a, x.b, (x.u ++ [x.u[m]]), x.v⟩ := by
                unfold doAns
                rw [hD, hE, if_neg (by decide), W4.of_w]
                rw [← nth0_lt hm]; rfl
              rw [hE] at hD
              refine .eff [7, 3, 4, 5, 6] _ _ _ _ 1 (do_again0_ok x.a x.b x.u x.v m c tx (by omega) hm hf (by omega)) rfl rfl rfl rfl rfl ?_
              conv => whnf
              repeat (first | (refine Conf.mk (by kernel_rfl) ?_; conv => whnf) | (refine SeqOk.go ?_; conv => whnf))
              refine BoolCase.no rfl ?_
              conv => whnf
              repeat (first | (refine Conf.mk (by kernel_rfl) ?_; conv => whnf) | (refine SeqOk.go ?_; conv => whnf))
              refine ret_of _ _ ?_
              exact ⟨.tup [(W4.w ⟨x.a, x.b, (x.u ++ [x.u[m]]), x.v⟩).arg, dInt 0], by kernel_rfl, by rw [hD, hA]⟩
        · have hE : doErr4 x ⟨5, 0, n, c, tx⟩ = 0 := rfl
          have hA : doAns x.w ⟨5, 0, n, c, tx⟩ = W4.w ⟨(bring x.a (ownOf x.b.log 1)), x.b, x.u, x.v⟩ := by
            unfold doAns
            rw [hD, hE, if_neg (by decide), W4.of_w]
            rfl
          rw [hE] at hD
          refine .eff [7, 3, 4, 5, 6] _ _ _ _ 0 (do_all0_ok x.a x.b x.u x.v n c tx hR.ra hR.ia hR.rb.log) rfl rfl rfl rfl rfl ?_
          conv => whnf
          repeat (first | (refine Conf.mk (by kernel_rfl) ?_; conv => whnf) | (refine SeqOk.go ?_; conv => whnf))
          refine BoolCase.no rfl ?_
          conv => whnf
          repeat (first | (refine Conf.mk (by kernel_rfl) ?_; conv => whnf) | (refine SeqOk.go ?_; conv => whnf))
          refine ret_of _ _ ?_
          exact ⟨.tup [(W4.w ⟨(bring x.a (ownOf x.b.log 1)), x.b, x.u, x.v⟩).arg, dInt 0], by kernel_rfl, by rw [hD, hA]⟩
      · rcases hk with rfl | rfl | rfl | rfl | rfl
        · by_cases h3 : appErr x.b c tx = 0
          · by_cases hf : x.u.length < 30
            · skip
              have hE : doErr4 x ⟨1, 1, n, c, tx⟩ = 0 := h3
              have hA : doAns x.w ⟨1, 1, n, c, tx⟩ = W4.w ⟨x.a, (appAns x.b c tx), (x.u ++ [appE x.b c tx]), x.v⟩ := by
                unfold doAns
                rw [hD, hE, if_neg (by decide), W4.of_w]
                show W4.w (if x.u.length < 30 then _ else _) = _; rw [if_pos hf]; rfl
              rw [hE] at hD
              refine .eff [7, 3, 4, 5, 6] _ _ _ _ 1 (do_write1_ok x.a x.b x.u x.v c tx n hR.rb.ok h3 (by omega) hf) rfl rfl rfl rfl rfl ?_
              conv => whnf
              repeat (first | (refine Conf.mk (by kernel_rfl) ?_; conv => whnf) | (refine SeqOk.go ?_; conv => whnf))
              refine BoolCase.no rfl ?_
              conv => whnf
              repeat (first | (refine Conf.mk (by kernel_rfl) ?_; conv => whnf) | (refine SeqOk.go ?_; conv => whnf))
              refine ret_of _ _ ?_
              exact ⟨.tup [(W4.w ⟨x.a, (appAns x.b c tx), (x.u ++ [appE x.b c tx]), x.v⟩).arg, dInt 0], by kernel_rfl, by rw [hD, hA]⟩
            · skip
              have hE : doErr4 x ⟨1, 1, n, c, tx⟩ = 0 := h3
              have hA : doAns x.w ⟨1, 1, n, c, tx⟩ = W4.w ⟨x.a, (appAns x.b c tx), x.u, x.v⟩ := by
                unfold doAns
                rw [hD, hE, if_neg (by decide), W4.of_w]
                show W4.w (if x.u.length < 30 then _ else _) = _; rw [if_neg hf]; rfl
              rw [hE] at hD
              refine .eff [7, 3, 4, 5, 6] _ _ _ _ 0 (do_write1_full x.a x.b x.u x.v c tx n hR.rb.ok h3 (by omega) (by omega)) rfl rfl rfl rfl rfl ?_
              conv => whnf
              repeat (first | (refine Conf.mk (by kernel_rfl) ?_; conv => whnf) | (refine SeqOk.go ?_; conv => whnf))
              refine BoolCase.no rfl ?_
              conv => whnf
              repeat (first | (refine Conf.mk (by kernel_rfl) ?_; conv => whnf) | (refine SeqOk.go ?_; conv => whnf))
              refine ret_of _ _ ?_
              exact ⟨.tup [(W4.w ⟨x.a, (appAns x.b c tx), x.u, x.v⟩).arg, dInt 0], by kernel_rfl, by rw [hD, hA]⟩
          · skip
            have hE : doErr4 x ⟨1, 1, n, c, tx⟩ = appErr x.b c tx := rfl
            rw [hE] at hD
            have hA : doAns x.w ⟨1, 1, n, c, tx⟩ = ⟨[], []⟩ := by unfold doAns; rw [hD, if_pos (by first | decide | assumption)]
            refine .eff [7, 3, 4, 5, 6] _ _ _ _ 0 (do_write1_no x.a x.b x.u x.v c tx n hR.rb.ok h3) rfl rfl rfl rfl rfl ?_
            conv => whnf
            repeat (first | (refine Conf.mk (by kernel_rfl) ?_; conv => whnf) | (refine SeqOk.go ?_; conv => whnf))
            refine BoolCase.yes (by first | rfl | simpa using h3) ?_
            conv => whnf
            repeat (first | (refine Conf.mk (by kernel_rfl) ?_; conv => whnf) | (refine SeqOk.go ?_; conv => whnf))
            exact Ret.to (by rw [hD, hA]; rfl)
        · by_cases h3 : n < 0 ∨ (x.v.length : Int) ≤ n
          · skip
            have hE : doErr4 x ⟨2, 1, n, c, tx⟩ = 5 := by show (if n < 0 ∨ (x.v.length : Int) ≤ n then _ else _) = _; rw [if_pos h3]
            rw [hE] at hD
            have hA : doAns x.w ⟨2, 1, n, c, tx⟩ = ⟨[], []⟩ := by unfold doAns; rw [hD, if_pos (by first | decide | assumption)]
            refine .eff [7, 3, 4, 5, 6] _ _ _ _ 0 (do_bring1_no x.a x.b x.u x.v n c tx (by omega) h3) rfl rfl rfl rfl rfl ?_
            conv => whnf
            repeat (first | (refine Conf.mk (by kernel_rfl) ?_; conv => whnf) | (refine SeqOk.go ?_; conv => whnf))
            refine BoolCase.yes (by first | rfl | simpa using h3) ?_
            conv => whnf
            repeat (first | (refine Conf.mk (by kernel_rfl) ?_; conv => whnf) | (refine SeqOk.go ?_; conv => whnf))
            exact Ret.to (by rw [hD, hA]; rfl)
          · obtain ⟨m, rfl⟩ : ∃ m : Nat, n = m := ⟨n.toNat, by omega⟩
            have hm : m < x.v.length := by omega
            obtain ⟨e1, e2⟩ := hR.eu _ (.inr (List.getElem_mem hm))
            have e6 := (six_of e1).2
            obtain ⟨hz, _⟩ := hR.recv1 e1 e2
            have hE : doErr4 x ⟨2, 1, m, c, tx⟩ = 0 := by show (if (m : Int) < 0 ∨ (x.v.length : Int) ≤ (m : Int) then _ else _) = _; rw [if_neg h3]; rfl
            have hA : doAns x.w ⟨2, 1, m, c, tx⟩ = W4.w ⟨x.a, (recvAns x.b x.v[m]), x.u, (x.v.eraseIdx m)⟩ := by
              unfold doAns
              rw [hD, hE, if_neg (by decide), W4.of_w]
              rw [← nth0_lt hm]; rfl
            rw [hE] at hD
            refine .eff [7, 3, 4, 5, 6] _ _ _ _ 1 (do_bring1_ok x.a x.b x.u x.v m c tx (by omega) hm hR.rb.ok (by omega) hz) rfl rfl rfl rfl rfl ?_
            conv => whnf
            repeat (first | (refine Conf.mk (by kernel_rfl) ?_; conv => whnf) | (refine SeqOk.go ?_; conv => whnf))
            refine BoolCase.no rfl ?_
            conv => whnf
            repeat (first | (refine Conf.mk (by kernel_rfl) ?_; conv => whnf) | (refine SeqOk.go ?_; conv => whnf))
            refine ret_of _ _ ?_
            exact ⟨.tup [(W4.w ⟨x.a, (recvAns x.b x.v[m]), x.u, (x.v.eraseIdx m)⟩).arg, dInt 0], by kernel_rfl, by rw [hD, hA]⟩
        · by_cases h3 : n < 0 ∨ (x.v.length : Int) ≤ n
          · skip
            have hE : doErr4 x ⟨3, 1, n, c, tx⟩ = 5 := by show (if n < 0 ∨ (x.v.length : Int) ≤ n then _ else _) = _; rw [if_pos h3]
            rw [hE] at hD
            have hA : doAns x.w ⟨3, 1, n, c, tx⟩ = ⟨[], []⟩ := by unfold doAns; rw [hD, if_pos (by first | decide | assumption)]
            refine .eff [7, 3, 4, 5, 6] _ _ _ _ 0 (do_lose1_no x.a x.b x.u x.v n c tx (by omega) h3) rfl rfl rfl rfl rfl ?_
            conv => whnf
            repeat (first | (refine Conf.mk (by kernel_rfl) ?_; conv => whnf) | (refine SeqOk.go ?_; conv => whnf))
            refine BoolCase.yes (by first | rfl | simpa using h3) ?_
            conv => whnf
            repeat (first | (refine Conf.mk (by kernel_rfl) ?_; conv => whnf) | (refine SeqOk.go ?_; conv => whnf))
            exact Ret.to (by rw [hD, hA]; rfl)
          · obtain ⟨m, rfl⟩ : ∃ m : Nat, n = m := ⟨n.toNat, by omega⟩
            have hm : m < x.v.length := by omega
            obtain ⟨e1, e2⟩ := hR.eu _ (.inr (List.getElem_mem hm))
            have e6 := (six_of e1).2
            have hE : doErr4 x ⟨3, 1, m, c, tx⟩ = 0 := by show (if (m : Int) < 0 ∨ (x.v.length : Int) ≤ (m : Int) then _ else _) = _; rw [if_neg h3]; rfl
            have hA : doAns x.w ⟨3, 1, m, c, tx⟩ = W4.w ⟨x.a, x.b, x.u, (x.v.eraseIdx m)⟩ := by
              unfold doAns
              rw [hD, hE, if_neg (by decide), W4.of_w]
              rfl
            rw [hE] at hD
            refine .eff [7, 3, 4, 5, 6] _ _ _ _ 1 (do_lose1_ok x.a x.b x.u x.v m c tx (by omega) hm) rfl rfl rfl rfl rfl ?_
            conv => whnf
            repeat (first | (refine Conf.mk (by kernel_rfl) ?_; conv => whnf) | (refine SeqOk.go ?_; conv => whnf))
            refine BoolCase.no rfl ?_
            conv => whnf
            repeat (first | (refine Conf.mk (by kernel_rfl) ?_; conv => whnf) | (refine SeqOk.go ?_; conv => whnf))
            refine ret_of _ _ ?_
            exact ⟨.tup [(W4.w ⟨x.a, x.b, x.u, (x.v.eraseIdx m)⟩).arg, dInt 0], by kernel_rfl, by rw [hD, hA]⟩
        · by_cases h3 : n < 0 ∨ (x.v.length : Int) ≤ n
          · skip
            have hE : doErr4 x ⟨4, 1, n, c, tx⟩ = 5 := by show (if n < 0 ∨ (x.v.length : Int) ≤ n then _ else _) = _; rw [if_pos h3]
            rw [hE] at hD
            have hA : doAns x.w ⟨4, 1, n, c, tx⟩ = ⟨[], []⟩ := by unfold doAns; rw [hD, if_pos (by first | decide | assumption)]
            refine .eff [7, 3, 4, 5, 6] _ _ _ _ 0 (do_again1_no x.a x.b x.u x.v n c tx (by omega) h3) rfl rfl rfl rfl rfl ?_
            conv => whnf
            repeat (first | (refine Conf.mk (by kernel_rfl) ?_; conv => whnf) | (refine SeqOk.go ?_; conv => whnf))
            refine BoolCase.yes (by first | rfl | simpa using h3) ?_
            conv => whnf
            repeat (first | (refine Conf.mk (by kernel_rfl) ?_; conv => whnf) | (refine SeqOk.go ?_; conv => whnf))
            exact Ret.to (by rw [hD, hA]; rfl)
          · obtain ⟨m, rfl⟩ : ∃ m : Nat, n = m := ⟨n.toNat, by omega⟩
            have hm : m < x.v.length := by omega
            obtain ⟨e1, e2⟩ := hR.eu _ (.inr (List.getElem_mem hm))
            have e6 := (six_of e1).2
            by_cases hf : x.v.length = 30
            · skip
              have hE : doErr4 x ⟨4, 1, m, c, tx⟩ = 2 := by show (if (m : Int) < 0 ∨ (x.v.length : Int) ≤ (m : Int) then _ else (if (4 : Int) = 4 ∧ x.v.length = 30 then _ else _)) = _; rw [if_neg h3, if_pos ⟨rfl, hf⟩]
              rw [hE] at hD
              have hA : doAns x.w ⟨4, 1, m, c, tx⟩ = ⟨[], []⟩ := by unfold doAns; rw [hD, if_pos (by first | decide | assumption)]
              refine .eff [7, 3, 4, 5, 6] _ _ _ _ 0 (do_again1_full x.a x.b x.u x.v m c tx (by omega) hm hf) rfl rfl rfl rfl rfl ?_
              conv => whnf
              repeat (first | (refine Conf.mk (by kernel_rfl) ?_; conv => whnf) | (refine SeqOk.go ?_; conv => whnf))
              refine BoolCase.yes (by first | rfl | simpa using h3) ?_
              conv => whnf
              repeat (first | (refine Conf.mk (by kernel_rfl) ?_; conv => whnf) | (refine SeqOk.go ?_; conv => whnf))
              exact Ret.to (by rw [hD, hA]; rfl)
            · skip
              have hE : doErr4 x ⟨4, 1, m, c, tx⟩ = 0 := by show (if (m : Int) < 0 ∨ (x.v.length : Int) ≤ (m : Int) then _ else (if (4 : Int) = 4 ∧ x.v.length = 30 then _ else _)) = _; rw [if_neg h3, if_neg fun k => hf k.2]
              have hA : doAns x.w ⟨4, 1, m, c, tx⟩ = W4.w ⟨x.a, x.b, x.u, (x.v ++ [x.v[m]])⟩ := by
                unfold doAns
                rw [hD, hE, if_neg (by decide), W4.of_w]
                rw [← nth0_lt hm]; rfl
              rw [hE] at hD
              refine .eff [7, 3, 4, 5, 6] _ _ _ _ 1 (do_again1_ok x.a x.b x.u x.v m c tx (by omega) hm hf (by omega)) rfl rfl rfl rfl rfl ?_
              conv => whnf
              repeat (first | (refine Conf.mk (by kernel_rfl) ?_; conv => whnf) | (refine SeqOk.go ?_; conv => whnf))
              refine BoolCase.no rfl ?_
              conv => whnf
              repeat (first | (refine Conf.mk (by kernel_rfl) ?_; conv => whnf) | (refine SeqOk.go ?_; conv => whnf))
              refine ret_of _ _ ?_
              exact ⟨.tup [(W4.w ⟨x.a, x.b, x.u, (x.v ++ [x.v[m]])⟩).arg, dInt 0], by kernel_rfl, by rw [hD, hA]⟩
        · have hE : doErr4 x ⟨5, 1, n, c, tx⟩ = 0 := rfl
          have hA : doAns x.w ⟨5, 1, n, c, tx⟩ = W4.w ⟨x.a, (bring x.b (ownOf x.a.log 0)), x.u, x.v⟩ := by
            unfold doAns
            rw [hD, hE, if_neg (by decide), W4.of_w]
            rfl
          rw [hE] at hD
          refine .eff [7, 3, 4, 5, 6] _ _ _ _ 0 (do_all1_ok x.a x.b x.u x.v n c tx hR.rb hR.ib hR.ra.log) rfl rfl rfl rfl rfl ?_
          conv => whnf
          repeat (first | (refine Conf.mk (by kernel_rfl) ?_; conv => whnf) | (refine SeqOk.go ?_; conv => whnf))
          refine BoolCase.no rfl ?_
          conv => whnf
          repeat (first | (refine Conf.mk (by kernel_rfl) ?_; conv => whnf) | (refine SeqOk.go ?_; conv => whnf))
          refine ret_of _ _ ?_
          exact ⟨.tup [(W4.w ⟨x.a, (bring x.b (ownOf x.a.log 0)), x.u, x.v⟩).arg, dInt 0], by kernel_rfl, by rw [hD, hA]⟩
    · have hE : doErr x.w t = actErr t := by unfold doErr; rw [if_neg (by simp [h1]), if_pos h2]
      have hA : doAns x.w t = ⟨[], []⟩ := by unfold doAns; rw [if_pos (by rw [hE]; exact h2)]
      refine BoolCase.yes (by simp [h2]) ?_
      conv => whnf
      repeat (first | (refine Conf.mk (by kernel_rfl) ?_; conv => whnf) | (refine SeqOk.go ?_; conv => whnf))
      exact Ret.to (by rw [hE, hA]; rfl)
  · have hE : doErr w t = worldErr w := by unfold doErr; rw [if_pos h1]
    have hA : doAns w t = ⟨[], []⟩ := by unfold doAns; rw [if_pos (by rw [hE]; exact h1)]
    refine BoolCase.yes (by simp [h1]) ?_
    conv => whnf
    repeat (first | (refine Conf.mk (by kernel_rfl) ?_; conv => whnf) | (refine SeqOk.go ?_; conv => whnf))
    exact Ret.to (by rw [hE, hA]; rfl)
end Go.Proofs.YtlioojekjnigiafGreat.AM
/- Plain: what is done, whatever it is; what settles. -/
namespace Go.Proofs.YtlioojekjnigiafGreat.AM
set_option linter.unusedVariables false
set_option linter.unusedSimpArgs false

theorem at_range {x : W4} {t : Act'} (h1 : t.kind ≠ 1) (h5 : t.kind ≠ 5) (hd : doErr4 x t = 0) : ∃ m : Nat, t.n = m ∧ m < (x.wayAt t.at').length ∧ (t.kind = 4 → (x.wayAt t.at').length ≠ 30) := by
  unfold doErr4 at hd
  rw [if_neg h1, if_neg h5] at hd
  split at hd
  · cases hd
  · rename_i h2
    refine ⟨t.n.toNat, by omega, by omega, fun k4 k30 => ?_⟩
    rw [if_pos ⟨k4, k30⟩] at hd
    cases hd
theorem do_right4' {x : W4} (h : WorldR x) {t : Act'} (ha : actErr t = 0) (hd : doErr4 x t = 0) : WorldR (doAns4 x t) := by
  obtain ⟨hk, hi⟩ := act_facts ha
  by_cases k1 : t.kind = 1
  · obtain ⟨k, i, n, c, tx⟩ := t
    simp only at k1 hi
    subst k1
    rcases hi with rfl | rfl
    · exact do_right10 h n c tx hd
    · exact do_right11 h n c tx hd
  · by_cases k5 : t.kind = 5
    · obtain ⟨k, i, n, c, tx⟩ := t
      simp only at k5 hi
      subst k5
      rcases hi with rfl | rfl
      · exact do_right50 h n c tx
      · exact do_right51 h n c tx
    · obtain ⟨m, hm, hml, hf⟩ := at_range k1 k5 hd
      obtain ⟨k, i, n, c, tx⟩ := t
      simp only at k1 k5 hi hk hm hml hf
      subst hm
      rcases hi with rfl | rfl
      · rcases hk with rfl | rfl | rfl | rfl | rfl
        · exact absurd rfl k1
        · exact do_right20 h m c tx hml
        · exact do_right30 h m c tx
        · exact do_right40 h m c tx hml (hf rfl)
        · exact absurd rfl k5
      · rcases hk with rfl | rfl | rfl | rfl | rfl
        · exact absurd rfl k1
        · exact do_right21 h m c tx hml
        · exact do_right31 h m c tx
        · exact do_right41 h m c tx hml (hf rfl)
        · exact absurd rfl k5
theorem do_facts {w : World'} {t : Act'} (h : doErr w t = 0) : ∃ x : W4, w = x.w ∧ WorldR x ∧ actErr t = 0 ∧ doErr4 x t = 0 ∧ doAns w t = (doAns4 x t).w ∧ WorldR (doAns4 x t) := by
  have h0 := h
  unfold doErr at h
  split at h
  · rename_i h1; exact absurd h h1
  · rename_i h1
    split at h
    · rename_i h2; exact absurd h h2
    · rename_i h2
      obtain ⟨x, rfl, hR⟩ := worldErr_iff.1 (by simpa using h1)
      have h2 : actErr t = 0 := by simpa using h2
      refine ⟨x, rfl, hR, h2, h, ?_, do_right4' hR h2 h⟩
      unfold doAns
      rw [if_neg (by simp [h0]), W4.of_w]
theorem doAns_ok (w : World') (t : Act') : WorldOk (doAns w t) := by
  by_cases h : doErr w t = 0
  · obtain ⟨x, _, _, _, _, h1, h2⟩ := do_facts h
    rw [h1]
    exact W4.ok h2
  · unfold doAns
    rw [if_pos h]
    exact ⟨by simp, by simp, by simp, by simp⟩
def actAll (i : Int) : Act' := ⟨5, i, 0, 0, ByteArray.empty⟩
theorem actAll_ok {i : Int} (h : i = 0 ∨ i = 1) : actErr (actAll i) = 0 := by
  rcases h with rfl | rfl <;> kernel_rfl
theorem doErr_all (w : World') {i : Int} (h : i = 0 ∨ i = 1) : doErr w (actAll i) = worldErr w := by
  unfold doErr
  by_cases h1 : worldErr w = 0
  · rw [if_neg (by simp [h1]), if_neg (by simp [actAll_ok h]), h1]
    rfl
  · rw [if_pos h1]
def setAns (w : World') : World' := if worldErr w ≠ 0 then ⟨[], []⟩ else doAns (doAns w (actAll 0)) (actAll 1)
theorem worldR_err {x : W4} (h : WorldR x) : worldErr x.w = 0 := worldErr_iff.2 ⟨x, rfl, h⟩
def settled (x : W4) : W4 := doAns4 (doAns4 x (actAll 0)) (actAll 1)
theorem setAns_of {x : W4} (h : WorldR x) : setAns x.w = (settled x).w ∧ WorldR (doAns4 x (actAll 0)) ∧ WorldR (settled x) := by
  have k1 := do_right50 h 0 0 ByteArray.empty
  have k2 := do_right51 k1 0 0 ByteArray.empty
  have e0 : doErr x.w (actAll 0) = 0 := by rw [doErr_all _ (.inl rfl), worldR_err h]
  have a0 : doAns x.w (actAll 0) = (doAns4 x (actAll 0)).w := by unfold doAns; rw [if_neg (by simp [e0]), W4.of_w]
  have e1 : doErr (doAns4 x (actAll 0)).w (actAll 1) = 0 := by rw [doErr_all _ (.inr rfl)]; exact worldR_err k1
  refine ⟨?_, k1, k2⟩
  unfold setAns
  rw [if_neg (by simp [worldR_err h]), a0]
  unfold doAns
  rw [if_neg (by simp [e1]), W4.of_w]
  rfl
theorem setAns_ok (w : World') : WorldOk (setAns w) := by
  by_cases h : worldErr w = 0
  · obtain ⟨x, rfl, hR⟩ := worldErr_iff.1 h
    rw [(setAns_of hR).1]
    exact W4.ok (setAns_of hR).2.2
  · unfold setAns
    rw [if_pos h]
    exact ⟨by simp, by simp, by simp, by simp⟩
theorem bring_id {s : Site'} (h : SiteR s) : ∀ {l : List Entry'}, (∀ e ∈ l, e.err = 0 ∧ thereS s e = true) → bring s l = s
  | [], _ => rfl
  | e :: t, hl => by
    obtain ⟨h1, h2⟩ := hl e (by simp)
    show bring (recvAns s e) t = s
    rw [(recv_there h h1 h2).2]
    exact bring_id h fun x hx => hl x (by simp [hx])
/-- Behind Settle both have the same entries, and nothing waits. -/
theorem settled_facts {x : W4} (h : WorldR x) : (settled x).a.waits = [] ∧ (settled x).b.waits = [] ∧ (∀ e, e ∈ (settled x).a.log ↔ e ∈ (settled x).b.log) ∧ (settled x).a.log.length = (settled x).b.log.length ∧ settled (settled x) = settled x := by
  obtain ⟨b1, k1, f1, w1⟩ := h.all0
  obtain ⟨b2, k2, f2, w2⟩ := k1.all1
  have hs : settled x = ⟨bring x.a (ownOf x.b.log 1), bring x.b (ownOf (bring x.a (ownOf x.b.log 1)).log 0), x.u, x.v⟩ := rfl
  have hboth : ∀ e, e ∈ (bring x.a (ownOf x.b.log 1)).log ↔ e ∈ (bring x.b (ownOf (bring x.a (ownOf x.b.log 1)).log 0)).log := fun e => by
    refine ⟨f2 e, fun he => ?_⟩
    rcases b2.from' e (.inl he) with k | k | k
    · exact f1 e k
    · have hr : e.id.r = 0 := by
        have := h.rb.far e k
        rw [h.ib] at this
        have := r_of_ok (ok_of_err (h.rb.err e k))
        omega
      have := k1.bl e (.inr (.inr (.inr k)))
      rw [hr] at this
      exact this
    · exact (mem_ownOf.1 k).1
  have hRa : Right (bring x.a (ownOf x.b.log 1)).log := k2.ra.log
  have hRb : Right (bring x.b (ownOf (bring x.a (ownOf x.b.log 1)).log 0)).log := k2.rb.log
  have hc : ∀ r, cnt r (bring x.a (ownOf x.b.log 1)).log = cnt r (bring x.b (ownOf (bring x.a (ownOf x.b.log 1)).log 0)).log := fun r =>
    Nat.le_antisymm (cnt_sub hRa hRb (fun e he => (hboth e).1 he) r) (cnt_sub hRb hRa (fun e he => (hboth e).2 he) r)
  have hlen : (bring x.a (ownOf x.b.log 1)).log.length = (bring x.b (ownOf (bring x.a (ownOf x.b.log 1)).log 0)).log.length := by
    rw [← cnt_all hRa.regs, ← cnt_all hRb.regs]
    have h0 := hc 0
    have h1 := hc 1
    omega
  rw [hs]
  refine ⟨w1, w2, hboth, hlen, ?_⟩
  have e1 : bring (bring x.a (ownOf x.b.log 1)) (ownOf (bring x.b (ownOf (bring x.a (ownOf x.b.log 1)).log 0)).log 1) = bring x.a (ownOf x.b.log 1) := bring_id k2.ra fun e he => by
    have hm := (hboth e).2 (mem_ownOf.1 he).1
    exact ⟨hRa.mem hm, thereS_iff.2 ⟨e, .inl hm, rfl⟩⟩
  have e2 : bring (bring x.b (ownOf (bring x.a (ownOf x.b.log 1)).log 0)) (ownOf (bring x.a (ownOf x.b.log 1)).log 0) = bring x.b (ownOf (bring x.a (ownOf x.b.log 1)).log 0) := bring_id k2.rb fun e he => by
    have hm := (hboth e).1 (mem_ownOf.1 he).1
    exact ⟨hRb.mem hm, thereS_iff.2 ⟨e, .inl hm, rfl⟩⟩
  show (⟨bring (bring x.a (ownOf x.b.log 1)) (ownOf (bring x.b (ownOf (bring x.a (ownOf x.b.log 1)).log 0)).log 1), bring (bring x.b (ownOf (bring x.a (ownOf x.b.log 1)).log 0)) (ownOf (bring (bring x.a (ownOf x.b.log 1)) (ownOf (bring x.b (ownOf (bring x.a (ownOf x.b.log 1)).log 0)).log 1)).log 0), x.u, x.v⟩ : W4) = _
  rw [e1, e2]
/-- Logs only grow, and those of the other one stay. -/
theorem do_grows {x : W4} (h : WorldR x) {t : Act'} (ha : actErr t = 0) (hd : doErr4 x t = 0) : (∃ u, (doAns4 x t).a.log = x.a.log ++ u) ∧ (∃ u, (doAns4 x t).b.log = x.b.log ++ u) ∧ (t.at' ≠ 0 → (doAns4 x t).a = x.a) ∧ (t.at' ≠ 1 → (doAns4 x t).b = x.b) := by
  obtain ⟨hk, hi⟩ := act_facts ha
  have nila : ∃ u, x.a.log = x.a.log ++ u := ⟨[], by simp⟩
  have nilb : ∃ u, x.b.log = x.b.log ++ u := ⟨[], by simp⟩
  by_cases k1 : t.kind = 1
  · obtain ⟨k, i, n, c, tx⟩ := t
    simp only at k1 hi
    subst k1
    rcases hi with rfl | rfl
    · obtain ⟨⟨u, hu⟩, _⟩ := app_ext (show appErr x.a c tx = 0 from hd)
      have hA : (doAns4 x ⟨1, 0, n, c, tx⟩).a = appAns x.a c tx ∧ (doAns4 x ⟨1, 0, n, c, tx⟩).b = x.b := by
        show (if x.v.length < 30 then _ else _ : W4).a = _ ∧ (if x.v.length < 30 then _ else _ : W4).b = _
        split <;> exact ⟨rfl, rfl⟩
      rw [hA.1, hA.2]
      exact ⟨⟨_, hu⟩, nilb, fun k => absurd rfl k, fun _ => rfl⟩
    · obtain ⟨⟨u, hu⟩, _⟩ := app_ext (show appErr x.b c tx = 0 from hd)
      have hA : (doAns4 x ⟨1, 1, n, c, tx⟩).b = appAns x.b c tx ∧ (doAns4 x ⟨1, 1, n, c, tx⟩).a = x.a := by
        show (if x.u.length < 30 then _ else _ : W4).b = _ ∧ (if x.u.length < 30 then _ else _ : W4).a = _
        split <;> exact ⟨rfl, rfl⟩
      rw [hA.1, hA.2]
      exact ⟨nila, ⟨_, hu⟩, fun _ => rfl, fun k => absurd rfl k⟩
  · by_cases k5 : t.kind = 5
    · obtain ⟨k, i, n, c, tx⟩ := t
      simp only at k5 hi
      subst k5
      rcases hi with rfl | rfl
      · exact ⟨h.all0.1.ext, nilb, fun k => absurd rfl k, fun _ => rfl⟩
      · exact ⟨nila, h.all1.1.ext, fun _ => rfl, fun k => absurd rfl k⟩
    · obtain ⟨m, hm, hml, hf⟩ := at_range k1 k5 hd
      obtain ⟨k, i, n, c, tx⟩ := t
      simp only at k1 k5 hi hk hm hml hf
      subst hm
      rcases hi with rfl | rfl
      · rcases hk with rfl | rfl | rfl | rfl | rfl
        · exact absurd rfl k1
        · have hm2 : m < x.u.length := hml
          obtain ⟨e1, e2⟩ := h.eu _ (.inl (List.getElem_mem hm2))
          have hA : (doAns4 x ⟨2, 0, m, c, tx⟩).a = recvAns x.a x.u[m] := by rw [← nth0_lt hm2]; rfl
          rw [hA]
          exact ⟨(recv_ext (h.recv0 e1 e2).1).1, nilb, fun k => absurd rfl k, fun _ => rfl⟩
        · exact ⟨nila, nilb, fun _ => rfl, fun _ => rfl⟩
        · exact ⟨nila, nilb, fun _ => rfl, fun _ => rfl⟩
        · exact absurd rfl k5
      · rcases hk with rfl | rfl | rfl | rfl | rfl
        · exact absurd rfl k1
        · have hm2 : m < x.v.length := hml
          obtain ⟨e1, e2⟩ := h.eu _ (.inr (List.getElem_mem hm2))
          have hA : (doAns4 x ⟨2, 1, m, c, tx⟩).b = recvAns x.b x.v[m] := by rw [← nth0_lt hm2]; rfl
          rw [hA]
          exact ⟨nila, (recv_ext (h.recv1 e1 e2).1).1, fun _ => rfl, fun k => absurd rfl k⟩
        · exact ⟨nila, nilb, fun _ => rfl, fun _ => rfl⟩
        · exact ⟨nila, nilb, fun _ => rfl, fun _ => rfl⟩
        · exact absurd rfl k5
end Go.Proofs.YtlioojekjnigiafGreat.AM
/- Worlds: Settle, New; what must be in any case. -/
namespace Go.Proofs.YtlioojekjnigiafGreat.AM
set_option linter.unusedVariables false
set_option linter.unusedSimpArgs false
def boxW (w : World') : Entry := .vars 93 2 [.dat (.list (w.sites.map Site'.enc)), .dat (.list (w.ways.map wayEnc))] true
set_option maxHeartbeats 0 in
theorem Settle_ok (w : World') (hw : WorldOk w) : PCall Tryz.prog 43 [w.arg] (.tup [(setAns w).arg, dInt (worldErr w)]) := by
  have e0 := doErr_all w (.inl rfl)
  have d0 := Do_ok w hw (actAll 0)
  have d1 := Do_ok (doAns w (actAll 0)) (doAns_ok w (actAll 0)) (actAll 1)
  refine pcall_cut tab_all tab_mixed Tryz.func43 (by kernel_rfl) Tryz.ntmps43 rfl ?_
  conv => whnf
  conv => whnf
  repeat (first | (refine Conf.mk (by kernel_rfl) ?_; conv => whnf) | (refine SeqOk.go ?_; conv => whnf))
  refine LoopOk.hide fun Q1 hQ1 => ?_
  refine LoopOk.mk (fun m s => (m = 2 ∧ s = ⟨[(7, dInt 0), (1, .ptr 0 0), (2, .ptr 1 0)], 2, [(0, boxW w), (1, .vars 93 2 [.nil, .nil] true)]⟩) ∨ (m = 1 ∧ worldErr w = 0 ∧ s = ⟨[(7, dInt 1), (1, .ptr 0 0), (2, .ptr 1 0)], 2, [(0, boxW (doAns w (actAll 0))), (1, .vars 93 2 [.nil, .nil] true)]⟩) ∨ (m = 0 ∧ worldErr w = 0 ∧ s = ⟨[(7, dInt 2), (1, .ptr 0 0), (2, .ptr 1 0)], 2, [(0, boxW (doAns (doAns w (actAll 0)) (actAll 1))), (1, .vars 93 2 [.nil, .nil] true)]⟩)) 2 (Into.mono (Into.to [0, 1] [(7, dInt 0), (1, .ptr 0 0), (2, .ptr 1 0)] [(0, boxW w), (1, .vars 93 2 [.nil, .nil] true)] (by repeat (first | exact trivial | refine ⟨.same (congrArg dInt (wrap_up (by omega))), ?_⟩ | refine ⟨.same rfl, ?_⟩ | refine ⟨.any _, ?_⟩)) ⟨⟨rfl, rfl, rfl, .same rfl, rfl, .same rfl, rfl, trivial⟩, ⟨rfl, rfl, rfl, .same rfl, rfl, .same rfl, rfl, trivial⟩, trivial⟩ rfl rfl) fun s' h => .inl ⟨rfl, h⟩) ?_
  rintro m s (⟨rfl, rfl⟩ | ⟨rfl, hz, rfl⟩ | ⟨rfl, hz, rfl⟩)
  · conv => whnf
    repeat (first | (refine Conf.mk (by kernel_rfl) ?_; conv => whnf) | (refine SeqOk.go ?_; conv => whnf))
    refine BoolCase.yes rfl ?_
    conv => whnf
    repeat (first | (refine Conf.mk (by kernel_rfl) ?_; conv => whnf) | (refine SeqOk.go ?_; conv => whnf))
    refine .data _ _ d0 rfl ?_
    conv => whnf
    repeat (first | (refine Conf.mk (by kernel_rfl) ?_; conv => whnf) | (refine SeqOk.go ?_; conv => whnf))
    by_cases hz : worldErr w = 0
    · refine BoolCase.no (by rw [e0, hz]; rfl) ?_
      conv => whnf
      repeat (first | (refine Conf.mk (by kernel_rfl) ?_; conv => whnf) | (refine SeqOk.go ?_; conv => whnf))
      exact Into.mono (Into.to [0, 1] [(7, dInt 1), (1, .ptr 0 0), (2, .ptr 1 0)] [(0, boxW (doAns w (actAll 0))), (1, .vars 93 2 [.nil, .nil] true)] (by repeat (first | exact trivial | refine ⟨.same (congrArg dInt (wrap_up (by omega))), ?_⟩ | refine ⟨.same rfl, ?_⟩ | refine ⟨.any _, ?_⟩)) ⟨⟨rfl, rfl, rfl, .same rfl, rfl, .same rfl, rfl, trivial⟩, ⟨rfl, rfl, rfl, .same rfl, rfl, .same rfl, rfl, trivial⟩, trivial⟩ rfl rfl) fun s' h => ⟨1, by omega, .inr (.inl ⟨rfl, hz, h⟩)⟩
    · refine BoolCase.yes (by rw [e0]; simpa using hz) ?_
      conv => whnf
      repeat (first | (refine Conf.mk (by kernel_rfl) ?_; conv => whnf) | (refine SeqOk.go ?_; conv => whnf))
      subst hQ1
      conv => whnf
      exact Ret.to (by unfold setAns; rw [if_pos hz, e0]; rfl)
  · have e1 : doErr (doAns w (actAll 0)) (actAll 1) = 0 := by
      obtain ⟨x, rfl, hR⟩ := worldErr_iff.1 hz
      rw [doErr_all _ (.inr rfl)]
      have a0 : doAns x.w (actAll 0) = (doAns4 x (actAll 0)).w := by unfold doAns; rw [if_neg (by simp [e0, hz]), W4.of_w]
      rw [a0]
      exact worldR_err (setAns_of hR).2.1
    conv => whnf
    repeat (first | (refine Conf.mk (by kernel_rfl) ?_; conv => whnf) | (refine SeqOk.go ?_; conv => whnf))
    refine BoolCase.yes rfl ?_
    conv => whnf
    repeat (first | (refine Conf.mk (by kernel_rfl) ?_; conv => whnf) | (refine SeqOk.go ?_; conv => whnf))
    refine .data _ _ d1 rfl ?_
    conv => whnf
    repeat (first | (refine Conf.mk (by kernel_rfl) ?_; conv => whnf) | (refine SeqOk.go ?_; conv => whnf))
    refine BoolCase.no (by rw [e1]; rfl) ?_
    conv => whnf
    repeat (first | (refine Conf.mk (by kernel_rfl) ?_; conv => whnf) | (refine SeqOk.go ?_; conv => whnf))
    exact Into.mono (Into.to [0, 1] [(7, dInt 2), (1, .ptr 0 0), (2, .ptr 1 0)] [(0, boxW (doAns (doAns w (actAll 0)) (actAll 1))), (1, .vars 93 2 [.nil, .nil] true)] (by repeat (first | exact trivial | refine ⟨.same (congrArg dInt (wrap_up (by omega))), ?_⟩ | refine ⟨.same rfl, ?_⟩ | refine ⟨.any _, ?_⟩)) ⟨⟨rfl, rfl, rfl, .same rfl, rfl, .same rfl, rfl, trivial⟩, ⟨rfl, rfl, rfl, .same rfl, rfl, .same rfl, rfl, trivial⟩, trivial⟩ rfl rfl) fun s' h => ⟨0, by omega, .inr (.inr ⟨rfl, hz, h⟩)⟩
  · conv => whnf
    repeat (first | (refine Conf.mk (by kernel_rfl) ?_; conv => whnf) | (refine SeqOk.go ?_; conv => whnf))
    refine BoolCase.no rfl ?_
    conv => whnf
    repeat (first | (refine Conf.mk (by kernel_rfl) ?_; conv => whnf) | (refine SeqOk.go ?_; conv => whnf))
    subst hQ1
    conv => whnf
    exact Ret.to (by unfold setAns; rw [if_neg (by simp [hz]), hz]; rfl)
def newW : World' := ⟨[⟨0, [], []⟩, ⟨1, [], []⟩], [[], []]⟩
set_option maxHeartbeats 0 in
theorem New_ok : PCall Tryz.prog 49 [] newW.arg := by
  have n0 := siteNew_ok 0
  rw [show newSite 0 = ⟨0, [], []⟩ from by kernel_rfl] at n0
  have n1 := siteNew_ok 1
  rw [show newSite 1 = ⟨1, [], []⟩ from by kernel_rfl] at n1
  refine pcall_cut tab_all tab_mixed Tryz.func49 (by kernel_rfl) Tryz.ntmps49 rfl ?_
  conv => whnf
  conv => whnf
  repeat (first | (refine Conf.mk (by kernel_rfl) ?_; conv => whnf) | (refine SeqOk.go ?_; conv => whnf))
  refine .mk 2 rfl ?_
  refine ⟨by decide, ?_⟩
  conv => whnf
  repeat (first | (refine Conf.mk (by kernel_rfl) ?_; conv => whnf) | (refine SeqOk.go ?_; conv => whnf))
  refine LoopOk.hide fun Q1 hQ1 => ?_
  refine LoopOk.mk (fun m s => (m = 2 ∧ s = ⟨[(7, dInt 0), (0, .ptr 0 0), (1, .ptr 2 0)], 3, [(0, .vars 93 2 [.nil, .nil] true), (1, .rows 22 1 [[.list []], [.list []]] true), (2, .vars 93 2 [.nil, .row 1] true)]⟩) ∨ (m = 1 ∧ s = ⟨[(7, dInt 1), (0, .ptr 0 0), (1, .ptr 2 0)], 4, [(0, .vars 93 2 [.nil, .nil] true), (1, .rows 22 1 [[.list []], [.list []]] true), (2, .vars 93 2 [.row 3, .row 1] true), (3, .rows 32 3 ([(⟨0, [], []⟩ : Site')].map Site'.enc) true)]⟩) ∨ (m = 0 ∧ s = ⟨[(7, dInt 2), (0, .ptr 0 0), (1, .ptr 2 0)], 4, [(0, .vars 93 2 [.nil, .nil] true), (1, .rows 22 1 [[.list []], [.list []]] true), (2, .vars 93 2 [.row 3, .row 1] true), (3, .rows 32 3 ([(⟨0, [], []⟩ : Site'), ⟨1, [], []⟩].map Site'.enc) true)]⟩)) 2 (Into.mono (Into.to [0, 1, 2] [(7, dInt 0), (0, .ptr 0 0), (1, .ptr 2 0)] [(0, .vars 93 2 [.nil, .nil] true), (1, .rows 22 1 [[.list []], [.list []]] true), (2, .vars 93 2 [.nil, .row 1] true)] (by repeat (first | exact trivial | refine ⟨.same (congrArg dInt (wrap_up (by omega))), ?_⟩ | refine ⟨.same rfl, ?_⟩ | refine ⟨.any _, ?_⟩)) ⟨⟨rfl, rfl, rfl, .same rfl, rfl, .same rfl, rfl, trivial⟩, ⟨rfl, rfl, rfl, rfl⟩, ⟨rfl, rfl, rfl, .same rfl, rfl, .same rfl, rfl, trivial⟩, trivial⟩ rfl rfl) fun s' h => .inl ⟨rfl, h⟩) ?_
  rintro m s (⟨rfl, rfl⟩ | ⟨rfl, rfl⟩ | ⟨rfl, rfl⟩)
  · conv => whnf
    repeat (first | (refine Conf.mk (by kernel_rfl) ?_; conv => whnf) | (refine SeqOk.go ?_; conv => whnf))
    refine BoolCase.yes rfl ?_
    conv => whnf
    repeat (first | (refine Conf.mk (by kernel_rfl) ?_; conv => whnf) | (refine SeqOk.go ?_; conv => whnf))
    refine .data _ _ n0 rfl ?_
    conv => whnf
    repeat (first | (refine Conf.mk (by kernel_rfl) ?_; conv => whnf) | (refine SeqOk.go ?_; conv => whnf))
    refine ⟨by simp, by simp, ?_⟩
    conv => whnf
    repeat (first | (refine Conf.mk (by kernel_rfl) ?_; conv => whnf) | (refine SeqOk.go ?_; conv => whnf))
    exact Into.mono (Into.to [0, 1, 2, 5] [(7, dInt 1), (0, .ptr 0 0), (1, .ptr 2 0)] [(0, .vars 93 2 [.nil, .nil] true), (1, .rows 22 1 [[.list []], [.list []]] true), (2, .vars 93 2 [.row 3, .row 1] true), (3, .rows 32 3 ([(⟨0, [], []⟩ : Site')].map Site'.enc) true)] (by repeat (first | exact trivial | refine ⟨.same (congrArg dInt (wrap_up (by omega))), ?_⟩ | refine ⟨.same rfl, ?_⟩ | refine ⟨.any _, ?_⟩)) ⟨⟨rfl, rfl, rfl, .same rfl, rfl, .same rfl, rfl, trivial⟩, ⟨rfl, rfl, rfl, rfl⟩, ⟨rfl, rfl, rfl, .same rfl, rfl, .same rfl, rfl, trivial⟩, ⟨rfl, rfl, rfl, rfl⟩, trivial⟩ rfl rfl) fun s' h => ⟨1, by omega, .inr (.inl ⟨rfl, h⟩)⟩
  · conv => whnf
    repeat (first | (refine Conf.mk (by kernel_rfl) ?_; conv => whnf) | (refine SeqOk.go ?_; conv => whnf))
    refine BoolCase.yes rfl ?_
    conv => whnf
    repeat (first | (refine Conf.mk (by kernel_rfl) ?_; conv => whnf) | (refine SeqOk.go ?_; conv => whnf))
    refine .data _ _ n1 rfl ?_
    conv => whnf
    repeat (first | (refine Conf.mk (by kernel_rfl) ?_; conv => whnf) | (refine SeqOk.go ?_; conv => whnf))
    refine ⟨by simp, by simp, ?_⟩
    conv => whnf
    repeat (first | (refine Conf.mk (by kernel_rfl) ?_; conv => whnf) | (refine SeqOk.go ?_; conv => whnf))
    exact Into.mono (Into.to [0, 1, 2, 6] [(7, dInt 2), (0, .ptr 0 0), (1, .ptr 2 0)] [(0, .vars 93 2 [.nil, .nil] true), (1, .rows 22 1 [[.list []], [.list []]] true), (2, .vars 93 2 [.row 3, .row 1] true), (3, .rows 32 3 ([(⟨0, [], []⟩ : Site'), ⟨1, [], []⟩].map Site'.enc) true)] (by repeat (first | exact trivial | refine ⟨.same (congrArg dInt (wrap_up (by omega))), ?_⟩ | refine ⟨.same rfl, ?_⟩ | refine ⟨.any _, ?_⟩)) ⟨⟨rfl, rfl, rfl, .same rfl, rfl, .same rfl, rfl, trivial⟩, ⟨rfl, rfl, rfl, rfl⟩, ⟨rfl, rfl, rfl, .same rfl, rfl, .same rfl, rfl, trivial⟩, ⟨rfl, rfl, rfl, rfl⟩, trivial⟩ rfl rfl) fun s' h => ⟨0, by omega, .inr (.inr ⟨rfl, h⟩)⟩
  · conv => whnf
    repeat (first | (refine Conf.mk (by kernel_rfl) ?_; conv => whnf) | (refine SeqOk.go ?_; conv => whnf))
    refine BoolCase.no rfl ?_
    conv => whnf
    repeat (first | (refine Conf.mk (by kernel_rfl) ?_; conv => whnf) | (refine SeqOk.go ?_; conv => whnf))
    subst hQ1
    conv => whnf
    exact Ret.to rfl
def Act'.enc (x : Act') : List D := [.int .i64 x.kind, .int .i64 x.at', .int .i64 x.n, .int .i64 x.colors, .str x.text]
def tX : ByteArray := ⟨#[112, 117, 116, 32, 97, 32, 120]⟩
def tY : ByteArray := ⟨#[112, 117, 116, 32, 97, 32, 121]⟩
def tZ : ByteArray := ⟨#[112, 117, 116, 32, 98, 32, 122]⟩
def someActs : List Act' := [⟨1, 0, 0, 1, tX⟩, ⟨1, 1, 0, 1, tY⟩, ⟨2, 1, 0, 0, ByteArray.empty⟩, ⟨3, 0, 0, 0, ByteArray.empty⟩, ⟨1, 1, 0, 1, tZ⟩, ⟨2, 0, 0, 0, ByteArray.empty⟩]
set_option maxHeartbeats 0 in
theorem acts_ok : PCall Tryz.prog 127 [] (.dat (.list (someActs.map Act'.enc))) := by
  refine pcall_cut tab_all tab_mixed Tryz.func127 (by kernel_rfl) Tryz.ntmps127 rfl ?_
  conv => whnf
  conv => whnf
  repeat (first | (refine Conf.mk (by kernel_rfl) ?_; conv => whnf) | (refine SeqOk.go ?_; conv => whnf))
  exact Ret.to rfl
def eE1 : Entry' := ⟨⟨0, 1⟩, 1, tX, []⟩
def eF1 : Entry' := ⟨⟨1, 1⟩, 1, tY, []⟩
def eF2 : Entry' := ⟨⟨1, 2⟩, 1, tZ, [⟨0, 1⟩, ⟨1, 1⟩]⟩
def wAt : Nat → World'
  | 0 => newW
  | 1 => ⟨[⟨0, [eE1], []⟩, ⟨1, [], []⟩], [[], [eE1]]⟩
  | 2 => ⟨[⟨0, [eE1], []⟩, ⟨1, [eF1], []⟩], [[eF1], [eE1]]⟩
  | 3 => ⟨[⟨0, [eE1], []⟩, ⟨1, [eF1, eE1], []⟩], [[eF1], []]⟩
  | 4 => ⟨[⟨0, [eE1], []⟩, ⟨1, [eF1, eE1], []⟩], [[], []]⟩
  | 5 => ⟨[⟨0, [eE1], []⟩, ⟨1, [eF1, eE1, eF2], []⟩], [[eF2], []]⟩
  | _ => ⟨[⟨0, [eE1], [eF2]⟩, ⟨1, [eF1, eE1, eF2], []⟩], [[], []]⟩
def wSet : World' := ⟨[⟨0, [eE1, eF1, eF2], []⟩, ⟨1, [eF1, eE1, eF2], []⟩], [[], []]⟩
theorem wAt_steps : ∀ k (hk : k < someActs.length), doErr (wAt k) someActs[k] = 0 ∧ doAns (wAt k) someActs[k] = wAt (k + 1) := by
  intro k hk
  have hk : k < 6 := hk
  match k, hk with
  | 0, _ => exact ⟨by kernel_rfl, by kernel_rfl⟩
  | 1, _ => exact ⟨by kernel_rfl, by kernel_rfl⟩
  | 2, _ => exact ⟨by kernel_rfl, by kernel_rfl⟩
  | 3, _ => exact ⟨by kernel_rfl, by kernel_rfl⟩
  | 4, _ => exact ⟨by kernel_rfl, by kernel_rfl⟩
  | 5, _ => exact ⟨by kernel_rfl, by kernel_rfl⟩
theorem wAt_ok (k : Nat) : WorldOk (wAt k) := by
  have all : ∀ k, k ≤ 6 → worldErr (wAt k) = 0 := fun k hk => by
    match k, hk with
    | 0, _ => show worldErr (wAt 0) = 0; kernel_rfl
    | 1, _ => show worldErr (wAt 1) = 0; kernel_rfl
    | 2, _ => show worldErr (wAt 2) = 0; kernel_rfl
    | 3, _ => show worldErr (wAt 3) = 0; kernel_rfl
    | 4, _ => show worldErr (wAt 4) = 0; kernel_rfl
    | 5, _ => show worldErr (wAt 5) = 0; kernel_rfl
    | 6, _ => show worldErr (wAt 6) = 0; kernel_rfl
  have : worldErr (wAt k) = 0 := by
    by_cases hk : k ≤ 6
    · exact all k hk
    · have e : wAt k = wAt 6 := by
        match k, hk with
        | k + 7, _ => rfl
        | 0, h => simp at h
        | 1, h => simp at h
        | 2, h => simp at h
        | 3, h => simp at h
        | 4, h => simp at h
        | 5, h => simp at h
        | 6, h => simp at h
      rw [e]
      exact all 6 (Nat.le_refl _)
  obtain ⟨x, hx, hR⟩ := worldErr_iff.1 this
  rw [hx]
  exact W4.ok hR
set_option maxHeartbeats 0 in
theorem worldBegun_ok : PCall Tryz.prog 47 [] (dBool true) := by
  have hst := Settle_ok (wAt 6) (wAt_ok 6)
  rw [show worldErr (wAt 6) = 0 from by kernel_rfl, show setAns (wAt 6) = wSet from by kernel_rfl] at hst
  have hck := worldCheck_ok (wAt 6) (wAt_ok 6)
  rw [show worldErr (wAt 6) = 0 from by kernel_rfl] at hck
  refine pcall_cut tab_all tab_mixed Tryz.func47 (by kernel_rfl) Tryz.ntmps47 rfl ?_
  conv => whnf
  conv => whnf
  repeat (first | (refine Conf.mk (by kernel_rfl) ?_; conv => whnf) | (refine SeqOk.go ?_; conv => whnf))
  refine .data _ _ New_ok rfl ?_
  conv => whnf
  repeat (first | (refine Conf.mk (by kernel_rfl) ?_; conv => whnf) | (refine SeqOk.go ?_; conv => whnf))
  refine LoopOk.hide fun Q1 hQ1 => ?_
  refine LoopOk.mk (fun m s => ∃ k, k + m = someActs.length ∧ s = ⟨[(2, dInt k), (1, .ptr 0 0)], 1, [(0, boxW (wAt k))]⟩) someActs.length (Into.mono (Into.to [0] [(2, dInt (0 : Nat)), (1, .ptr 0 0)] [(0, boxW (wAt 0))] (by repeat (first | exact trivial | refine ⟨.same (congrArg dInt (wrap_up (by omega))), ?_⟩ | refine ⟨.same rfl, ?_⟩ | refine ⟨.any _, ?_⟩)) ⟨⟨rfl, rfl, rfl, .same rfl, rfl, .same rfl, rfl, trivial⟩, trivial⟩ rfl rfl) fun s' h => ⟨0, by omega, h⟩) ?_
  rintro m s ⟨k, hkm, rfl⟩
  conv => whnf
  repeat (first | (refine Conf.mk (by kernel_rfl) ?_; conv => whnf) | (refine SeqOk.go ?_; conv => whnf))
  refine .data _ _ acts_ok rfl ?_
  conv => whnf
  repeat (first | (refine Conf.mk (by kernel_rfl) ?_; conv => whnf) | (refine SeqOk.go ?_; conv => whnf))
  refine ⟨fun h => ?_, fun h => ?_⟩
  · have hk := lt_of_len h
    obtain ⟨e1, e2⟩ := wAt_steps k hk
    have hdo := Do_ok (wAt k) (wAt_ok k) someActs[k]
    rw [e1, e2] at hdo
    have hk6 : k < 6 := hk
    conv => whnf
    repeat (first | (refine Conf.mk (by kernel_rfl) ?_; conv => whnf) | (refine SeqOk.go ?_; conv => whnf))
    refine .data _ _ acts_ok rfl ?_
    conv => whnf
    repeat (first | (refine Conf.mk (by kernel_rfl) ?_; conv => whnf) | (refine SeqOk.go ?_; conv => whnf))
    refine AtIdx.ofMap hk rfl ?_
    conv => whnf
    repeat (first | (refine Conf.mk (by kernel_rfl) ?_; conv => whnf) | (refine SeqOk.go ?_; conv => whnf))
    refine .data _ _ hdo rfl ?_
    conv => whnf
    repeat (first | (refine Conf.mk (by kernel_rfl) ?_; conv => whnf) | (refine SeqOk.go ?_; conv => whnf))
    refine BoolCase.no rfl ?_
    conv => whnf
    repeat (first | (refine Conf.mk (by kernel_rfl) ?_; conv => whnf) | (refine SeqOk.go ?_; conv => whnf))
    exact Into.mono (Into.to [0] [(2, dInt (k + 1 : Nat)), (1, .ptr 0 0)] [(0, boxW (wAt (k + 1)))] (by repeat (first | exact trivial | refine ⟨.same (congrArg dInt (wrap_up (by omega))), ?_⟩ | refine ⟨.same rfl, ?_⟩ | refine ⟨.any _, ?_⟩)) ⟨⟨rfl, rfl, rfl, .same rfl, rfl, .same rfl, rfl, trivial⟩, trivial⟩ rfl rfl) fun s' h => ⟨m - 1, by omega, k + 1, by omega, h⟩
  · have hk : k = 6 := by
      have h1 := ge_of_len h
      have h2 : someActs.length = 6 := rfl
      omega
    subst hk
    conv => whnf
    repeat (first | (refine Conf.mk (by kernel_rfl) ?_; conv => whnf) | (refine SeqOk.go ?_; conv => whnf))
    subst hQ1
    conv => whnf
    conv => whnf
    repeat (first | (refine Conf.mk (by kernel_rfl) ?_; conv => whnf) | (refine SeqOk.go ?_; conv => whnf))
    refine .data _ _ hst rfl ?_
    conv => whnf
    repeat (first | (refine Conf.mk (by kernel_rfl) ?_; conv => whnf) | (refine SeqOk.go ?_; conv => whnf))
    refine BoolCase.yes rfl ?_
    conv => whnf
    repeat (first | (refine Conf.mk (by kernel_rfl) ?_; conv => whnf) | (refine SeqOk.go ?_; conv => whnf))
    refine .data _ _ hck rfl ?_
    conv => whnf
    repeat (first | (refine Conf.mk (by kernel_rfl) ?_; conv => whnf) | (refine SeqOk.go ?_; conv => whnf))
    refine BoolCase.yes rfl ?_
    conv => whnf
    repeat (first | (refine Conf.mk (by kernel_rfl) ?_; conv => whnf) | (refine SeqOk.go ?_; conv => whnf))
    refine BoolCase.yes rfl ?_
    conv => whnf
    repeat (first | (refine Conf.mk (by kernel_rfl) ?_; conv => whnf) | (refine SeqOk.go ?_; conv => whnf))
    refine BoolCase.yes rfl ?_
    conv => whnf
    repeat (first | (refine Conf.mk (by kernel_rfl) ?_; conv => whnf) | (refine SeqOk.go ?_; conv => whnf))
    refine AtIdx.ofMap (l := (wAt 6).sites) (i := 0) (by decide) rfl ?_
    conv => whnf
    repeat (first | (refine Conf.mk (by kernel_rfl) ?_; conv => whnf) | (refine SeqOk.go ?_; conv => whnf))
    refine BoolCase.yes rfl ?_
    conv => whnf
    repeat (first | (refine Conf.mk (by kernel_rfl) ?_; conv => whnf) | (refine SeqOk.go ?_; conv => whnf))
    refine AtIdx.ofMap (l := (wAt 6).sites) (i := 0) (by decide) rfl ?_
    conv => whnf
    repeat (first | (refine Conf.mk (by kernel_rfl) ?_; conv => whnf) | (refine SeqOk.go ?_; conv => whnf))
    refine BoolCase.yes rfl ?_
    conv => whnf
    repeat (first | (refine Conf.mk (by kernel_rfl) ?_; conv => whnf) | (refine SeqOk.go ?_; conv => whnf))
    refine AtIdx.ofMap (l := wSet.sites) (i := 0) (by decide) rfl ?_
    conv => whnf
    repeat (first | (refine Conf.mk (by kernel_rfl) ?_; conv => whnf) | (refine SeqOk.go ?_; conv => whnf))
    refine BoolCase.yes rfl ?_
    conv => whnf
    repeat (first | (refine Conf.mk (by kernel_rfl) ?_; conv => whnf) | (refine SeqOk.go ?_; conv => whnf))
    refine AtIdx.ofMap (l := wSet.sites) (i := 1) (by decide) rfl ?_
    conv => whnf
    repeat (first | (refine Conf.mk (by kernel_rfl) ?_; conv => whnf) | (refine SeqOk.go ?_; conv => whnf))
    exact Ret.bool rfl
end Go.Proofs.YtlioojekjnigiafGreat.AM
/- Worlds: rows of data are variables that are data; a copy of a world; all that a site lacks. -/
namespace Go.Proofs.YtlioojekjnigiafGreat.AM
set_option linter.unusedVariables false
set_option linter.unusedSimpArgs false

def toVarsE (e e' : Entry) : Prop := e' = e ∨ ∃ T sz es, e = .rows T sz es true ∧ es ≠ [] ∧ e' = .vars T sz (es.flatten.map AVal.dat) true
theorem toVarsE.live {e e' : Entry} (h : toVarsE e e') : e'.live = e.live := by
  rcases h with rfl | ⟨T, sz, es, rfl, _, rfl⟩ <;> rfl
theorem EntOk.toVars {r : Rho} {A : View} {w : World} {h : Nat} {e e' : Entry} (hE : toVarsE e e') (he : EntOk r A w h e) : EntOk r A w h e' := by
  rcases hE with rfl | ⟨T, sz, es, rfl, hne, rfl⟩
  · exact he
  · obtain ⟨hs, ⟨_, hn⟩ | ⟨b, cap, cells, h1, h2, h3, h4, h5, h6, h7⟩⟩ := he
    · exact absurd hn hne
    · refine ⟨b, es.length, cap, cells, h1, h2, h3, h4, h5, by rw [List.length_map, flat_length hs], fun j a ha => ?_, h7⟩
      rw [List.getElem?_map, Option.map_eq_some_iff] at ha
      obtain ⟨d, hd, rfl⟩ := ha
      obtain ⟨i, k, x, rfl, hx, hk⟩ := flat_inv hs hd
      exact ⟨.dat (h6 i x hx k d hk), rfl⟩
theorem Core.toVars {r : Rho} {A : View} {w : World} {g g' : Nat → Entry} (hE : ∀ h, toVarsE (g h) (g' h)) (hc : Core r A w g) : Core r A w g' :=
  ⟨hc.view, fun h => EntOk.toVars (hE h) (hc.ent h), fun h h' b hl hl' => hc.dis h h' b (by rw [← (hE h).live]; exact hl) (by rw [← (hE h').live]; exact hl')⟩
theorem ecall_toVars {P : Program} {f : FuncId} {args : List AVal} {H : Heap} {n : Nat} {x : AVal} {H1 H2 : Heap} {m : Nat} (hE : ∀ h, toVarsE (H1.get h) (H2.get h)) (h : ECall P f args H n x H1 m) : ECall P f args H n x H2 m := by
  refine ⟨h.1, fun r A w vs h1 h2 h3 h4 => ?_⟩
  refine Calls.mono (h.2 r A w vs h1 h2 h3 h4) ?_
  rintro e w' ⟨v, r', A', x', H', n', he, ⟨rfl, rfl, rfl⟩, h5, h6, h7, h8, h9, h10, h11⟩
  refine ⟨v, r', A', x', H2, _, he, ⟨rfl, rfl, rfl⟩, h5, h6, h7, h8.toVars hE, h9, h10, fun b ⟨k, k1, k2⟩ => h11 b ⟨k, ?_, k2⟩⟩
  rw [← (hE k).live]
  exact k1
def waysC (u v : List Entry') : List AVal := [.dat (.list (u.map Entry'.enc)), .dat (.list (v.map Entry'.enc))]
set_option maxHeartbeats 0 in
theorem copyWorld_ok (a b : Site') (u v : List Entry') : ECall Tryz.prog 123 [(⟨[a, b], [u, v]⟩ : World').arg] [] 0 (.agg [.row 0, .row 1]) [(0, .vars 32 3 (sitesC a b) true), (1, .vars 22 1 (waysC u v) true)] 2 := by
  refine ecall_toVars (H1 := [(0, .rows 32 3 ([a, b].map Site'.enc) true), (1, .rows 22 1 ([u, v].map wayEnc) true)]) (fun h => ?_) ?_
  · rcases h with _ | _ | h
    · exact .inr ⟨_, _, _, rfl, by simp, rfl⟩
    · exact .inr ⟨_, _, _, rfl, by simp, rfl⟩
    · exact .inl rfl
  · refine acall_cut tab_all tab_mixed Tryz.func123 (by kernel_rfl) Tryz.ntmps123 rfl ?_
    conv => whnf
    conv => whnf
    repeat (first | (refine Conf.mk (by kernel_rfl) ?_; conv => whnf) | (refine SeqOk.go ?_; conv => whnf))
    refine ⟨by simp [Site'.enc], by simp, ?_⟩
    conv => whnf
    repeat (first | (refine Conf.mk (by kernel_rfl) ?_; conv => whnf) | (refine SeqOk.go ?_; conv => whnf))
    refine ⟨by simp [wayEnc], by simp, ?_⟩
    conv => whnf
    repeat (first | (refine Conf.mk (by kernel_rfl) ?_; conv => whnf) | (refine SeqOk.go ?_; conv => whnf))
    exact .mk [] [2, 3] (.agg [.row 0, .row 1]) [(0, .rows 32 3 ([a, b].map Site'.enc) true), (1, .rows 22 1 ([u, v].map wayEnc) true)] rfl (.same rfl) ⟨⟨rfl, rfl, rfl, rfl⟩, ⟨rfl, rfl, rfl, rfl⟩, trivial⟩ rfl rfl ⟨rfl, rfl, rfl⟩
theorem erase_eq {α : Type} (l : List α) (n : Nat) : l.eraseIdx n = l.take n ++ l.drop (n + 1) := List.eraseIdx_eq_take_drop_succ l n
set_option maxHeartbeats 0 in
theorem without_ok (l : List Entry') (n : Nat) (hn : n < l.length) (hl : l.length ≤ 1000) : PCall Tryz.prog 126 [.dat (.list (l.map Entry'.enc)), dInt n] (.dat (.list ((l.eraseIdx n).map Entry'.enc))) := by
  have hr : (l.eraseIdx n).map Entry'.enc = (l.take n).map Entry'.enc ++ (l.map Entry'.enc).drop (n + 1) := by rw [List.eraseIdx_eq_take_drop_succ, List.map_append, map_drop']
  refine pcall_cut tab_all tab_mixed Tryz.func126 (by kernel_rfl) Tryz.ntmps126 rfl ?_
  conv => whnf
  conv => whnf
  repeat (first | (refine Conf.mk (by kernel_rfl) ?_; conv => whnf) | (refine SeqOk.go ?_; conv => whnf))
  refine .mk 0 n rfl rfl (Nat.zero_le _) (by simp; omega) ?_
  rw [fits_take]
  conv => whnf
  repeat (first | (refine Conf.mk (by kernel_rfl) ?_; conv => whnf) | (refine SeqOk.go ?_; conv => whnf))
  refine ⟨enc5, by simp; omega, ?_⟩
  conv => whnf
  repeat (first | (refine Conf.mk (by kernel_rfl) ?_; conv => whnf) | (refine SeqOk.go ?_; conv => whnf))
  refine .mk (n + 1) l.length (wrap_up (i := n) (by omega)).symm (by simp) (by omega) (by simp) ?_
  conv => whnf
  repeat (first | (refine Conf.mk (by kernel_rfl) ?_; conv => whnf) | (refine SeqOk.go ?_; conv => whnf))
  refine ⟨enc5, ?_⟩
  conv => whnf
  repeat (first | (refine Conf.mk (by kernel_rfl) ?_; conv => whnf) | (refine SeqOk.go ?_; conv => whnf))
  refine ⟨fun x h => enc5 x (List.mem_of_mem_drop h), by simp; omega, ?_⟩
  conv => whnf
  repeat (first | (refine Conf.mk (by kernel_rfl) ?_; conv => whnf) | (refine SeqOk.go ?_; conv => whnf))
  exact Ret.to (by rw [hr])
set_option maxHeartbeats 0 in
theorem allAt0_ok (a b : Site') (u v : List Entry') (hs : SiteR a) (hi : a.region = 0) (ht : Right b.log) : PCall Tryz.prog 46 [(⟨[a, b], [u, v]⟩ : World').arg, dInt 0] (.tup [(⟨[(bring a (ownOf b.log 1)), b], [u, v]⟩ : World').arg, dInt 0]) := by
  have hll := ht.len
  have hbr : ∀ k, Brought a (ownOf (b.log.take k) 1) := fun k => brought hs _ _ rfl fun e he => by
    obtain ⟨k1, k2⟩ := mem_ownOf.1 he
    exact ⟨ht.mem (List.mem_of_mem_take k1), by rw [k2, hi]; decide⟩
  refine pcall_cut tab_all tab_mixed Tryz.func46 (by kernel_rfl) Tryz.ntmps46 rfl ?_
  conv => whnf
  conv => whnf
  repeat (first | (refine Conf.mk (by kernel_rfl) ?_; conv => whnf) | (refine SeqOk.go ?_; conv => whnf))
  refine .eff [] _ _ _ _ 2 (copyWorld_ok a b u v) rfl rfl rfl rfl rfl ?_
  conv => whnf
  repeat (first | (refine Conf.mk (by kernel_rfl) ?_; conv => whnf) | (refine SeqOk.go ?_; conv => whnf))
  refine AtIdx.ofMap (l := [a, b]) (i := 1) (by simp) rfl ?_
  conv => whnf
  repeat (first | (refine Conf.mk (by kernel_rfl) ?_; conv => whnf) | (refine SeqOk.go ?_; conv => whnf))
  refine LoopOk.hide fun Q1 hQ1 => ?_
  refine LoopOk.mk (fun m x => ∃ k, k + m = b.log.length ∧ x = ⟨[(8, dInt k), (7, .dat (.list (b.log.map Entry'.enc))), (6, .ptr 4 0), (4, .ptr 1 0), (2, .ptr 0 0), (1, dInt 0)], 5, [(0, .vars 93 2 [.dat (.list ([a, b].map Site'.enc)), .dat (.list ([u, v].map wayEnc))] true), (1, .vars 93 2 [.nil, .nil] true), (2, .vars 32 3 (sitesC (bring a (ownOf (b.log.take k) 1)) b) true), (3, .vars 22 1 (waysC u v) true), (4, .vars 93 2 [.row 2, .row 3] true)]⟩) b.log.length (Into.mono (Into.to [0, 1, 2, 3, 4] [(8, dInt (0 : Nat)), (7, .dat (.list (b.log.map Entry'.enc))), (6, .ptr 4 0), (4, .ptr 1 0), (2, .ptr 0 0), (1, dInt 0)] [(0, .vars 93 2 [.dat (.list ([a, b].map Site'.enc)), .dat (.list ([u, v].map wayEnc))] true), (1, .vars 93 2 [.nil, .nil] true), (2, .vars 32 3 (sitesC (bring a (ownOf (b.log.take 0) 1)) b) true), (3, .vars 22 1 (waysC u v) true), (4, .vars 93 2 [.row 2, .row 3] true)] (by repeat (first | exact trivial | refine ⟨.same (congrArg dInt (wrap_up (by omega))), ?_⟩ | refine ⟨.same rfl, ?_⟩ | refine ⟨.any _, ?_⟩)) ⟨⟨rfl, rfl, rfl, .same rfl, rfl, .same rfl, rfl, trivial⟩, ⟨rfl, rfl, rfl, .same rfl, rfl, .same rfl, rfl, trivial⟩, ⟨rfl, rfl, rfl, .same rfl, rfl, .same rfl, rfl, .same rfl, rfl, .same rfl, rfl, .same rfl, rfl, .same rfl, rfl, trivial⟩, ⟨rfl, rfl, rfl, .same rfl, rfl, .same rfl, rfl, trivial⟩, ⟨rfl, rfl, rfl, .same rfl, rfl, .same rfl, rfl, trivial⟩, trivial⟩ rfl rfl) fun s' h => ⟨0, by omega, h⟩) ?_
  rintro m x ⟨k, hkm, rfl⟩
  conv => whnf
  repeat (first | (refine Conf.mk (by kernel_rfl) ?_; conv => whnf) | (refine SeqOk.go ?_; conv => whnf))
  refine ⟨fun h => ?_, fun h => ?_⟩
  · have hk := lt_of_len h
    have hm := List.getElem_mem hk
    have hst := ownOf_succ (r := 1) hk
    have hreg := ht.regs _ hm
    conv => whnf
    repeat (first | (refine Conf.mk (by kernel_rfl) ?_; conv => whnf) | (refine SeqOk.go ?_; conv => whnf))
    refine AtIdx.ofMap hk rfl ?_
    conv => whnf
    repeat (first | (refine Conf.mk (by kernel_rfl) ?_; conv => whnf) | (refine SeqOk.go ?_; conv => whnf))
    by_cases hr : b.log[k].id.r = 1
    · rw [if_pos hr] at hst
      have hR := (hbr k).right
      have hz := recv_far hR (ht.mem hm) (by rw [(hbr k).region, hi, hr]; decide)
      have hb : bring a (ownOf (b.log.take (k + 1)) 1) = recvAns (bring a (ownOf (b.log.take k) 1)) b.log[k] := by rw [hst, bring_snoc]
      have hrc := receiveOf_ok _ hR b.log[k] (ht.mem hm)
      rw [hz, ← hb] at hrc
      refine BoolCase.yes (by simp [hr]) ?_
      conv => whnf
      repeat (first | (refine Conf.mk (by kernel_rfl) ?_; conv => whnf) | (refine SeqOk.go ?_; conv => whnf))
      refine .mk 0 rfl (by show 0 < 6 / 3; decide) ?_
      conv => whnf
      repeat (first | (refine Conf.mk (by kernel_rfl) ?_; conv => whnf) | (refine SeqOk.go ?_; conv => whnf))
      refine AtIdx.ofMap hk rfl ?_
      conv => whnf
      repeat (first | (refine Conf.mk (by kernel_rfl) ?_; conv => whnf) | (refine SeqOk.go ?_; conv => whnf))
      refine .data _ _ hrc rfl ?_
      conv => whnf
      repeat (first | (refine Conf.mk (by kernel_rfl) ?_; conv => whnf) | (refine SeqOk.go ?_; conv => whnf))
      refine BoolCase.no rfl ?_
      conv => whnf
      repeat (first | (refine Conf.mk (by kernel_rfl) ?_; conv => whnf) | (refine SeqOk.go ?_; conv => whnf))
      refine .mk 0 rfl (by show 0 < 6 / 3; decide) ?_
      conv => whnf
      repeat (first | (refine Conf.mk (by kernel_rfl) ?_; conv => whnf) | (refine SeqOk.go ?_; conv => whnf))
      exact Into.mono (Into.to [0, 1, 2, 3, 4] [(8, dInt (k + 1 : Nat)), (7, .dat (.list (b.log.map Entry'.enc))), (6, .ptr 4 0), (4, .ptr 1 0), (2, .ptr 0 0), (1, dInt 0)] [(0, .vars 93 2 [.dat (.list ([a, b].map Site'.enc)), .dat (.list ([u, v].map wayEnc))] true), (1, .vars 93 2 [.nil, .nil] true), (2, .vars 32 3 (sitesC (bring a (ownOf (b.log.take (k + 1)) 1)) b) true), (3, .vars 22 1 (waysC u v) true), (4, .vars 93 2 [.row 2, .row 3] true)] (by repeat (first | exact trivial | refine ⟨.same (congrArg dInt (wrap_up (by omega))), ?_⟩ | refine ⟨.same rfl, ?_⟩ | refine ⟨.any _, ?_⟩)) ⟨⟨rfl, rfl, rfl, .same rfl, rfl, .same rfl, rfl, trivial⟩, ⟨rfl, rfl, rfl, .same rfl, rfl, .same rfl, rfl, trivial⟩, ⟨rfl, rfl, rfl, .same rfl, rfl, .same rfl, rfl, .same rfl, rfl, .same rfl, rfl, .same rfl, rfl, .same rfl, rfl, trivial⟩, ⟨rfl, rfl, rfl, .same rfl, rfl, .same rfl, rfl, trivial⟩, ⟨rfl, rfl, rfl, .same rfl, rfl, .same rfl, rfl, trivial⟩, trivial⟩ rfl rfl) fun s' h => ⟨m - 1, by omega, k + 1, by omega, h⟩
    · rw [if_neg hr, List.append_nil] at hst
      refine BoolCase.no (by simp; omega) ?_
      conv => whnf
      repeat (first | (refine Conf.mk (by kernel_rfl) ?_; conv => whnf) | (refine SeqOk.go ?_; conv => whnf))
      rw [← hst]
      exact Into.mono (Into.to [0, 1, 2, 3, 4] [(8, dInt (k + 1 : Nat)), (7, .dat (.list (b.log.map Entry'.enc))), (6, .ptr 4 0), (4, .ptr 1 0), (2, .ptr 0 0), (1, dInt 0)] [(0, .vars 93 2 [.dat (.list ([a, b].map Site'.enc)), .dat (.list ([u, v].map wayEnc))] true), (1, .vars 93 2 [.nil, .nil] true), (2, .vars 32 3 (sitesC (bring a (ownOf (b.log.take (k + 1)) 1)) b) true), (3, .vars 22 1 (waysC u v) true), (4, .vars 93 2 [.row 2, .row 3] true)] (by repeat (first | exact trivial | refine ⟨.same (congrArg dInt (wrap_up (by omega))), ?_⟩ | refine ⟨.same rfl, ?_⟩ | refine ⟨.any _, ?_⟩)) ⟨⟨rfl, rfl, rfl, .same rfl, rfl, .same rfl, rfl, trivial⟩, ⟨rfl, rfl, rfl, .same rfl, rfl, .same rfl, rfl, trivial⟩, ⟨rfl, rfl, rfl, .same rfl, rfl, .same rfl, rfl, .same rfl, rfl, .same rfl, rfl, .same rfl, rfl, .same rfl, rfl, trivial⟩, ⟨rfl, rfl, rfl, .same rfl, rfl, .same rfl, rfl, trivial⟩, ⟨rfl, rfl, rfl, .same rfl, rfl, .same rfl, rfl, trivial⟩, trivial⟩ rfl rfl) fun s' h => ⟨m - 1, by omega, k + 1, by omega, h⟩
  · have hk : k = b.log.length := by have := ge_of_len h; omega
    subst hk
    conv => whnf
    repeat (first | (refine Conf.mk (by kernel_rfl) ?_; conv => whnf) | (refine SeqOk.go ?_; conv => whnf))
    subst hQ1
    conv => whnf
    rw [List.take_length]
    conv => whnf
    repeat (first | (refine Conf.mk (by kernel_rfl) ?_; conv => whnf) | (refine SeqOk.go ?_; conv => whnf))
    refine ret_of _ _ ?_
    exact ⟨.tup [(⟨[(bring a (ownOf b.log 1)), b], [u, v]⟩ : World').arg, dInt 0], by kernel_rfl, rfl⟩
set_option maxHeartbeats 0 in
theorem allAt1_ok (a b : Site') (u v : List Entry') (hs : SiteR b) (hi : b.region = 1) (ht : Right a.log) : PCall Tryz.prog 46 [(⟨[a, b], [u, v]⟩ : World').arg, dInt 1] (.tup [(⟨[a, (bring b (ownOf a.log 0))], [u, v]⟩ : World').arg, dInt 0]) := by
  have hll := ht.len
  have hbr : ∀ k, Brought b (ownOf (a.log.take k) 0) := fun k => brought hs _ _ rfl fun e he => by
    obtain ⟨k1, k2⟩ := mem_ownOf.1 he
    exact ⟨ht.mem (List.mem_of_mem_take k1), by rw [k2, hi]; decide⟩
  refine pcall_cut tab_all tab_mixed Tryz.func46 (by kernel_rfl) Tryz.ntmps46 rfl ?_
  conv => whnf
  conv => whnf
  repeat (first | (refine Conf.mk (by kernel_rfl) ?_; conv => whnf) | (refine SeqOk.go ?_; conv => whnf))
  refine .eff [] _ _ _ _ 2 (copyWorld_ok a b u v) rfl rfl rfl rfl rfl ?_
  conv => whnf
  repeat (first | (refine Conf.mk (by kernel_rfl) ?_; conv => whnf) | (refine SeqOk.go ?_; conv => whnf))
  refine AtIdx.ofMap (l := [a, b]) (i := 0) (by simp) rfl ?_
  conv => whnf
  repeat (first | (refine Conf.mk (by kernel_rfl) ?_; conv => whnf) | (refine SeqOk.go ?_; conv => whnf))
  refine LoopOk.hide fun Q1 hQ1 => ?_
  refine LoopOk.mk (fun m x => ∃ k, k + m = a.log.length ∧ x = ⟨[(8, dInt k), (7, .dat (.list (a.log.map Entry'.enc))), (6, .ptr 4 0), (4, .ptr 1 0), (2, .ptr 0 0), (1, dInt 1)], 5, [(0, .vars 93 2 [.dat (.list ([a, b].map Site'.enc)), .dat (.list ([u, v].map wayEnc))] true), (1, .vars 93 2 [.nil, .nil] true), (2, .vars 32 3 (sitesC a (bring b (ownOf (a.log.take k) 0))) true), (3, .vars 22 1 (waysC u v) true), (4, .vars 93 2 [.row 2, .row 3] true)]⟩) a.log.length (Into.mono (Into.to [0, 1, 2, 3, 4] [(8, dInt (0 : Nat)), (7, .dat (.list (a.log.map Entry'.enc))), (6, .ptr 4 0), (4, .ptr 1 0), (2, .ptr 0 0), (1, dInt 1)] [(0, .vars 93 2 [.dat (.list ([a, b].map Site'.enc)), .dat (.list ([u, v].map wayEnc))] true), (1, .vars 93 2 [.nil, .nil] true), (2, .vars 32 3 (sitesC a (bring b (ownOf (a.log.take 0) 0))) true), (3, .vars 22 1 (waysC u v) true), (4, .vars 93 2 [.row 2, .row 3] true)] (by repeat (first | exact trivial | refine ⟨.same (congrArg dInt (wrap_up (by omega))), ?_⟩ | refine ⟨.same rfl, ?_⟩ | refine ⟨.any _, ?_⟩)) ⟨⟨rfl, rfl, rfl, .same rfl, rfl, .same rfl, rfl, trivial⟩, ⟨rfl, rfl, rfl, .same rfl, rfl, .same rfl, rfl, trivial⟩, ⟨rfl, rfl, rfl, .same rfl, rfl, .same rfl, rfl, .same rfl, rfl, .same rfl, rfl, .same rfl, rfl, .same rfl, rfl, trivial⟩, ⟨rfl, rfl, rfl, .same rfl, rfl, .same rfl, rfl, trivial⟩, ⟨rfl, rfl, rfl, .same rfl, rfl, .same rfl, rfl, trivial⟩, trivial⟩ rfl rfl) fun s' h => ⟨0, by omega, h⟩) ?_
  rintro m x ⟨k, hkm, rfl⟩
  conv => whnf
  repeat (first | (refine Conf.mk (by kernel_rfl) ?_; conv => whnf) | (refine SeqOk.go ?_; conv => whnf))
  refine ⟨fun h => ?_, fun h => ?_⟩
  · have hk := lt_of_len h
    have hm := List.getElem_mem hk
    have hst := ownOf_succ (r := 0) hk
    have hreg := ht.regs _ hm
    conv => whnf
    repeat (first | (refine Conf.mk (by kernel_rfl) ?_; conv => whnf) | (refine SeqOk.go ?_; conv => whnf))
    refine AtIdx.ofMap hk rfl ?_
    conv => whnf
    repeat (first | (refine Conf.mk (by kernel_rfl) ?_; conv => whnf) | (refine SeqOk.go ?_; conv => whnf))
    by_cases hr : a.log[k].id.r = 0
    · rw [if_pos hr] at hst
      have hR := (hbr k).right
      have hz := recv_far hR (ht.mem hm) (by rw [(hbr k).region, hi, hr]; decide)
      have hb : bring b (ownOf (a.log.take (k + 1)) 0) = recvAns (bring b (ownOf (a.log.take k) 0)) a.log[k] := by rw [hst, bring_snoc]
      have hrc := receiveOf_ok _ hR a.log[k] (ht.mem hm)
      rw [hz, ← hb] at hrc
      refine BoolCase.yes (by simp [hr]) ?_
      conv => whnf
      repeat (first | (refine Conf.mk (by kernel_rfl) ?_; conv => whnf) | (refine SeqOk.go ?_; conv => whnf))
      refine .mk 1 rfl (by show 1 < 6 / 3; decide) ?_
      conv => whnf
      repeat (first | (refine Conf.mk (by kernel_rfl) ?_; conv => whnf) | (refine SeqOk.go ?_; conv => whnf))
      refine AtIdx.ofMap hk rfl ?_
      conv => whnf
      repeat (first | (refine Conf.mk (by kernel_rfl) ?_; conv => whnf) | (refine SeqOk.go ?_; conv => whnf))
      refine .data _ _ hrc rfl ?_
      conv => whnf
      repeat (first | (refine Conf.mk (by kernel_rfl) ?_; conv => whnf) | (refine SeqOk.go ?_; conv => whnf))
      refine BoolCase.no rfl ?_
      conv => whnf
      repeat (first | (refine Conf.mk (by kernel_rfl) ?_; conv => whnf) | (refine SeqOk.go ?_; conv => whnf))
      refine .mk 1 rfl (by show 1 < 6 / 3; decide) ?_
      conv => whnf
      repeat (first | (refine Conf.mk (by kernel_rfl) ?_; conv => whnf) | (refine SeqOk.go ?_; conv => whnf))
      exact Into.mono (Into.to [0, 1, 2, 3, 4] [(8, dInt (k + 1 : Nat)), (7, .dat (.list (a.log.map Entry'.enc))), (6, .ptr 4 0), (4, .ptr 1 0), (2, .ptr 0 0), (1, dInt 1)] [(0, .vars 93 2 [.dat (.list ([a, b].map Site'.enc)), .dat (.list ([u, v].map wayEnc))] true), (1, .vars 93 2 [.nil, .nil] true), (2, .vars 32 3 (sitesC a (bring b (ownOf (a.log.take (k + 1)) 0))) true), (3, .vars 22 1 (waysC u v) true), (4, .vars 93 2 [.row 2, .row 3] true)] (by repeat (first | exact trivial | refine ⟨.same (congrArg dInt (wrap_up (by omega))), ?_⟩ | refine ⟨.same rfl, ?_⟩ | refine ⟨.any _, ?_⟩)) ⟨⟨rfl, rfl, rfl, .same rfl, rfl, .same rfl, rfl, trivial⟩, ⟨rfl, rfl, rfl, .same rfl, rfl, .same rfl, rfl, trivial⟩, ⟨rfl, rfl, rfl, .same rfl, rfl, .same rfl, rfl, .same rfl, rfl, .same rfl, rfl, .same rfl, rfl, .same rfl, rfl, trivial⟩, ⟨rfl, rfl, rfl, .same rfl, rfl, .same rfl, rfl, trivial⟩, ⟨rfl, rfl, rfl, .same rfl, rfl, .same rfl, rfl, trivial⟩, trivial⟩ rfl rfl) fun s' h => ⟨m - 1, by omega, k + 1, by omega, h⟩
    · rw [if_neg hr, List.append_nil] at hst
      refine BoolCase.no (by simp; omega) ?_
      conv => whnf
      repeat (first | (refine Conf.mk (by kernel_rfl) ?_; conv => whnf) | (refine SeqOk.go ?_; conv => whnf))
      rw [← hst]
      exact Into.mono (Into.to [0, 1, 2, 3, 4] [(8, dInt (k + 1 : Nat)), (7, .dat (.list (a.log.map Entry'.enc))), (6, .ptr 4 0), (4, .ptr 1 0), (2, .ptr 0 0), (1, dInt 1)] [(0, .vars 93 2 [.dat (.list ([a, b].map Site'.enc)), .dat (.list ([u, v].map wayEnc))] true), (1, .vars 93 2 [.nil, .nil] true), (2, .vars 32 3 (sitesC a (bring b (ownOf (a.log.take (k + 1)) 0))) true), (3, .vars 22 1 (waysC u v) true), (4, .vars 93 2 [.row 2, .row 3] true)] (by repeat (first | exact trivial | refine ⟨.same (congrArg dInt (wrap_up (by omega))), ?_⟩ | refine ⟨.same rfl, ?_⟩ | refine ⟨.any _, ?_⟩)) ⟨⟨rfl, rfl, rfl, .same rfl, rfl, .same rfl, rfl, trivial⟩, ⟨rfl, rfl, rfl, .same rfl, rfl, .same rfl, rfl, trivial⟩, ⟨rfl, rfl, rfl, .same rfl, rfl, .same rfl, rfl, .same rfl, rfl, .same rfl, rfl, .same rfl, rfl, .same rfl, rfl, trivial⟩, ⟨rfl, rfl, rfl, .same rfl, rfl, .same rfl, rfl, trivial⟩, ⟨rfl, rfl, rfl, .same rfl, rfl, .same rfl, rfl, trivial⟩, trivial⟩ rfl rfl) fun s' h => ⟨m - 1, by omega, k + 1, by omega, h⟩
  · have hk : k = a.log.length := by have := ge_of_len h; omega
    subst hk
    conv => whnf
    repeat (first | (refine Conf.mk (by kernel_rfl) ?_; conv => whnf) | (refine SeqOk.go ?_; conv => whnf))
    subst hQ1
    conv => whnf
    rw [List.take_length]
    conv => whnf
    repeat (first | (refine Conf.mk (by kernel_rfl) ?_; conv => whnf) | (refine SeqOk.go ?_; conv => whnf))
    refine ret_of _ _ ?_
    exact ⟨.tup [(⟨[a, (bring b (ownOf a.log 0))], [u, v]⟩ : World').arg, dInt 0], by kernel_rfl, rfl⟩
end Go.Proofs.YtlioojekjnigiafGreat.AM
/- Worlds: Do, as the document says. -/
namespace Go.Proofs.YtlioojekjnigiafGreat.AM
set_option linter.unusedVariables false
set_option linter.unusedSimpArgs false

theorem len_less {l : List Entry'} (h : l.length ≤ 30) : IntKind.i64.wrap (((l.map Entry'.enc).length : Int) - 1) = (l.length : Int) - 1 := by
  rw [List.length_map]
  exact wrap_id (by omega) (by omega)
def wArg (a b : Site') (U V : List (List D)) : AVal := .agg [.dat (.list ([a, b].map Site'.enc)), .dat (.list [[.list U], [.list V]])]
set_option maxHeartbeats 0 in
theorem doOf10_ok (x : W4) (hR : WorldR x) (n c : Int) (tx : ByteArray) : PCall Tryz.prog 45 [.agg [.dat (.list ([x.a, x.b].map Site'.enc)), .dat (.list ([x.u, x.v].map wayEnc))], .agg [dInt 1, dInt 0, dInt n, dInt c, .dat (.str tx)]] (.tup [(doAns x.w ⟨1, 0, n, c, tx⟩).arg, dInt (doErr x.w ⟨1, 0, n, c, tx⟩)]) := by
  have h1 := worldR_err hR
  have hlu := hR.lu
  have hlv := hR.lv
  have hD : doErr x.w ⟨1, 0, n, c, tx⟩ = if actErr ⟨1, 0, n, c, tx⟩ ≠ 0 then actErr ⟨1, 0, n, c, tx⟩ else doErr4 x ⟨1, 0, n, c, tx⟩ := by unfold doErr; rw [if_neg (by simp [h1])]; rfl
  refine pcall_cut tab_all tab_mixed Tryz.func45 (by kernel_rfl) Tryz.ntmps45 rfl ?_
  conv => whnf
  conv => whnf
  repeat (first | (refine Conf.mk (by kernel_rfl) ?_; conv => whnf) | (refine SeqOk.go ?_; conv => whnf))
  refine .data _ _ (between_ok 1 1 5) rfl ?_
  conv => whnf
  repeat (first | (refine Conf.mk (by kernel_rfl) ?_; conv => whnf) | (refine SeqOk.go ?_; conv => whnf))
  refine BoolCase.no rfl ?_
  conv => whnf
  repeat (first | (refine Conf.mk (by kernel_rfl) ?_; conv => whnf) | (refine SeqOk.go ?_; conv => whnf))
  refine BoolCase.no rfl ?_
  conv => whnf
  repeat (first | (refine Conf.mk (by kernel_rfl) ?_; conv => whnf) | (refine SeqOk.go ?_; conv => whnf))
  refine BoolCase.yes rfl ?_
  conv => whnf
  repeat (first | (refine Conf.mk (by kernel_rfl) ?_; conv => whnf) | (refine SeqOk.go ?_; conv => whnf))
  by_cases hn : n = 0
  · refine BoolCase.no (by simp [hn]) ?_
    have hF : formOk ⟨1, 0, n, c, tx⟩ = true := by unfold formOk; simp [hn]
    conv => whnf
    repeat (first | (refine Conf.mk (by kernel_rfl) ?_; conv => whnf) | (refine SeqOk.go ?_; conv => whnf))
    refine .data _ _ (between_ok 0 0 1) rfl ?_
    conv => whnf
    repeat (first | (refine Conf.mk (by kernel_rfl) ?_; conv => whnf) | (refine SeqOk.go ?_; conv => whnf))
    have h0 : actErr ⟨1, 0, n, c, tx⟩ = 0 := by unfold actErr; rw [if_neg (by simp), if_neg (by simp [hF]), if_neg (by simp)]
    rw [h0, if_neg (by decide)] at hD
    simp only at *
    refine BoolCase.no rfl ?_
    conv => whnf
    repeat (first | (refine Conf.mk (by kernel_rfl) ?_; conv => whnf) | (refine SeqOk.go ?_; conv => whnf))
    refine BoolCase.no rfl ?_
    conv => whnf
    repeat (first | (refine Conf.mk (by kernel_rfl) ?_; conv => whnf) | (refine SeqOk.go ?_; conv => whnf))
    refine .eff [] _ _ _ _ 2 (copyWorld_ok x.a x.b x.u x.v) rfl rfl rfl rfl rfl ?_
    conv => whnf
    repeat (first | (refine Conf.mk (by kernel_rfl) ?_; conv => whnf) | (refine SeqOk.go ?_; conv => whnf))
    refine BoolCase.yes rfl ?_
    conv => whnf
    repeat (first | (refine Conf.mk (by kernel_rfl) ?_; conv => whnf) | (refine SeqOk.go ?_; conv => whnf))
    refine .mk 0 x.a.enc rfl rfl rfl ?_
    conv => whnf
    repeat (first | (refine Conf.mk (by kernel_rfl) ?_; conv => whnf) | (refine SeqOk.go ?_; conv => whnf))
    refine .data _ _ (appendOf_ok x.a hR.ra c tx) rfl ?_
    conv => whnf
    repeat (first | (refine Conf.mk (by kernel_rfl) ?_; conv => whnf) | (refine SeqOk.go ?_; conv => whnf))
    by_cases h3 : appErr x.a c tx = 0
    · refine BoolCase.no (by simp [h3]) ?_
      conv => whnf
      repeat (first | (refine Conf.mk (by kernel_rfl) ?_; conv => whnf) | (refine SeqOk.go ?_; conv => whnf))
      refine .mk 0 rfl (by show 0 < 6 / 3; decide) ?_
      conv => whnf
      repeat (first | (refine Conf.mk (by kernel_rfl) ?_; conv => whnf) | (refine SeqOk.go ?_; conv => whnf))
      refine .mk 1 (wayEnc x.v) rfl rfl rfl ?_
      conv => whnf
      repeat (first | (refine Conf.mk (by kernel_rfl) ?_; conv => whnf) | (refine SeqOk.go ?_; conv => whnf))
      by_cases hf : x.v.length < 30
      · skip
        have hE : doErr4 x ⟨1, 0, n, c, tx⟩ = 0 := h3
        have hA : doAns x.w ⟨1, 0, n, c, tx⟩ = W4.w ⟨(appAns x.a c tx), x.b, x.u, (x.v ++ [appE x.a c tx])⟩ := by
          unfold doAns
          rw [hD, hE, if_neg (by decide), W4.of_w]
          show W4.w (if x.v.length < 30 then _ else _) = _; rw [if_pos hf]; rfl
        rw [hE] at hD
        have hrow : (x.v ++ [appE x.a c tx]).map Entry'.enc = x.v.map Entry'.enc ++ [(appE x.a c tx).enc] := by rw [List.map_append]; rfl
        refine BoolCase.yes (by simp; omega) ?_
        conv => whnf
        repeat (first | (refine Conf.mk (by kernel_rfl) ?_; conv => whnf) | (refine SeqOk.go ?_; conv => whnf))
        refine .mk 1 (wayEnc x.v) rfl rfl rfl ?_
        conv => whnf
        repeat (first | (refine Conf.mk (by kernel_rfl) ?_; conv => whnf) | (refine SeqOk.go ?_; conv => whnf))
        refine ⟨enc5, by simp; omega, ?_⟩
        conv => whnf
        repeat (first | (refine Conf.mk (by kernel_rfl) ?_; conv => whnf) | (refine SeqOk.go ?_; conv => whnf))
        refine ⟨by simp [Entry'.enc], by simp; omega, ?_⟩
        conv => whnf
        repeat (first | (refine Conf.mk (by kernel_rfl) ?_; conv => whnf) | (refine SeqOk.go ?_; conv => whnf))
        refine .mk 1 rfl (by show 1 < 2 / 1; decide) ?_
        conv => whnf
        repeat (first | (refine Conf.mk (by kernel_rfl) ?_; conv => whnf) | (refine SeqOk.go ?_; conv => whnf))
        refine ret_of _ _ ?_
        exact ⟨.tup [(W4.w ⟨(appAns x.a c tx), x.b, x.u, (x.v ++ [appE x.a c tx])⟩).arg, dInt 0], by unfold W4.w World'.arg wayEnc; rw [show (([x.u, (x.v ++ [appE x.a c tx])] : List (List Entry')).map fun y => [D.list (y.map Entry'.enc)]) = [[D.list (x.u.map Entry'.enc)], [D.list (x.v.map Entry'.enc ++ [(appE x.a c tx).enc])]] by rw [← hrow]; rfl]; kernel_rfl, by rw [hD, hA]⟩
      · skip
        have hE : doErr4 x ⟨1, 0, n, c, tx⟩ = 0 := h3
        have hA : doAns x.w ⟨1, 0, n, c, tx⟩ = W4.w ⟨(appAns x.a c tx), x.b, x.u, x.v⟩ := by
          unfold doAns
          rw [hD, hE, if_neg (by decide), W4.of_w]
          show W4.w (if x.v.length < 30 then _ else _) = _; rw [if_neg hf]; rfl
        rw [hE] at hD
        refine BoolCase.no (by simp; omega) ?_
        conv => whnf
        repeat (first | (refine Conf.mk (by kernel_rfl) ?_; conv => whnf) | (refine SeqOk.go ?_; conv => whnf))
        refine ret_of _ _ ?_
        exact ⟨.tup [(W4.w ⟨(appAns x.a c tx), x.b, x.u, x.v⟩).arg, dInt 0], by kernel_rfl, by rw [hD, hA]⟩
    · skip
      have hE : doErr4 x ⟨1, 0, n, c, tx⟩ = appErr x.a c tx := rfl
      rw [hE] at hD
      have hA : doAns x.w ⟨1, 0, n, c, tx⟩ = ⟨[], []⟩ := by unfold doAns; rw [hD, if_pos (by first | decide | assumption)]
      refine BoolCase.yes (by simpa using h3) ?_
      conv => whnf
      repeat (first | (refine Conf.mk (by kernel_rfl) ?_; conv => whnf) | (refine SeqOk.go ?_; conv => whnf))
      exact Ret.to (by rw [hD, hA]; rfl)
  · refine BoolCase.yes (by simp [hn]) ?_
    have hF : formOk ⟨1, 0, n, c, tx⟩ = false := by unfold formOk; simp [hn]
    have h3 : actErr ⟨1, 0, n, c, tx⟩ = 1 := by unfold actErr; rw [if_neg (by simp), if_pos hF]
    have hE : doErr x.w ⟨1, 0, n, c, tx⟩ = 1 := by rw [hD, h3, if_pos (by decide)]
    have hA : doAns x.w ⟨1, 0, n, c, tx⟩ = ⟨[], []⟩ := by unfold doAns; rw [if_pos (by rw [hE]; decide)]
    conv => whnf
    repeat (first | (refine Conf.mk (by kernel_rfl) ?_; conv => whnf) | (refine SeqOk.go ?_; conv => whnf))
    exact Ret.to (by rw [hE, hA]; rfl)
set_option maxHeartbeats 0 in
theorem doOf11_ok (x : W4) (hR : WorldR x) (n c : Int) (tx : ByteArray) : PCall Tryz.prog 45 [.agg [.dat (.list ([x.a, x.b].map Site'.enc)), .dat (.list ([x.u, x.v].map wayEnc))], .agg [dInt 1, dInt 1, dInt n, dInt c, .dat (.str tx)]] (.tup [(doAns x.w ⟨1, 1, n, c, tx⟩).arg, dInt (doErr x.w ⟨1, 1, n, c, tx⟩)]) := by
  have h1 := worldR_err hR
  have hlu := hR.lu
  have hlv := hR.lv
  have hD : doErr x.w ⟨1, 1, n, c, tx⟩ = if actErr ⟨1, 1, n, c, tx⟩ ≠ 0 then actErr ⟨1, 1, n, c, tx⟩ else doErr4 x ⟨1, 1, n, c, tx⟩ := by unfold doErr; rw [if_neg (by simp [h1])]; rfl
  refine pcall_cut tab_all tab_mixed Tryz.func45 (by kernel_rfl) Tryz.ntmps45 rfl ?_
  conv => whnf
  conv => whnf
  repeat (first | (refine Conf.mk (by kernel_rfl) ?_; conv => whnf) | (refine SeqOk.go ?_; conv => whnf))
  refine .data _ _ (between_ok 1 1 5) rfl ?_
  conv => whnf
  repeat (first | (refine Conf.mk (by kernel_rfl) ?_; conv => whnf) | (refine SeqOk.go ?_; conv => whnf))
  refine BoolCase.no rfl ?_
  conv => whnf
  repeat (first | (refine Conf.mk (by kernel_rfl) ?_; conv => whnf) | (refine SeqOk.go ?_; conv => whnf))
  refine BoolCase.no rfl ?_
  conv => whnf
  repeat (first | (refine Conf.mk (by kernel_rfl) ?_; conv => whnf) | (refine SeqOk.go ?_; conv => whnf))
  refine BoolCase.yes rfl ?_
  conv => whnf
  repeat (first | (refine Conf.mk (by kernel_rfl) ?_; conv => whnf) | (refine SeqOk.go ?_; conv => whnf))
  by_cases hn : n = 0
  · refine BoolCase.no (by simp [hn]) ?_
    have hF : formOk ⟨1, 1, n, c, tx⟩ = true := by unfold formOk; simp [hn]
    conv => whnf
    repeat (first | (refine Conf.mk (by kernel_rfl) ?_; conv => whnf) | (refine SeqOk.go ?_; conv => whnf))
    refine .data _ _ (between_ok 1 0 1) rfl ?_
    conv => whnf
    repeat (first | (refine Conf.mk (by kernel_rfl) ?_; conv => whnf) | (refine SeqOk.go ?_; conv => whnf))
    have h0 : actErr ⟨1, 1, n, c, tx⟩ = 0 := by unfold actErr; rw [if_neg (by simp), if_neg (by simp [hF]), if_neg (by simp)]
    rw [h0, if_neg (by decide)] at hD
    simp only at *
    refine BoolCase.no rfl ?_
    conv => whnf
    repeat (first | (refine Conf.mk (by kernel_rfl) ?_; conv => whnf) | (refine SeqOk.go ?_; conv => whnf))
    refine BoolCase.no rfl ?_
    conv => whnf
    repeat (first | (refine Conf.mk (by kernel_rfl) ?_; conv => whnf) | (refine SeqOk.go ?_; conv => whnf))
    refine .eff [] _ _ _ _ 2 (copyWorld_ok x.a x.b x.u x.v) rfl rfl rfl rfl rfl ?_
    conv => whnf
    repeat (first | (refine Conf.mk (by kernel_rfl) ?_; conv => whnf) | (refine SeqOk.go ?_; conv => whnf))
    refine BoolCase.yes rfl ?_
    conv => whnf
    repeat (first | (refine Conf.mk (by kernel_rfl) ?_; conv => whnf) | (refine SeqOk.go ?_; conv => whnf))
    refine .mk 1 x.b.enc rfl rfl rfl ?_
    conv => whnf
    repeat (first | (refine Conf.mk (by kernel_rfl) ?_; conv => whnf) | (refine SeqOk.go ?_; conv => whnf))
    refine .data _ _ (appendOf_ok x.b hR.rb c tx) rfl ?_
    conv => whnf
    repeat (first | (refine Conf.mk (by kernel_rfl) ?_; conv => whnf) | (refine SeqOk.go ?_; conv => whnf))
    by_cases h3 : appErr x.b c tx = 0
    · refine BoolCase.no (by simp [h3]) ?_
      conv => whnf
      repeat (first | (refine Conf.mk (by kernel_rfl) ?_; conv => whnf) | (refine SeqOk.go ?_; conv => whnf))
      refine .mk 1 rfl (by show 1 < 6 / 3; decide) ?_
      conv => whnf
      repeat (first | (refine Conf.mk (by kernel_rfl) ?_; conv => whnf) | (refine SeqOk.go ?_; conv => whnf))
      refine .mk 0 (wayEnc x.u) rfl rfl rfl ?_
      conv => whnf
      repeat (first | (refine Conf.mk (by kernel_rfl) ?_; conv => whnf) | (refine SeqOk.go ?_; conv => whnf))
      by_cases hf : x.u.length < 30
      · skip
        have hE : doErr4 x ⟨1, 1, n, c, tx⟩ = 0 := h3
        have hA : doAns x.w ⟨1, 1, n, c, tx⟩ = W4.w ⟨x.a, (appAns x.b c tx), (x.u ++ [appE x.b c tx]), x.v⟩ := by
          unfold doAns
          rw [hD, hE, if_neg (by decide), W4.of_w]
          show W4.w (if x.u.length < 30 then _ else _) = _; rw [if_pos hf]; rfl
        rw [hE] at hD
        have hrow : (x.u ++ [appE x.b c tx]).map Entry'.enc = x.u.map Entry'.enc ++ [(appE x.b c tx).enc] := by rw [List.map_append]; rfl
        refine BoolCase.yes (by simp; omega) ?_
        conv => whnf
        repeat (first | (refine Conf.mk (by kernel_rfl) ?_; conv => whnf) | (refine SeqOk.go ?_; conv => whnf))
        refine .mk 0 (wayEnc x.u) rfl rfl rfl ?_
        conv => whnf
        repeat (first | (refine Conf.mk (by kernel_rfl) ?_; conv => whnf) | (refine SeqOk.go ?_; conv => whnf))
        refine ⟨enc5, by simp; omega, ?_⟩
        conv => whnf
        repeat (first | (refine Conf.mk (by kernel_rfl) ?_; conv => whnf) | (refine SeqOk.go ?_; conv => whnf))
        refine ⟨by simp [Entry'.enc], by simp; omega, ?_⟩
        conv => whnf
        repeat (first | (refine Conf.mk (by kernel_rfl) ?_; conv => whnf) | (refine SeqOk.go ?_; conv => whnf))
        refine .mk 0 rfl (by show 0 < 2 / 1; decide) ?_
        conv => whnf
        repeat (first | (refine Conf.mk (by kernel_rfl) ?_; conv => whnf) | (refine SeqOk.go ?_; conv => whnf))
        refine ret_of _ _ ?_
        exact ⟨.tup [(W4.w ⟨x.a, (appAns x.b c tx), (x.u ++ [appE x.b c tx]), x.v⟩).arg, dInt 0], by unfold W4.w World'.arg wayEnc; rw [show (([(x.u ++ [appE x.b c tx]), x.v] : List (List Entry')).map fun y => [D.list (y.map Entry'.enc)]) = [[D.list (x.u.map Entry'.enc ++ [(appE x.b c tx).enc])], [D.list (x.v.map Entry'.enc)]] by rw [← hrow]; rfl]; kernel_rfl, by rw [hD, hA]⟩
      · skip
        have hE : doErr4 x ⟨1, 1, n, c, tx⟩ = 0 := h3
        have hA : doAns x.w ⟨1, 1, n, c, tx⟩ = W4.w ⟨x.a, (appAns x.b c tx), x.u, x.v⟩ := by
          unfold doAns
          rw [hD, hE, if_neg (by decide), W4.of_w]
          show W4.w (if x.u.length < 30 then _ else _) = _; rw [if_neg hf]; rfl
        rw [hE] at hD
        refine BoolCase.no (by simp; omega) ?_
        conv => whnf
        repeat (first | (refine Conf.mk (by kernel_rfl) ?_; conv => whnf) | (refine SeqOk.go ?_; conv => whnf))
        refine ret_of _ _ ?_
        exact ⟨.tup [(W4.w ⟨x.a, (appAns x.b c tx), x.u, x.v⟩).arg, dInt 0], by kernel_rfl, by rw [hD, hA]⟩
    · skip
      have hE : doErr4 x ⟨1, 1, n, c, tx⟩ = appErr x.b c tx := rfl
      rw [hE] at hD
      have hA : doAns x.w ⟨1, 1, n, c, tx⟩ = ⟨[], []⟩ := by unfold doAns; rw [hD, if_pos (by first | decide | assumption)]
      refine BoolCase.yes (by simpa using h3) ?_
      conv => whnf
      repeat (first | (refine Conf.mk (by kernel_rfl) ?_; conv => whnf) | (refine SeqOk.go ?_; conv => whnf))
      exact Ret.to (by rw [hD, hA]; rfl)
  · refine BoolCase.yes (by simp [hn]) ?_
    have hF : formOk ⟨1, 1, n, c, tx⟩ = false := by unfold formOk; simp [hn]
    have h3 : actErr ⟨1, 1, n, c, tx⟩ = 1 := by unfold actErr; rw [if_neg (by simp), if_pos hF]
    have hE : doErr x.w ⟨1, 1, n, c, tx⟩ = 1 := by rw [hD, h3, if_pos (by decide)]
    have hA : doAns x.w ⟨1, 1, n, c, tx⟩ = ⟨[], []⟩ := by unfold doAns; rw [if_pos (by rw [hE]; decide)]
    conv => whnf
    repeat (first | (refine Conf.mk (by kernel_rfl) ?_; conv => whnf) | (refine SeqOk.go ?_; conv => whnf))
    exact Ret.to (by rw [hE, hA]; rfl)
set_option maxHeartbeats 0 in
theorem doOf50_ok (x : W4) (hR : WorldR x) (n c : Int) (tx : ByteArray) : PCall Tryz.prog 45 [.agg [.dat (.list ([x.a, x.b].map Site'.enc)), .dat (.list ([x.u, x.v].map wayEnc))], .agg [dInt 5, dInt 0, dInt n, dInt c, .dat (.str tx)]] (.tup [(doAns x.w ⟨5, 0, n, c, tx⟩).arg, dInt (doErr x.w ⟨5, 0, n, c, tx⟩)]) := by
  have h1 := worldR_err hR
  have hlu := hR.lu
  have hlv := hR.lv
  have hD : doErr x.w ⟨5, 0, n, c, tx⟩ = if actErr ⟨5, 0, n, c, tx⟩ ≠ 0 then actErr ⟨5, 0, n, c, tx⟩ else doErr4 x ⟨5, 0, n, c, tx⟩ := by unfold doErr; rw [if_neg (by simp [h1])]; rfl
  refine pcall_cut tab_all tab_mixed Tryz.func45 (by kernel_rfl) Tryz.ntmps45 rfl ?_
  conv => whnf
  conv => whnf
  repeat (first | (refine Conf.mk (by kernel_rfl) ?_; conv => whnf) | (refine SeqOk.go ?_; conv => whnf))
  refine .data _ _ (between_ok 5 1 5) rfl ?_
  conv => whnf
  repeat (first | (refine Conf.mk (by kernel_rfl) ?_; conv => whnf) | (refine SeqOk.go ?_; conv => whnf))
  refine BoolCase.no rfl ?_
  conv => whnf
  repeat (first | (refine Conf.mk (by kernel_rfl) ?_; conv => whnf) | (refine SeqOk.go ?_; conv => whnf))
  refine BoolCase.yes rfl ?_
  conv => whnf
  repeat (first | (refine Conf.mk (by kernel_rfl) ?_; conv => whnf) | (refine SeqOk.go ?_; conv => whnf))
  by_cases hc : c = 0
  · refine BoolCase.no (by simp [hc]) ?_
    conv => whnf
    repeat (first | (refine Conf.mk (by kernel_rfl) ?_; conv => whnf) | (refine SeqOk.go ?_; conv => whnf))
    by_cases ht : tx = ByteArray.empty
    · refine BoolCase.no (by simp [ht]; rfl) ?_
      conv => whnf
      repeat (first | (refine Conf.mk (by kernel_rfl) ?_; conv => whnf) | (refine SeqOk.go ?_; conv => whnf))
      refine BoolCase.no rfl ?_
      conv => whnf
      repeat (first | (refine Conf.mk (by kernel_rfl) ?_; conv => whnf) | (refine SeqOk.go ?_; conv => whnf))
      refine BoolCase.yes rfl ?_
      conv => whnf
      repeat (first | (refine Conf.mk (by kernel_rfl) ?_; conv => whnf) | (refine SeqOk.go ?_; conv => whnf))
      by_cases hn : n = 0
      · refine BoolCase.no (by simp [hn]) ?_
        have hF : formOk ⟨5, 0, n, c, tx⟩ = true := by unfold formOk; simp [hn, hc, ht]
        conv => whnf
        repeat (first | (refine Conf.mk (by kernel_rfl) ?_; conv => whnf) | (refine SeqOk.go ?_; conv => whnf))
        refine .data _ _ (between_ok 0 0 1) rfl ?_
        conv => whnf
        repeat (first | (refine Conf.mk (by kernel_rfl) ?_; conv => whnf) | (refine SeqOk.go ?_; conv => whnf))
        have h0 : actErr ⟨5, 0, n, c, tx⟩ = 0 := by unfold actErr; rw [if_neg (by simp), if_neg (by simp [hF]), if_neg (by simp)]
        rw [h0, if_neg (by decide)] at hD
        simp only at *
        refine BoolCase.no rfl ?_
        conv => whnf
        repeat (first | (refine Conf.mk (by kernel_rfl) ?_; conv => whnf) | (refine SeqOk.go ?_; conv => whnf))
        have hE : doErr4 x ⟨5, 0, n, c, tx⟩ = 0 := rfl
        have hA : doAns x.w ⟨5, 0, n, c, tx⟩ = W4.w ⟨(bring x.a (ownOf x.b.log 1)), x.b, x.u, x.v⟩ := by
          unfold doAns
          rw [hD, hE, if_neg (by decide), W4.of_w]
          rfl
        rw [hE] at hD
        refine BoolCase.yes rfl ?_
        conv => whnf
        repeat (first | (refine Conf.mk (by kernel_rfl) ?_; conv => whnf) | (refine SeqOk.go ?_; conv => whnf))
        refine .data _ _ (allAt0_ok x.a x.b x.u x.v hR.ra hR.ia hR.rb.log) rfl ?_
        conv => whnf
        repeat (first | (refine Conf.mk (by kernel_rfl) ?_; conv => whnf) | (refine SeqOk.go ?_; conv => whnf))
        exact Ret.to (by rw [hD, hA]; rfl)
      · refine BoolCase.yes (by simp [hn]) ?_
        have hF : formOk ⟨5, 0, n, c, tx⟩ = false := by unfold formOk; simp [hn]
        have h3 : actErr ⟨5, 0, n, c, tx⟩ = 1 := by unfold actErr; rw [if_neg (by simp), if_pos hF]
        have hE : doErr x.w ⟨5, 0, n, c, tx⟩ = 1 := by rw [hD, h3, if_pos (by decide)]
        have hA : doAns x.w ⟨5, 0, n, c, tx⟩ = ⟨[], []⟩ := by unfold doAns; rw [if_pos (by rw [hE]; decide)]
        conv => whnf
        repeat (first | (refine Conf.mk (by kernel_rfl) ?_; conv => whnf) | (refine SeqOk.go ?_; conv => whnf))
        exact Ret.to (by rw [hE, hA]; rfl)
    · refine BoolCase.yes (by simp; exact ht) ?_
      have hF : formOk ⟨5, 0, n, c, tx⟩ = false := by unfold formOk; simp [ht]
      have h3 : actErr ⟨5, 0, n, c, tx⟩ = 1 := by unfold actErr; rw [if_neg (by simp), if_pos hF]
      have hE : doErr x.w ⟨5, 0, n, c, tx⟩ = 1 := by rw [hD, h3, if_pos (by decide)]
      have hA : doAns x.w ⟨5, 0, n, c, tx⟩ = ⟨[], []⟩ := by unfold doAns; rw [if_pos (by rw [hE]; decide)]
      conv => whnf
      repeat (first | (refine Conf.mk (by kernel_rfl) ?_; conv => whnf) | (refine SeqOk.go ?_; conv => whnf))
      exact Ret.to (by rw [hE, hA]; rfl)
  · refine BoolCase.yes (by simp [hc]) ?_
    have hF : formOk ⟨5, 0, n, c, tx⟩ = false := by unfold formOk; simp [hc]
    have h3 : actErr ⟨5, 0, n, c, tx⟩ = 1 := by unfold actErr; rw [if_neg (by simp), if_pos hF]
    have hE : doErr x.w ⟨5, 0, n, c, tx⟩ = 1 := by rw [hD, h3, if_pos (by decide)]
    have hA : doAns x.w ⟨5, 0, n, c, tx⟩ = ⟨[], []⟩ := by unfold doAns; rw [if_pos (by rw [hE]; decide)]
    conv => whnf
    repeat (first | (refine Conf.mk (by kernel_rfl) ?_; conv => whnf) | (refine SeqOk.go ?_; conv => whnf))
    exact Ret.to (by rw [hE, hA]; rfl)
set_option maxHeartbeats 0 in
theorem doOf51_ok (x : W4) (hR : WorldR x) (n c : Int) (tx : ByteArray) : PCall Tryz.prog 45 [.agg [.dat (.list ([x.a, x.b].map Site'.enc)), .dat (.list ([x.u, x.v].map wayEnc))], .agg [dInt 5, dInt 1, dInt n, dInt c, .dat (.str tx)]] (.tup [(doAns x.w ⟨5, 1, n, c, tx⟩).arg, dInt (doErr x.w ⟨5, 1, n, c, tx⟩)]) := by
  have h1 := worldR_err hR
  have hlu := hR.lu
  have hlv := hR.lv
  have hD : doErr x.w ⟨5, 1, n, c, tx⟩ = if actErr ⟨5, 1, n, c, tx⟩ ≠ 0 then actErr ⟨5, 1, n, c, tx⟩ else doErr4 x ⟨5, 1, n, c, tx⟩ := by unfold doErr; rw [if_neg (by simp [h1])]; rfl
  refine pcall_cut tab_all tab_mixed Tryz.func45 (by kernel_rfl) Tryz.ntmps45 rfl ?_
  conv => whnf
  conv => whnf
  repeat (first | (refine Conf.mk (by kernel_rfl) ?_; conv => whnf) | (refine SeqOk.go ?_; conv => whnf))
  refine .data _ _ (between_ok 5 1 5) rfl ?_
  conv => whnf
  repeat (first | (refine Conf.mk (by kernel_rfl) ?_; conv => whnf) | (refine SeqOk.go ?_; conv => whnf))
  refine BoolCase.no rfl ?_
  conv => whnf
  repeat (first | (refine Conf.mk (by kernel_rfl) ?_; conv => whnf) | (refine SeqOk.go ?_; conv => whnf))
  refine BoolCase.yes rfl ?_
  conv => whnf
  repeat (first | (refine Conf.mk (by kernel_rfl) ?_; conv => whnf) | (refine SeqOk.go ?_; conv => whnf))
  by_cases hc : c = 0
  · refine BoolCase.no (by simp [hc]) ?_
    conv => whnf
    repeat (first | (refine Conf.mk (by kernel_rfl) ?_; conv => whnf) | (refine SeqOk.go ?_; conv => whnf))
    by_cases ht : tx = ByteArray.empty
    · refine BoolCase.no (by simp [ht]; rfl) ?_
      conv => whnf
      repeat (first | (refine Conf.mk (by kernel_rfl) ?_; conv => whnf) | (refine SeqOk.go ?_; conv => whnf))
      refine BoolCase.no rfl ?_
      conv => whnf
      repeat (first | (refine Conf.mk (by kernel_rfl) ?_; conv => whnf) | (refine SeqOk.go ?_; conv => whnf))
      refine BoolCase.yes rfl ?_
      conv => whnf
      repeat (first | (refine Conf.mk (by kernel_rfl) ?_; conv => whnf) | (refine SeqOk.go ?_; conv => whnf))
      by_cases hn : n = 0
      · refine BoolCase.no (by simp [hn]) ?_
        have hF : formOk ⟨5, 1, n, c, tx⟩ = true := by unfold formOk; simp [hn, hc, ht]
        conv => whnf
        repeat (first | (refine Conf.mk (by kernel_rfl) ?_; conv => whnf) | (refine SeqOk.go ?_; conv => whnf))
        refine .data _ _ (between_ok 1 0 1) rfl ?_
        conv => whnf
        repeat (first | (refine Conf.mk (by kernel_rfl) ?_; conv => whnf) | (refine SeqOk.go ?_; conv => whnf))
        have h0 : actErr ⟨5, 1, n, c, tx⟩ = 0 := by unfold actErr; rw [if_neg (by simp), if_neg (by simp [hF]), if_neg (by simp)]
        rw [h0, if_neg (by decide)] at hD
        simp only at *
        refine BoolCase.no rfl ?_
        conv => whnf
        repeat (first | (refine Conf.mk (by kernel_rfl) ?_; conv => whnf) | (refine SeqOk.go ?_; conv => whnf))
        have hE : doErr4 x ⟨5, 1, n, c, tx⟩ = 0 := rfl
        have hA : doAns x.w ⟨5, 1, n, c, tx⟩ = W4.w ⟨x.a, (bring x.b (ownOf x.a.log 0)), x.u, x.v⟩ := by
          unfold doAns
          rw [hD, hE, if_neg (by decide), W4.of_w]
          rfl
        rw [hE] at hD
        refine BoolCase.yes rfl ?_
        conv => whnf
        repeat (first | (refine Conf.mk (by kernel_rfl) ?_; conv => whnf) | (refine SeqOk.go ?_; conv => whnf))
        refine .data _ _ (allAt1_ok x.a x.b x.u x.v hR.rb hR.ib hR.ra.log) rfl ?_
        conv => whnf
        repeat (first | (refine Conf.mk (by kernel_rfl) ?_; conv => whnf) | (refine SeqOk.go ?_; conv => whnf))
        exact Ret.to (by rw [hD, hA]; rfl)
      · refine BoolCase.yes (by simp [hn]) ?_
        have hF : formOk ⟨5, 1, n, c, tx⟩ = false := by unfold formOk; simp [hn]
        have h3 : actErr ⟨5, 1, n, c, tx⟩ = 1 := by unfold actErr; rw [if_neg (by simp), if_pos hF]
        have hE : doErr x.w ⟨5, 1, n, c, tx⟩ = 1 := by rw [hD, h3, if_pos (by decide)]
        have hA : doAns x.w ⟨5, 1, n, c, tx⟩ = ⟨[], []⟩ := by unfold doAns; rw [if_pos (by rw [hE]; decide)]
        conv => whnf
        repeat (first | (refine Conf.mk (by kernel_rfl) ?_; conv => whnf) | (refine SeqOk.go ?_; conv => whnf))
        exact Ret.to (by rw [hE, hA]; rfl)
    · refine BoolCase.yes (by simp; exact ht) ?_
      have hF : formOk ⟨5, 1, n, c, tx⟩ = false := by unfold formOk; simp [ht]
      have h3 : actErr ⟨5, 1, n, c, tx⟩ = 1 := by unfold actErr; rw [if_neg (by simp), if_pos hF]
      have hE : doErr x.w ⟨5, 1, n, c, tx⟩ = 1 := by rw [hD, h3, if_pos (by decide)]
      have hA : doAns x.w ⟨5, 1, n, c, tx⟩ = ⟨[], []⟩ := by unfold doAns; rw [if_pos (by rw [hE]; decide)]
      conv => whnf
      repeat (first | (refine Conf.mk (by kernel_rfl) ?_; conv => whnf) | (refine SeqOk.go ?_; conv => whnf))
      exact Ret.to (by rw [hE, hA]; rfl)
  · refine BoolCase.yes (by simp [hc]) ?_
    have hF : formOk ⟨5, 1, n, c, tx⟩ = false := by unfold formOk; simp [hc]
    have h3 : actErr ⟨5, 1, n, c, tx⟩ = 1 := by unfold actErr; rw [if_neg (by simp), if_pos hF]
    have hE : doErr x.w ⟨5, 1, n, c, tx⟩ = 1 := by rw [hD, h3, if_pos (by decide)]
    have hA : doAns x.w ⟨5, 1, n, c, tx⟩ = ⟨[], []⟩ := by unfold doAns; rw [if_pos (by rw [hE]; decide)]
    conv => whnf
    repeat (first | (refine Conf.mk (by kernel_rfl) ?_; conv => whnf) | (refine SeqOk.go ?_; conv => whnf))
    exact Ret.to (by rw [hE, hA]; rfl)
end Go.Proofs.YtlioojekjnigiafGreat.AM
/- Worlds: Do, as the document says. -/
namespace Go.Proofs.YtlioojekjnigiafGreat.AM
set_option linter.unusedVariables false
set_option linter.unusedSimpArgs false

set_option maxHeartbeats 0 in
theorem doOf20_ok (x : W4) (hR : WorldR x) (n c : Int) (tx : ByteArray) : PCall Tryz.prog 45 [.agg [.dat (.list ([x.a, x.b].map Site'.enc)), .dat (.list ([x.u, x.v].map wayEnc))], .agg [dInt 2, dInt 0, dInt n, dInt c, .dat (.str tx)]] (.tup [(doAns x.w ⟨2, 0, n, c, tx⟩).arg, dInt (doErr x.w ⟨2, 0, n, c, tx⟩)]) := by
  have h1 := worldR_err hR
  have hlu := hR.lu
  have hlv := hR.lv
  have hD : doErr x.w ⟨2, 0, n, c, tx⟩ = if actErr ⟨2, 0, n, c, tx⟩ ≠ 0 then actErr ⟨2, 0, n, c, tx⟩ else doErr4 x ⟨2, 0, n, c, tx⟩ := by unfold doErr; rw [if_neg (by simp [h1])]; rfl
  refine pcall_cut tab_all tab_mixed Tryz.func45 (by kernel_rfl) Tryz.ntmps45 rfl ?_
  conv => whnf
  conv => whnf
  repeat (first | (refine Conf.mk (by kernel_rfl) ?_; conv => whnf) | (refine SeqOk.go ?_; conv => whnf))
  refine .data _ _ (between_ok 2 1 5) rfl ?_
  conv => whnf
  repeat (first | (refine Conf.mk (by kernel_rfl) ?_; conv => whnf) | (refine SeqOk.go ?_; conv => whnf))
  refine BoolCase.no rfl ?_
  conv => whnf
  repeat (first | (refine Conf.mk (by kernel_rfl) ?_; conv => whnf) | (refine SeqOk.go ?_; conv => whnf))
  refine BoolCase.yes rfl ?_
  conv => whnf
  repeat (first | (refine Conf.mk (by kernel_rfl) ?_; conv => whnf) | (refine SeqOk.go ?_; conv => whnf))
  by_cases hc : c = 0
  · refine BoolCase.no (by simp [hc]) ?_
    conv => whnf
    repeat (first | (refine Conf.mk (by kernel_rfl) ?_; conv => whnf) | (refine SeqOk.go ?_; conv => whnf))
    by_cases ht : tx = ByteArray.empty
    · refine BoolCase.no (by simp [ht]; rfl) ?_
      conv => whnf
      repeat (first | (refine Conf.mk (by kernel_rfl) ?_; conv => whnf) | (refine SeqOk.go ?_; conv => whnf))
      refine BoolCase.no rfl ?_
      conv => whnf
      repeat (first | (refine Conf.mk (by kernel_rfl) ?_; conv => whnf) | (refine SeqOk.go ?_; conv => whnf))
      refine BoolCase.no rfl ?_
      have hF : formOk ⟨2, 0, n, c, tx⟩ = true := by unfold formOk; simp [hc, ht]
      conv => whnf
      repeat (first | (refine Conf.mk (by kernel_rfl) ?_; conv => whnf) | (refine SeqOk.go ?_; conv => whnf))
      refine .data _ _ (between_ok 0 0 1) rfl ?_
      conv => whnf
      repeat (first | (refine Conf.mk (by kernel_rfl) ?_; conv => whnf) | (refine SeqOk.go ?_; conv => whnf))
      have h0 : actErr ⟨2, 0, n, c, tx⟩ = 0 := by unfold actErr; rw [if_neg (by simp), if_neg (by simp [hF]), if_neg (by simp)]
      rw [h0, if_neg (by decide)] at hD
      simp only at *
      refine BoolCase.no rfl ?_
      conv => whnf
      repeat (first | (refine Conf.mk (by kernel_rfl) ?_; conv => whnf) | (refine SeqOk.go ?_; conv => whnf))
      refine BoolCase.no rfl ?_
      conv => whnf
      repeat (first | (refine Conf.mk (by kernel_rfl) ?_; conv => whnf) | (refine SeqOk.go ?_; conv => whnf))
      refine .eff [] _ _ _ _ 2 (copyWorld_ok x.a x.b x.u x.v) rfl rfl rfl rfl rfl ?_
      conv => whnf
      repeat (first | (refine Conf.mk (by kernel_rfl) ?_; conv => whnf) | (refine SeqOk.go ?_; conv => whnf))
      refine BoolCase.no rfl ?_
      conv => whnf
      repeat (first | (refine Conf.mk (by kernel_rfl) ?_; conv => whnf) | (refine SeqOk.go ?_; conv => whnf))
      refine .mk 0 (wayEnc x.u) rfl rfl rfl ?_
      conv => whnf
      repeat (first | (refine Conf.mk (by kernel_rfl) ?_; conv => whnf) | (refine SeqOk.go ?_; conv => whnf))
      refine .data _ _ (between_ok n 0 (IntKind.i64.wrap (((x.u.map Entry'.enc).length : Int) - 1))) rfl ?_
      conv => whnf
      repeat (first | (refine Conf.mk (by kernel_rfl) ?_; conv => whnf) | (refine SeqOk.go ?_; conv => whnf))
      by_cases h3 : n < 0 ∨ (x.u.length : Int) ≤ n
      · have hE : doErr4 x ⟨2, 0, n, c, tx⟩ = 5 := by
          unfold doErr4
          rw [if_neg (by simp), if_neg (by simp)]
          exact if_pos h3
        rw [hE] at hD
        have hA : doAns x.w ⟨2, 0, n, c, tx⟩ = ⟨[], []⟩ := by unfold doAns; rw [hD, if_pos (by decide)]
        refine BoolCase.yes (by rw [len_less hlu]; simp; omega) ?_
        conv => whnf
        repeat (first | (refine Conf.mk (by kernel_rfl) ?_; conv => whnf) | (refine SeqOk.go ?_; conv => whnf))
        exact Ret.to (by rw [hD, hA]; rfl)
      · obtain ⟨m, rfl⟩ : ∃ m : Nat, n = m := ⟨n.toNat, by omega⟩
        have hm : m < x.u.length := by omega
        obtain ⟨e1, e2⟩ := hR.eu _ (.inl (List.getElem_mem hm))
        have hrc := receiveOf_ok x.a hR.ra x.u[m] e1
        rw [(hR.recv0 e1 e2).1] at hrc
        refine BoolCase.no (by rw [len_less hlu]; simp; omega) ?_
        conv => whnf
        repeat (first | (refine Conf.mk (by kernel_rfl) ?_; conv => whnf) | (refine SeqOk.go ?_; conv => whnf))
        have hE : doErr4 x ⟨2, 0, m, c, tx⟩ = 0 := by show (if (m : Int) < 0 ∨ (x.u.length : Int) ≤ (m : Int) then _ else _) = _; rw [if_neg h3]; rfl
        have hA : doAns x.w ⟨2, 0, m, c, tx⟩ = W4.w ⟨(recvAns x.a x.u[m]), x.b, (x.u.eraseIdx m), x.v⟩ := by
          unfold doAns
          rw [hD, hE, if_neg (by decide), W4.of_w]
          rw [← nth0_lt hm]; rfl
        rw [hE] at hD
        refine BoolCase.yes rfl ?_
        conv => whnf
        repeat (first | (refine Conf.mk (by kernel_rfl) ?_; conv => whnf) | (refine SeqOk.go ?_; conv => whnf))
        refine .mk 0 x.a.enc rfl rfl rfl ?_
        conv => whnf
        repeat (first | (refine Conf.mk (by kernel_rfl) ?_; conv => whnf) | (refine SeqOk.go ?_; conv => whnf))
        refine AtIdx.ofMap (l := x.u) hm rfl ?_
        conv => whnf
        repeat (first | (refine Conf.mk (by kernel_rfl) ?_; conv => whnf) | (refine SeqOk.go ?_; conv => whnf))
        generalize recvAns x.a x.u[m] = gs at hrc hA ⊢
        refine .data _ _ hrc rfl ?_
        conv => whnf
        repeat (first | (refine Conf.mk (by kernel_rfl) ?_; conv => whnf) | (refine SeqOk.go ?_; conv => whnf))
        refine BoolCase.no rfl ?_
        conv => whnf
        repeat (first | (refine Conf.mk (by kernel_rfl) ?_; conv => whnf) | (refine SeqOk.go ?_; conv => whnf))
        try simp only
        refine .mk 0 rfl (by show 0 < 6 / 3; decide) ?_
        conv => whnf
        repeat (first | (refine Conf.mk (by kernel_rfl) ?_; conv => whnf) | (refine SeqOk.go ?_; conv => whnf))
        refine .data _ _ (without_ok x.u m hm (by omega)) rfl ?_
        conv => whnf
        repeat (first | (refine Conf.mk (by kernel_rfl) ?_; conv => whnf) | (refine SeqOk.go ?_; conv => whnf))
        try simp only
        refine .mk 0 rfl (by show 0 < 2 / 1; decide) ?_
        conv => whnf
        repeat (first | (refine Conf.mk (by kernel_rfl) ?_; conv => whnf) | (refine SeqOk.go ?_; conv => whnf))
        refine ret_of _ _ ?_
        exact ⟨.tup [(W4.w ⟨gs, x.b, (x.u.eraseIdx m), x.v⟩).arg, dInt 0], by kernel_rfl, by rw [hD, hA]⟩
    · refine BoolCase.yes (by simp; exact ht) ?_
      have hF : formOk ⟨2, 0, n, c, tx⟩ = false := by unfold formOk; simp [ht]
      have h3 : actErr ⟨2, 0, n, c, tx⟩ = 1 := by unfold actErr; rw [if_neg (by simp), if_pos hF]
      have hE : doErr x.w ⟨2, 0, n, c, tx⟩ = 1 := by rw [hD, h3, if_pos (by decide)]
      have hA : doAns x.w ⟨2, 0, n, c, tx⟩ = ⟨[], []⟩ := by unfold doAns; rw [if_pos (by rw [hE]; decide)]
      conv => whnf
      repeat (first | (refine Conf.mk (by kernel_rfl) ?_; conv => whnf) | (refine SeqOk.go ?_; conv => whnf))
      exact Ret.to (by rw [hE, hA]; rfl)
  · refine BoolCase.yes (by simp [hc]) ?_
    have hF : formOk ⟨2, 0, n, c, tx⟩ = false := by unfold formOk; simp [hc]
    have h3 : actErr ⟨2, 0, n, c, tx⟩ = 1 := by unfold actErr; rw [if_neg (by simp), if_pos hF]
    have hE : doErr x.w ⟨2, 0, n, c, tx⟩ = 1 := by rw [hD, h3, if_pos (by decide)]
    have hA : doAns x.w ⟨2, 0, n, c, tx⟩ = ⟨[], []⟩ := by unfold doAns; rw [if_pos (by rw [hE]; decide)]
    conv => whnf
    repeat (first | (refine Conf.mk (by kernel_rfl) ?_; conv => whnf) | (refine SeqOk.go ?_; conv => whnf))
    exact Ret.to (by rw [hE, hA]; rfl)
set_option maxHeartbeats 0 in
theorem doOf21_ok (x : W4) (hR : WorldR x) (n c : Int) (tx : ByteArray) : PCall Tryz.prog 45 [.agg [.dat (.list ([x.a, x.b].map Site'.enc)), .dat (.list ([x.u, x.v].map wayEnc))], .agg [dInt 2, dInt 1, dInt n, dInt c, .dat (.str tx)]] (.tup [(doAns x.w ⟨2, 1, n, c, tx⟩).arg, dInt (doErr x.w ⟨2, 1, n, c, tx⟩)]) := by
  have h1 := worldR_err hR
  have hlu := hR.lu
  have hlv := hR.lv
  have hD : doErr x.w ⟨2, 1, n, c, tx⟩ = if actErr ⟨2, 1, n, c, tx⟩ ≠ 0 then actErr ⟨2, 1, n, c, tx⟩ else doErr4 x ⟨2, 1, n, c, tx⟩ := by unfold doErr; rw [if_neg (by simp [h1])]; rfl
  refine pcall_cut tab_all tab_mixed Tryz.func45 (by kernel_rfl) Tryz.ntmps45 rfl ?_
  conv => whnf
  conv => whnf
  repeat (first | (refine Conf.mk (by kernel_rfl) ?_; conv => whnf) | (refine SeqOk.go ?_; conv => whnf))
  refine .data _ _ (between_ok 2 1 5) rfl ?_
  conv => whnf
  repeat (first | (refine Conf.mk (by kernel_rfl) ?_; conv => whnf) | (refine SeqOk.go ?_; conv => whnf))
  refine BoolCase.no rfl ?_
  conv => whnf
  repeat (first | (refine Conf.mk (by kernel_rfl) ?_; conv => whnf) | (refine SeqOk.go ?_; conv => whnf))
  refine BoolCase.yes rfl ?_
  conv => whnf
  repeat (first | (refine Conf.mk (by kernel_rfl) ?_; conv => whnf) | (refine SeqOk.go ?_; conv => whnf))
  by_cases hc : c = 0
  · refine BoolCase.no (by simp [hc]) ?_
    conv => whnf
    repeat (first | (refine Conf.mk (by kernel_rfl) ?_; conv => whnf) | (refine SeqOk.go ?_; conv => whnf))
    by_cases ht : tx = ByteArray.empty
    · refine BoolCase.no (by simp [ht]; rfl) ?_
      conv => whnf
      repeat (first | (refine Conf.mk (by kernel_rfl) ?_; conv => whnf) | (refine SeqOk.go ?_; conv => whnf))
      refine BoolCase.no rfl ?_
      conv => whnf
      repeat (first | (refine Conf.mk (by kernel_rfl) ?_; conv => whnf) | (refine SeqOk.go ?_; conv => whnf))
      refine BoolCase.no rfl ?_
      have hF : formOk ⟨2, 1, n, c, tx⟩ = true := by unfold formOk; simp [hc, ht]
      conv => whnf
      repeat (first | (refine Conf.mk (by kernel_rfl) ?_; conv => whnf) | (refine SeqOk.go ?_; conv => whnf))
      refine .data _ _ (between_ok 1 0 1) rfl ?_
      conv => whnf
      repeat (first | (refine Conf.mk (by kernel_rfl) ?_; conv => whnf) | (refine SeqOk.go ?_; conv => whnf))
      have h0 : actErr ⟨2, 1, n, c, tx⟩ = 0 := by unfold actErr; rw [if_neg (by simp), if_neg (by simp [hF]), if_neg (by simp)]
      rw [h0, if_neg (by decide)] at hD
      simp only at *
      refine BoolCase.no rfl ?_
      conv => whnf
      repeat (first | (refine Conf.mk (by kernel_rfl) ?_; conv => whnf) | (refine SeqOk.go ?_; conv => whnf))
      refine BoolCase.no rfl ?_
      conv => whnf
      repeat (first | (refine Conf.mk (by kernel_rfl) ?_; conv => whnf) | (refine SeqOk.go ?_; conv => whnf))
      refine .eff [] _ _ _ _ 2 (copyWorld_ok x.a x.b x.u x.v) rfl rfl rfl rfl rfl ?_
      conv => whnf
      repeat (first | (refine Conf.mk (by kernel_rfl) ?_; conv => whnf) | (refine SeqOk.go ?_; conv => whnf))
      refine BoolCase.no rfl ?_
      conv => whnf
      repeat (first | (refine Conf.mk (by kernel_rfl) ?_; conv => whnf) | (refine SeqOk.go ?_; conv => whnf))
      refine .mk 1 (wayEnc x.v) rfl rfl rfl ?_
      conv => whnf
      repeat (first | (refine Conf.mk (by kernel_rfl) ?_; conv => whnf) | (refine SeqOk.go ?_; conv => whnf))
      refine .data _ _ (between_ok n 0 (IntKind.i64.wrap (((x.v.map Entry'.enc).length : Int) - 1))) rfl ?_
      conv => whnf
      repeat (first | (refine Conf.mk (by kernel_rfl) ?_; conv => whnf) | (refine SeqOk.go ?_; conv => whnf))
      by_cases h3 : n < 0 ∨ (x.v.length : Int) ≤ n
      · have hE : doErr4 x ⟨2, 1, n, c, tx⟩ = 5 := by
          unfold doErr4
          rw [if_neg (by simp), if_neg (by simp)]
          exact if_pos h3
        rw [hE] at hD
        have hA : doAns x.w ⟨2, 1, n, c, tx⟩ = ⟨[], []⟩ := by unfold doAns; rw [hD, if_pos (by decide)]
        refine BoolCase.yes (by rw [len_less hlv]; simp; omega) ?_
        conv => whnf
        repeat (first | (refine Conf.mk (by kernel_rfl) ?_; conv => whnf) | (refine SeqOk.go ?_; conv => whnf))
        exact Ret.to (by rw [hD, hA]; rfl)
      · obtain ⟨m, rfl⟩ : ∃ m : Nat, n = m := ⟨n.toNat, by omega⟩
        have hm : m < x.v.length := by omega
        obtain ⟨e1, e2⟩ := hR.eu _ (.inr (List.getElem_mem hm))
        have hrc := receiveOf_ok x.b hR.rb x.v[m] e1
        rw [(hR.recv1 e1 e2).1] at hrc
        refine BoolCase.no (by rw [len_less hlv]; simp; omega) ?_
        conv => whnf
        repeat (first | (refine Conf.mk (by kernel_rfl) ?_; conv => whnf) | (refine SeqOk.go ?_; conv => whnf))
        have hE : doErr4 x ⟨2, 1, m, c, tx⟩ = 0 := by show (if (m : Int) < 0 ∨ (x.v.length : Int) ≤ (m : Int) then _ else _) = _; rw [if_neg h3]; rfl
        have hA : doAns x.w ⟨2, 1, m, c, tx⟩ = W4.w ⟨x.a, (recvAns x.b x.v[m]), x.u, (x.v.eraseIdx m)⟩ := by
          unfold doAns
          rw [hD, hE, if_neg (by decide), W4.of_w]
          rw [← nth0_lt hm]; rfl
        rw [hE] at hD
        refine BoolCase.yes rfl ?_
        conv => whnf
        repeat (first | (refine Conf.mk (by kernel_rfl) ?_; conv => whnf) | (refine SeqOk.go ?_; conv => whnf))
        refine .mk 1 x.b.enc rfl rfl rfl ?_
        conv => whnf
        repeat (first | (refine Conf.mk (by kernel_rfl) ?_; conv => whnf) | (refine SeqOk.go ?_; conv => whnf))
        refine AtIdx.ofMap (l := x.v) hm rfl ?_
        conv => whnf
        repeat (first | (refine Conf.mk (by kernel_rfl) ?_; conv => whnf) | (refine SeqOk.go ?_; conv => whnf))
        generalize recvAns x.b x.v[m] = gs at hrc hA ⊢
        refine .data _ _ hrc rfl ?_
        conv => whnf
        repeat (first | (refine Conf.mk (by kernel_rfl) ?_; conv => whnf) | (refine SeqOk.go ?_; conv => whnf))
        refine BoolCase.no rfl ?_
        conv => whnf
        repeat (first | (refine Conf.mk (by kernel_rfl) ?_; conv => whnf) | (refine SeqOk.go ?_; conv => whnf))
        try simp only
        refine .mk 1 rfl (by show 1 < 6 / 3; decide) ?_
        conv => whnf
        repeat (first | (refine Conf.mk (by kernel_rfl) ?_; conv => whnf) | (refine SeqOk.go ?_; conv => whnf))
        refine .data _ _ (without_ok x.v m hm (by omega)) rfl ?_
        conv => whnf
        repeat (first | (refine Conf.mk (by kernel_rfl) ?_; conv => whnf) | (refine SeqOk.go ?_; conv => whnf))
        try simp only
        refine .mk 1 rfl (by show 1 < 2 / 1; decide) ?_
        conv => whnf
        repeat (first | (refine Conf.mk (by kernel_rfl) ?_; conv => whnf) | (refine SeqOk.go ?_; conv => whnf))
        refine ret_of _ _ ?_
        exact ⟨.tup [(W4.w ⟨x.a, gs, x.u, (x.v.eraseIdx m)⟩).arg, dInt 0], by kernel_rfl, by rw [hD, hA]⟩
    · refine BoolCase.yes (by simp; exact ht) ?_
      have hF : formOk ⟨2, 1, n, c, tx⟩ = false := by unfold formOk; simp [ht]
      have h3 : actErr ⟨2, 1, n, c, tx⟩ = 1 := by unfold actErr; rw [if_neg (by simp), if_pos hF]
      have hE : doErr x.w ⟨2, 1, n, c, tx⟩ = 1 := by rw [hD, h3, if_pos (by decide)]
      have hA : doAns x.w ⟨2, 1, n, c, tx⟩ = ⟨[], []⟩ := by unfold doAns; rw [if_pos (by rw [hE]; decide)]
      conv => whnf
      repeat (first | (refine Conf.mk (by kernel_rfl) ?_; conv => whnf) | (refine SeqOk.go ?_; conv => whnf))
      exact Ret.to (by rw [hE, hA]; rfl)
  · refine BoolCase.yes (by simp [hc]) ?_
    have hF : formOk ⟨2, 1, n, c, tx⟩ = false := by unfold formOk; simp [hc]
    have h3 : actErr ⟨2, 1, n, c, tx⟩ = 1 := by unfold actErr; rw [if_neg (by simp), if_pos hF]
    have hE : doErr x.w ⟨2, 1, n, c, tx⟩ = 1 := by rw [hD, h3, if_pos (by decide)]
    have hA : doAns x.w ⟨2, 1, n, c, tx⟩ = ⟨[], []⟩ := by unfold doAns; rw [if_pos (by rw [hE]; decide)]
    conv => whnf
    repeat (first | (refine Conf.mk (by kernel_rfl) ?_; conv => whnf) | (refine SeqOk.go ?_; conv => whnf))
    exact Ret.to (by rw [hE, hA]; rfl)
end Go.Proofs.YtlioojekjnigiafGreat.AM
