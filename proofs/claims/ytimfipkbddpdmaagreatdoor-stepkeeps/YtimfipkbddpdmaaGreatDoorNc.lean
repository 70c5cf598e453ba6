import Derived.Test.YtimfipkbddpdmaaGreatDoorNb
import Derived.Test.YtimfipkbddpdmaaGreatDoorEach6
set_option linter.unusedVariables false
set_option linter.unusedSimpArgs false
set_option maxRecDepth 100000
open Go Go.RowKit
namespace Go.Proofs.YtimfipkbddpdmaaGreatDoor
theorem boxS (w : World) (c : Cp) (G : Array Value) : ∃ W, ((((w.alloc (.cells c.cells.toArray 25)).alloc (.cells G 33)).alloc (.cells #[.int .u32 0, .int .u32 0, .int .u32 0, .int .u32 0, .int .u32 0, .int .u32 0, .int .u32 0, .int .u32 0, .int .u32 0, .int .u32 0, .int .u32 0, .int .u32 0, .int .u32 0, .int .u32 0, .int .u32 0, .int .u32 0, .int .u32 0, .int .u32 0, .int .u32 0, .int .u32 0, .int .u32 0, .int .u32 0, .int .u32 0, .int .u32 0, .int .u32 0, .int .u32 0, .int .u32 0, .int .u32 0, .int .u32 0, .int .u32 0, .int .u32 0, .int .u32 0, .int .u32 0, .int .u32 0, .int .u32 0, .int .u32 0, .bool false, .int .u32 0, .bool false] 25)).alloc (.cells #[.slice none 0 0, .slice none 0 0, .int .u64 0, .slice none 0 0] 33)).alloc (.cells #[.int .i64 0, .int .u32 0, .int .u32 0, .int .i64 0, .int .u64 0] 40) = W /\ Below w.heap.size w W /\ W.heap.size = w.heap.size + 5 /\ Cb c w.heap.size W /\ W.heap[w.heap.size + 1]? = some (.cells G 33 (0, 0)) /\ Cb c00 (w.heap.size + 1 + 1) W /\ W.heap[w.heap.size + 1 + 1 + 1]? = some (.cells #[.slice none 0 0, .slice none 0 0, .int .u64 0, .slice none 0 0] 33 (0, 0)) /\ Eb noEv (w.heap.size + 1 + 1 + 1 + 1) W := by
 have h1 : (w.alloc (.cells c.cells.toArray 25)).heap.size = w.heap.size + 1 := by simp
 have h2 : ((w.alloc (.cells c.cells.toArray 25)).alloc (.cells G 33)).heap.size = w.heap.size + 1 + 1 := by simp
 have h3 : (((w.alloc (.cells c.cells.toArray 25)).alloc (.cells G 33)).alloc (.cells #[.int .u32 0, .int .u32 0, .int .u32 0, .int .u32 0, .int .u32 0, .int .u32 0, .int .u32 0, .int .u32 0, .int .u32 0, .int .u32 0, .int .u32 0, .int .u32 0, .int .u32 0, .int .u32 0, .int .u32 0, .int .u32 0, .int .u32 0, .int .u32 0, .int .u32 0, .int .u32 0, .int .u32 0, .int .u32 0, .int .u32 0, .int .u32 0, .int .u32 0, .int .u32 0, .int .u32 0, .int .u32 0, .int .u32 0, .int .u32 0, .int .u32 0, .int .u32 0, .int .u32 0, .int .u32 0, .int .u32 0, .int .u32 0, .bool false, .int .u32 0, .bool false] 25)).heap.size = w.heap.size + 1 + 1 + 1 := by simp
 have h4 : ((((w.alloc (.cells c.cells.toArray 25)).alloc (.cells G 33)).alloc (.cells #[.int .u32 0, .int .u32 0, .int .u32 0, .int .u32 0, .int .u32 0, .int .u32 0, .int .u32 0, .int .u32 0, .int .u32 0, .int .u32 0, .int .u32 0, .int .u32 0, .int .u32 0, .int .u32 0, .int .u32 0, .int .u32 0, .int .u32 0, .int .u32 0, .int .u32 0, .int .u32 0, .int .u32 0, .int .u32 0, .int .u32 0, .int .u32 0, .int .u32 0, .int .u32 0, .int .u32 0, .int .u32 0, .int .u32 0, .int .u32 0, .int .u32 0, .int .u32 0, .int .u32 0, .int .u32 0, .int .u32 0, .int .u32 0, .bool false, .int .u32 0, .bool false] 25)).alloc (.cells #[.slice none 0 0, .slice none 0 0, .int .u64 0, .slice none 0 0] 33)).heap.size = w.heap.size + 1 + 1 + 1 + 1 := by simp
 refine ⟨_, rfl, (((((Below.refl _ _).alloc (Nat.le_refl _) _).alloc (by rw [h1]; omega) _).alloc (by rw [h2]; omega) _).alloc (by rw [h3]; omega) _).alloc (by rw [h4]; omega) _, by simp, ?_, ?_, ?_, ?_, ?_⟩
 ·exact (heap_alloc_old _ _ (by rw [h4]; omega)).trans ((heap_alloc_old _ _ (by rw [h3]; omega)).trans ((heap_alloc_old _ _ (by rw [h2]; omega)).trans ((heap_alloc_old _ _ (by rw [h1]; omega)).trans (heap_alloc_new w _))))
 ·exact (heap_alloc_old _ _ (by rw [h4]; omega)).trans ((heap_alloc_old _ _ (by rw [h3]; omega)).trans ((heap_alloc_old _ _ (by rw [h2]; omega)).trans (heap_alloc2_new w _ _)))
 ·have := heap_alloc_new ((w.alloc (.cells c.cells.toArray 25)).alloc (.cells G 33)) (.cells #[.int .u32 0, .int .u32 0, .int .u32 0, .int .u32 0, .int .u32 0, .int .u32 0, .int .u32 0, .int .u32 0, .int .u32 0, .int .u32 0, .int .u32 0, .int .u32 0, .int .u32 0, .int .u32 0, .int .u32 0, .int .u32 0, .int .u32 0, .int .u32 0, .int .u32 0, .int .u32 0, .int .u32 0, .int .u32 0, .int .u32 0, .int .u32 0, .int .u32 0, .int .u32 0, .int .u32 0, .int .u32 0, .int .u32 0, .int .u32 0, .int .u32 0, .int .u32 0, .int .u32 0, .int .u32 0, .int .u32 0, .int .u32 0, .bool false, .int .u32 0, .bool false] 25)
  rw [h2] at this
  exact (heap_alloc_old _ _ (by rw [h4]; omega)).trans ((heap_alloc_old _ _ (by rw [h3]; omega)).trans this)
 ·have := heap_alloc_new (((w.alloc (.cells c.cells.toArray 25)).alloc (.cells G 33)).alloc (.cells #[.int .u32 0, .int .u32 0, .int .u32 0, .int .u32 0, .int .u32 0, .int .u32 0, .int .u32 0, .int .u32 0, .int .u32 0, .int .u32 0, .int .u32 0, .int .u32 0, .int .u32 0, .int .u32 0, .int .u32 0, .int .u32 0, .int .u32 0, .int .u32 0, .int .u32 0, .int .u32 0, .int .u32 0, .int .u32 0, .int .u32 0, .int .u32 0, .int .u32 0, .int .u32 0, .int .u32 0, .int .u32 0, .int .u32 0, .int .u32 0, .int .u32 0, .int .u32 0, .int .u32 0, .int .u32 0, .int .u32 0, .int .u32 0, .bool false, .int .u32 0, .bool false] 25)) (.cells #[.slice none 0 0, .slice none 0 0, .int .u64 0, .slice none 0 0] 33)
  rw [h3] at this
  exact (heap_alloc_old _ _ (by rw [h4]; omega)).trans this
 ·have := heap_alloc_new ((((w.alloc (.cells c.cells.toArray 25)).alloc (.cells G 33)).alloc (.cells #[.int .u32 0, .int .u32 0, .int .u32 0, .int .u32 0, .int .u32 0, .int .u32 0, .int .u32 0, .int .u32 0, .int .u32 0, .int .u32 0, .int .u32 0, .int .u32 0, .int .u32 0, .int .u32 0, .int .u32 0, .int .u32 0, .int .u32 0, .int .u32 0, .int .u32 0, .int .u32 0, .int .u32 0, .int .u32 0, .int .u32 0, .int .u32 0, .int .u32 0, .int .u32 0, .int .u32 0, .int .u32 0, .int .u32 0, .int .u32 0, .int .u32 0, .int .u32 0, .int .u32 0, .int .u32 0, .int .u32 0, .int .u32 0, .bool false, .int .u32 0, .bool false] 25)).alloc (.cells #[.slice none 0 0, .slice none 0 0, .int .u64 0, .slice none 0 0] 33)) (.cells #[.int .i64 0, .int .u32 0, .int .u32 0, .int .i64 0, .int .u64 0] 40)
  rw [h4] at this
  exact this
theorem loadC {c : Cp} {b : Nat} {w : World} (hl : c.r.length = 32) (h : Cb c b w) : (loadVar 25 ⟨b, 0, none⟩).run Tryz.prog w = .ok (.agg c.cells.toArray) w := by
 have h' : w.heap[b]? = some (.cells (c.cells ++ []).toArray 25 (0, 0)) := by rw [List.append_nil]; exact h
 exact load_pre w b 25 25 39 c.cells [] _ h' (by rfl) (by rfl) (by rfl) (cells_len c hl)
def FrS (M : Mem) (cs : List (Nat × Int)) (v : Value) (w : World) : Prop := ∃ x1 x2 x3 x4 x5 x6 x7 x8 x9, v = .agg #[.slice x1 x2 x3, .slice x4 x5 x6, .int .u64 M.bs, .slice x7 x8 x9] /\ Gm.OwnG 0 w (.slice x1 x2 x3) (.slice x4 x5 x6) (.slice x7 x8 x9) M.ms cs M.ps
def MaS (M : Mem) (c : Cp) (cs : List (Nat × Int)) (v : Value) (w : World) : Prop := ∃ g : Gv, v = .agg (mcells c g).toArray /\ g.bs = M.bs /\ Gm.OwnG 0 w g.vm g.vc g.vp M.ms cs M.ps
def TuS (M : Mem) (c : Cp) (cs : List (Nat × Int)) (ev : Value) (v : Value) (w : World) : Prop := ∃ g : Gv, v = .tuple #[.agg (mcells c g).toArray, ev] /\ g.bs = M.bs /\ Gm.OwnG 0 w g.vm g.vc g.vp M.ms cs M.ps
def N66 (B : Nat) (v : Value) (w : World) : Prop := ∃ n, v = .pointer (some ⟨n, 0, none⟩) /\ B <= n /\ Mb c00 g00 n w
def N40 (B : Nat) (v : Value) (w : World) : Prop := ∃ n, v = .pointer (some ⟨n, 0, none⟩) /\ B <= n /\ Eb noEv n w
theorem FrS.keep {M : Mem} {cs : List (Nat × Int)} {v : Value} {w w' : World} (h : FrS M cs v w) (hb : Below w.heap.size w w') : FrS M cs v w' := by
 obtain ⟨x1, x2, x3, x4, x5, x6, x7, x8, x9, e, o⟩ := h
 exact ⟨x1, x2, x3, x4, x5, x6, x7, x8, x9, e, o.keep hb⟩
theorem MaS.keep {M : Mem} {c : Cp} {cs : List (Nat × Int)} {v : Value} {w w' : World} (h : MaS M c cs v w) (hb : Below w.heap.size w w') : MaS M c cs v w' := by
 obtain ⟨g, e, h1, o⟩ := h
 exact ⟨g, e, h1, o.keep hb⟩
theorem TuS.keep {M : Mem} {c : Cp} {cs : List (Nat × Int)} {ev v : Value} {w w' : World} (h : TuS M c cs ev v w) (hb : Below w.heap.size w w') : TuS M c cs ev v w' := by
 obtain ⟨g, e, h1, o⟩ := h
 exact ⟨g, e, h1, o.keep hb⟩
theorem N66.keep {B : Nat} {v : Value} {w w' : World} (h : N66 B v w) (hb : Below w.heap.size w w') : N66 B v w' := by
 obtain ⟨n, e, h1, o⟩ := h
 exact ⟨n, e, h1, o.keep hb⟩
theorem N40.keep {B : Nat} {v : Value} {w w' : World} (h : N40 B v w) (hb : Below w.heap.size w w') : N40 B v w' := by
 obtain ⟨n, e, h1, o⟩ := h
 exact ⟨n, e, h1, o.keep hb⟩
def FrS' (M : Mem) (cs : List (Nat × Int)) (e : Ending) (w : World) : Prop := ∃ v, e = .returned v /\ FrS M cs v w
theorem step_len {M : Mem} {c : Cp} {cs : List (Nat × Int)} (hc : c.Ok) : (stepR M c cs).2.1.r.length = 32 := by
 unfold stepR
 cases h : insR M c cs with
 | ok x => exact ins_len hc h
 | error e => exact hc.len
theorem eb_mb {v : Ev} {c : Cp} {g : Gv} {n : Nat} {w : World} (h : Eb v n w) (h' : Mb c g n w) : False := by
 unfold Eb at h
 unfold Mb at h'
 rw [h] at h'
 injection h' with h'
 injection h' with _ h5
 cases h5
theorem own_shapes {B : Nat} {w : World} {vm vc vp : Value} {ms cs ps : List (Nat × Int)} (h : Gm.OwnG B w vm vc vp ms cs ps) : (∃ a n p, vm = .slice a n p) /\ (∃ a n p, vc = .slice a n p) /\ (∃ a n p, vp = .slice a n p) := by
 obtain ⟨a, n, p, a', n', p', a'', n'', p'', h1, h2, h3⟩ := (own_slg h).shape
 exact ⟨⟨_, _, _, h1⟩, ⟨_, _, _, h2⟩, ⟨_, _, _, h3⟩⟩
theorem below_row' {w w1 w2 : World} {n : Nat} (h : Below w.heap.size w w1) (hg : w1.grownBy w2 (some n)) (hn : w.heap.size <= n) : Below w.heap.size w w2 := below_row h hg hn
theorem wpOp_store {P : Program} {ops : Array Oper} {Q : Exit -> Act -> World -> Prop} {K : Act -> World -> Prop} {i : Nat} {o : Oper} {a : Act} {w : World} (ho : ops[i]? = some o) (hgd : o.guard = none) (hd : o.dst = none)
  (ty : TypeId) (x y : Operand) (hop : o.op = .store ty x y) (g : Nat) (cells : Array Value) (hx : a.eval x = .pointer (some ⟨g, 0, none⟩)) (hy : a.eval y = .agg cells)
  (t : TypeId) (old : Array Value) (hg : w.heap[g]? = some (.cells old t (0, 0))) (hi : (P.info? ty).map (·.size) = some cells.size) (hold : old.size = cells.size) (h1 : cells.all (·.oneCell') = true)
  (h : K a (w.setRow g cells)) : wpOp P ops Q i K a w := by
 refine wpOp_step ho ?_
 intro K' hK
 simp only [Region.wanted, hgd, if_true]
 refine wp_store_row ty x y hop g cells hx hy t old hg hi hold h1 ?_
 rw [hd]
 exact hK _ _ h
theorem wpAny_store {P : Program} {md : Region.Mode} {ops : Array Oper} {Q : Exit -> Act -> World -> Prop} {i : Nat} {o : Oper} {fuel : Nat} {listed : Array Bool} {a : Act} {w : World} (hr : Region.ready md ops listed = [i]) (ho : ops[i]? = some o) (hgd : o.guard = none) (hd : o.dst = none)
  (ty : TypeId) (x y : Operand) (hop : o.op = .store ty x y) (g : Nat) (cells : Array Value) (hx : a.eval x = .pointer (some ⟨g, 0, none⟩)) (hy : a.eval y = .agg cells)
  (t : TypeId) (old : Array Value) (hg : w.heap[g]? = some (.cells old t (0, 0))) (hi : (P.info? ty).map (·.size) = some cells.size) (hold : old.size = cells.size) (h1 : cells.all (·.oneCell') = true)
  (h : wpAny P md ops Q fuel (listed.setIfInBounds i true) a (w.setRow g cells)) : wpAny P md ops Q (fuel + 1) listed a w := by
 refine ⟨(fun e => by rw [hr] at e; cases e), fun j hj => ?_⟩
 rw [hr] at hj
 obtain rfl : j = i := by simpa using hj
 exact wpOp_store ho hgd hd ty x y hop g cells hx hy t old hg hi hold h1 h
theorem size25 (c : Cp) (hl : c.r.length = 32) : (Tryz.prog.info? 25).map (·.size) = some c.cells.toArray.size := by rw [List.size_toArray, cells_len c hl]; rfl
theorem blk_keep {w w' : World} {n : Nat} {o : Obj} (h : w.heap[n]? = some o) (hb : Below w.heap.size w w') : w'.heap[n]? = some o := (hb.block n (Array.getElem?_eq_some_iff.1 h).1).trans h
theorem blk_row {w w' : World} {n b : Nat} {o : Obj} (h : w.heap[n]? = some o) (hg : w.grownBy w' (some b)) (hn : n ≠ b) : w'.heap[n]? = some o := (hg.block n (Array.getElem?_eq_some_iff.1 h).1 (by intro e; injection e with e; exact hn e)).trans h
theorem info33 : (Tryz.prog.info? 33).map (·.size) = some 4 := by rfl
theorem one_c (c : Cp) : c.cells.toArray.all (·.oneCell') = true := by
 rw [List.all_toArray, List.all_eq_true]
 intro x hx
 unfold Cp.cells Cp.regs Cp.tail at hx
 simp only [List.mem_append, List.mem_map, List.mem_cons, List.not_mem_nil, or_false] at hx
 rcases hx with ⟨y, _, rfl⟩ | (rfl | rfl | rfl | rfl | rfl | rfl | rfl) <;> rfl
theorem one_g {g : Gv} (hs : (∃ a n p, g.vm = .slice a n p) /\ (∃ a n p, g.vc = .slice a n p) /\ (∃ a n p, g.vp = .slice a n p)) : (#[g.vm, g.vc, .int .u64 g.bs, g.vp] : Array Value).all (·.oneCell') = true := by
 obtain ⟨⟨am, nm, pm, em⟩, ⟨ac, nc, pc, ec⟩, ⟨ap, np, pp, ep⟩⟩ := hs
 rw [em, ec, ep]
 simp [Value.oneCell']
theorem load33 {w : World} {n : Nat} {x0 x1 x2 x3 : Value} (h : w.heap[n]? = some (.cells #[x0, x1, x2, x3] 33 (0, 0))) : (loadVar 33 ⟨n, 0, none⟩).run Tryz.prog w = .ok (.agg #[x0, x1, x2, x3]) w := by
 have h' : w.heap[n]? = some (.cells ([x0, x1, x2, x3] ++ []).toArray 33 (0, 0)) := h
 exact load_pre w n 33 33 4 [x0, x1, x2, x3] [] _ h' (by rfl) (by rfl) (by rfl) rfl
theorem fin_step {c1 c2 : Cp} {g : Gv} {u v : Ev} {Z : Array Value} {M : Mem} {cs : List (Nat × Int)} {s n7 n8 : Nat} {V : World} (d2 : Cb c1 (s + 1 + 1) V) (d3 : V.heap[s + 1 + 1 + 1]? = some (.cells Z 33 (0, 0))) (d4 : Eb u (s + 1 + 1 + 1 + 1) V) (m7 : Mb c2 g n7 V) (m8 : Eb v n8 V) (oo : Gm.OwnG 0 V g.vm g.vc g.vp M.ms cs M.ps) (l7 : s + 5 <= n7) (l8 : s + 5 <= n8) :
  V.grownBy (V.setRow (s + 1 + 1) c2.cells.toArray) (some (s + 1 + 1)) /\ (V.setRow (s + 1 + 1) c2.cells.toArray).grownBy ((V.setRow (s + 1 + 1) c2.cells.toArray).setRow (s + 1 + 1 + 1) #[g.vm, g.vc, .int .u64 g.bs, g.vp]) (some (s + 1 + 1 + 1)) /\ ((V.setRow (s + 1 + 1) c2.cells.toArray).setRow (s + 1 + 1 + 1) #[g.vm, g.vc, .int .u64 g.bs, g.vp]).grownBy (((V.setRow (s + 1 + 1) c2.cells.toArray).setRow (s + 1 + 1 + 1) #[g.vm, g.vc, .int .u64 g.bs, g.vp]).setRow (s + 1 + 1 + 1 + 1) (evA v)) (some (s + 1 + 1 + 1 + 1)) /\
  (Mb c2 g n7 (V.setRow (s + 1 + 1) c2.cells.toArray) /\ Eb v n8 (V.setRow (s + 1 + 1) c2.cells.toArray)) /\ (V.setRow (s + 1 + 1) c2.cells.toArray).heap[s + 1 + 1 + 1]? = some (.cells Z 33 (0, 0)) /\
  (Mb c2 g n7 ((V.setRow (s + 1 + 1) c2.cells.toArray).setRow (s + 1 + 1 + 1) #[g.vm, g.vc, .int .u64 g.bs, g.vp]) /\ Eb v n8 ((V.setRow (s + 1 + 1) c2.cells.toArray).setRow (s + 1 + 1 + 1) #[g.vm, g.vc, .int .u64 g.bs, g.vp])) /\ Eb u (s + 1 + 1 + 1 + 1) ((V.setRow (s + 1 + 1) c2.cells.toArray).setRow (s + 1 + 1 + 1) #[g.vm, g.vc, .int .u64 g.bs, g.vp]) /\
  (Mb c2 g n7 (((V.setRow (s + 1 + 1) c2.cells.toArray).setRow (s + 1 + 1 + 1) #[g.vm, g.vc, .int .u64 g.bs, g.vp]).setRow (s + 1 + 1 + 1 + 1) (evA v)) /\ Eb v n8 (((V.setRow (s + 1 + 1) c2.cells.toArray).setRow (s + 1 + 1 + 1) #[g.vm, g.vc, .int .u64 g.bs, g.vp]).setRow (s + 1 + 1 + 1 + 1) (evA v))) /\
  (Cb c2 (s + 1 + 1) (((V.setRow (s + 1 + 1) c2.cells.toArray).setRow (s + 1 + 1 + 1) #[g.vm, g.vc, .int .u64 g.bs, g.vp]).setRow (s + 1 + 1 + 1 + 1) (evA v)) /\ (((V.setRow (s + 1 + 1) c2.cells.toArray).setRow (s + 1 + 1 + 1) #[g.vm, g.vc, .int .u64 g.bs, g.vp]).setRow (s + 1 + 1 + 1 + 1) (evA v)).heap[s + 1 + 1 + 1]? = some (.cells #[g.vm, g.vc, .int .u64 g.bs, g.vp] 33 (0, 0)) /\ Eb v (s + 1 + 1 + 1 + 1) (((V.setRow (s + 1 + 1) c2.cells.toArray).setRow (s + 1 + 1 + 1) #[g.vm, g.vc, .int .u64 g.bs, g.vp]).setRow (s + 1 + 1 + 1 + 1) (evA v)) /\ Gm.OwnG 0 (((V.setRow (s + 1 + 1) c2.cells.toArray).setRow (s + 1 + 1 + 1) #[g.vm, g.vc, .int .u64 g.bs, g.vp]).setRow (s + 1 + 1 + 1 + 1) (evA v)) g.vm g.vc g.vp M.ms cs M.ps) := by
 have G1 := grown_setRow V (s + 1 + 1) c2.cells.toArray
 have a2 : Cb c2 (s + 1 + 1) (V.setRow (s + 1 + 1) c2.cells.toArray) := setRow_heap V _ _ _ 25 _ d2
 have a3 := blk_row d3 G1 (by omega)
 have a4 := d4.row G1 (by omega)
 have a7 := m7.row G1 (by intro e; injection e with e; omega)
 have a8 := m8.row G1 (by omega)
 have o1 := owng_row oo d2 (by decide) G1
 have G2 := grown_setRow (V.setRow (s + 1 + 1) c2.cells.toArray) (s + 1 + 1 + 1) #[g.vm, g.vc, .int .u64 g.bs, g.vp]
 have e2 := blk_row a2 G2 (by omega)
 have e3 : ((V.setRow (s + 1 + 1) c2.cells.toArray).setRow (s + 1 + 1 + 1) #[g.vm, g.vc, .int .u64 g.bs, g.vp]).heap[s + 1 + 1 + 1]? = some (.cells #[g.vm, g.vc, .int .u64 g.bs, g.vp] 33 (0, 0)) := setRow_heap _ _ _ _ 33 _ a3
 have e4 := a4.row G2 (by omega)
 have e7 := a7.row G2 (by intro e; injection e with e; omega)
 have e8 := a8.row G2 (by omega)
 have o2 := owng_row o1 a3 (by decide) G2
 have G3 := grown_setRow ((V.setRow (s + 1 + 1) c2.cells.toArray).setRow (s + 1 + 1 + 1) #[g.vm, g.vc, .int .u64 g.bs, g.vp]) (s + 1 + 1 + 1 + 1) (evA v)
 have f2 := blk_row e2 G3 (by omega)
 have f3 := blk_row e3 G3 (by omega)
 have f4 : Eb v (s + 1 + 1 + 1 + 1) _ := setRow_eb (v := v) e4
 have f7 := e7.row G3 (by intro e; injection e with e; omega)
 have f8 := e8.row G3 (by omega)
 have o3 := owng_row o2 e4 (by decide) G3
 exact ⟨G1, G2, G3, ⟨a7, a8⟩, a3, ⟨e7, e8⟩, e4, ⟨f7, f8⟩, f2, f3, f4, o3⟩
set_option maxHeartbeats 4000000 in
theorem step9 (M : Mem) (c : Cp) (cs : List (Nat × Int)) (vm vc vp : Value) (w : World) (hc : c.Ok) (hsl : Gm.SlG w vm vc vp M.ms cs M.ps) (hG : Good M cs) (hT : Tab w) :
  Calls Tryz.prog 9 #[.agg c.cells.toArray, .agg #[vm, vc, .int .u64 M.bs, vp]] w fun e w' => Below w.heap.size w w' /\ ∃ g' : Gv, e = .returned (.tuple #[.agg (stepR M c cs).2.1.cells.toArray, .agg #[g'.vm, g'.vc, .int .u64 M.bs, g'.vp], (stepR M c cs).1.val]) /\ Gm.OwnG 0 w' g'.vm g'.vc g'.vp M.ms (stepR M c cs).2.2 M.ps := by
 obtain ⟨am, nm, pm, ac, nc, pc, ap, np, pp, rfl, rfl, rfl⟩ := hsl.shape
 obtain ⟨W, hW, hb, hz, b0, b1, b2, b3, b4⟩ := boxS w c #[.slice am nm pm, .slice ac nc pc, .int .u64 M.bs, .slice ap np pp]
 have KF : Hid (∀ wx, Below W.heap.size W wx -> Calls Tryz.prog 21 #[.agg #[.slice am nm pm, .slice ac nc pc, .int .u64 M.bs, .slice ap np pp]] wx fun e w' => FrS' M cs e w' /\ Below wx.heap.size wx w') := fun wx hx => by
  have hs := (hsl.keep hb).keep hx
  refine (Gm.gfresh40 (.slice am nm pm) (.slice ac nc pc) (.slice ap np pp) M.bs M.ms cs M.ps wx hs.1 hs.2.1 hs.2.2 (by have := hG.f.fq.1; omega) (by have := hG.f.fq.2.1; omega) (by have := hG.f.lp; omega)).mono ?_
  rintro e w' ⟨x1, x2, x3, x4, x5, x6, x7, x8, x9, rfl, o, hb'⟩
  exact ⟨⟨_, rfl, x1, x2, x3, x4, x5, x6, x7, x8, x9, rfl, o.base (Nat.zero_le _)⟩, hb'⟩
 have KD : Hid (∀ (g : Gv) wx, Below W.heap.size W wx -> g.bs = M.bs -> Gm.OwnG 0 wx g.vm g.vc g.vp M.ms cs M.ps -> Calls Tryz.prog 20 #[.agg (mcells c g).toArray] wx fun e w' => Below wx.heap.size wx w' /\ ∃ g' : Gv, e = .returned (.tuple #[.agg (mcells (stepR M c cs).2.1 g').toArray, (stepR M c cs).1.val]) /\ g'.bs = M.bs /\ Gm.OwnG 0 w' g'.vm g'.vc g'.vp M.ms (stepR M c cs).2.2 M.ps) := fun g wx hx he ho => done20 M c cs g wx hc ho he hG ((hT.keep hb).keep hx)
 have HLS : Hid ((stepR M c cs).2.1.r.length = 32) := step_len hc
 generalize stepR M c cs = SR at KD HLS |-
 obtain ⟨⟨kd, cd, at_, fk, fa⟩, c2, cs2⟩ := SR
 simp only [Ev.val] at KD HLS |-
 have HL : Hid (c.r.length = 32) := hc.len
 have g0 : W.cell? ⟨w.heap.size + 1, 0, none⟩ = some (.slice am nm pm) := by rw [cell_of_row W _ _ _ _ _ b1]; rfl
 have g1 : W.cell? ⟨w.heap.size + 1, 1, none⟩ = some (.slice ac nc pc) := by rw [cell_of_row W _ _ _ _ _ b1]; rfl
 have g2 : W.cell? ⟨w.heap.size + 1, 2, none⟩ = some (.int .u64 M.bs) := by rw [cell_of_row W _ _ _ _ _ b1]; rfl
 have g3 : W.cell? ⟨w.heap.size + 1, 3, none⟩ = some (.slice ap np pp) := by rw [cell_of_row W _ _ _ _ _ b1]; rfl
 have H0 : Hid (Below w.heap.size w W /\ W.heap.size = w.heap.size + 5 /\ Cb c w.heap.size W /\ Cb c00 (w.heap.size + 1 + 1) W /\ W.heap[w.heap.size + 1 + 1 + 1]? = some (.cells #[.slice none 0 0, .slice none 0 0, .int .u64 0, .slice none 0 0] 33 (0, 0)) /\ Eb noEv (w.heap.size + 1 + 1 + 1 + 1) W) := ⟨hb, hz, b0, b2, b3, b4⟩
 have HCA : Hid (∀ wx, Below W.heap.size W wx -> wx.heap[w.heap.size]? = some (.cells c.cells.toArray 25 (0, 0))) := fun wx hx => b0.keep hx
 have HSZ : Hid ((Tryz.prog.info? 25).map (·.size) = some c.cells.toArray.size) := size25 c hc.len
 have HBU : Hid (∀ g : Gv, Tryz.prog.built 66 [(0, .agg c.cells.toArray), (1, .agg #[g.vm, g.vc, .int .u64 g.bs, g.vp])] = some (mcells c g).toArray) := fun g => built66 c g hc.len
 generalize c.cells.toArray = CA at hW HCA HSZ HBU |-
 clear hb hz b0 b1 b2 b3 b4 hsl hG hT hc
 go_enter Tryz.func9, Tryz.ntmps9
 go_wp2
 refine wp_region_late (R := Ext) [⟨10, fun v _ => v = .agg CA, fun _ _ _ _ h => h⟩, ⟨11, fun v _ => v = .agg #[.slice am nm pm, .slice ac nc pc, .int .u64 M.bs, .slice ap np pp], fun _ _ _ _ h => h⟩, ⟨12, FrS M cs, fun _ _ _ hb h => h.keep hb⟩, ⟨13, MaS M c cs, fun _ _ _ hb h => h.keep hb⟩, ⟨14, TuS M c2 cs2 (.agg #[.int .i64 kd, .int .u32 cd, .int .u32 at_, .int .i64 fk, .int .u64 fa]), fun _ _ _ hb h => h.keep hb⟩, ⟨9, TuS M c2 cs2 (.agg #[.int .i64 kd, .int .u32 cd, .int .u32 at_, .int .i64 fk, .int .u64 fa]), fun _ _ _ hb h => h.keep hb⟩, ⟨15, MaS M c2 cs2, fun _ _ _ hb h => h.keep hb⟩, ⟨16, fun v _ => v = .agg #[.int .i64 kd, .int .u32 cd, .int .u32 at_, .int .i64 fk, .int .u64 fa], fun _ _ _ _ h => h⟩, ⟨7, N66 W.heap.size, fun _ _ _ hb h => h.keep hb⟩, ⟨8, N40 W.heap.size, fun _ _ _ hb h => h.keep hb⟩] _ 10 7 (by kernel_rfl) rfl (by kernel_rfl) (by decide) (by decide) (by kernel_rfl) (Below.drew (Below.refl _ _)) (fun _ _ _ h1 h2 => below_tr h1 h2) (fun QQ => ⟨?_, ?_, ?_, ?_, ?_, ?_, ?_, ?_, ?_, ?_, trivial⟩) (fun f wy hR hf A hA => ?_) (fun f wy hR hf A hA i hi hmi => ?_)
 ·intro A wx hR hout hdep K hK
  have h2 : A.tmps[2]?.getD undef = .pointer (some ⟨w.heap.size, 0, none⟩) := hout 2 (by kernel_rfl)
  refine yes ?_
  exact wp_load_row 25 (.tmp 2) rfl w.heap.size (by simp [Act.eval, h2]) 25 CA (0, 0) _ (HCA.out wx hR) (by rfl) (by rfl) HSZ.out (hK.out _ _ (Below.refl _ _) rfl)
 ·intro A wx hR hout hdep K hK
  have h3 : A.tmps[3]?.getD undef = .pointer (some ⟨w.heap.size + 1, 0, none⟩) := hout 3 (by kernel_rfl)
  refine yes ?_
  have g0 := keep_cell hR g0
  have g1 := keep_cell hR g1
  have g2 := keep_cell hR g2
  have g3 := keep_cell hR g3
  simp [go_sem, h3, g0, g1, g2, g3]
  exact hK.out _ _ (Below.refl _ _) rfl
 ·intro A wx hR hout hdep K hK
  have h11 : A.tmps[11]?.getD undef = .agg #[.slice am nm pm, .slice ac nc pc, .int .u64 M.bs, .slice ap np pp] := hdep 11 (by kernel_rfl)
  refine yes ?_
  simp [go_sem, h11]
  refine (KF.out wx hR).mono ?_
  rintro e w5 ⟨⟨v5, rfl, h5⟩, hb5⟩
  exact hK.out _ _ hb5 h5
 ·intro A wx hR hout hdep K hK
  have h10 : A.tmps[10]?.getD undef = .agg CA := hdep 10 (by kernel_rfl)
  obtain ⟨x1, x2, x3, x4, x5, x6, x7, x8, x9, h12, o⟩ : FrS M cs (A.tmps[12]?.getD undef) wx := hdep 12 (by kernel_rfl)
  refine yes ?_
  have hbu := HBU.out ⟨.slice x1 x2 x3, .slice x4 x5 x6, M.bs, .slice x7 x8 x9⟩
  simp only at hbu
  have hbu' : Tryz.prog.built 66 ((#[(0, Operand.tmp 10), (1, Operand.tmp 12)] : Array (Nat × Operand)).map fun (i, x) => (i, A.eval x)).toList = some (mcells c ⟨.slice x1 x2 x3, .slice x4 x5 x6, M.bs, .slice x7 x8 x9⟩).toArray := by simp only [List.map_toArray, List.map_cons, List.map_nil, Act.eval, h10, h12, Array.getD_eq_getD_getElem?]; exact hbu
  refine wp_build 66 _ rfl (by rw [hbu']; rfl) ?_
  rw [hbu']
  exact hK.out _ _ (Below.refl _ _) ⟨_, rfl, rfl, o⟩
 ·intro A wx hR hout hdep K hK
  obtain ⟨g, h13, hbs, o⟩ : MaS M c cs (A.tmps[13]?.getD undef) wx := hdep 13 (by kernel_rfl)
  refine yes ?_
  simp [go_sem, h13]
  refine (KD.out g wx hR hbs o).mono ?_
  rintro e w5 ⟨hb5, g5, rfl, hbs5, o5⟩
  exact hK.out _ _ hb5 ⟨g5, rfl, hbs5, o5⟩
 ·intro A wx hR hout hdep K hK
  obtain ⟨g, h14, hbs, o⟩ : TuS M c2 cs2 (.agg #[.int .i64 kd, .int .u32 cd, .int .u32 at_, .int .i64 fk, .int .u64 fa]) (A.tmps[14]?.getD undef) wx := hdep 14 (by kernel_rfl)
  refine yes ?_
  simp [go_sem, h14]
  exact hK.out _ _ (Below.refl _ _) ⟨g, rfl, hbs, o⟩
 ·intro A wx hR hout hdep K hK
  obtain ⟨g, h9, hbs, o⟩ : TuS M c2 cs2 (.agg #[.int .i64 kd, .int .u32 cd, .int .u32 at_, .int .i64 fk, .int .u64 fa]) (A.tmps[9]?.getD undef) wx := hdep 9 (by kernel_rfl)
  refine yes ?_
  simp [go_sem, h9]
  exact hK.out _ _ (Below.refl _ _) ⟨g, rfl, hbs, o⟩
 ·intro A wx hR hout hdep K hK
  obtain ⟨g, h9, hbs, o⟩ : TuS M c2 cs2 (.agg #[.int .i64 kd, .int .u32 cd, .int .u32 at_, .int .i64 fk, .int .u64 fa]) (A.tmps[9]?.getD undef) wx := hdep 9 (by kernel_rfl)
  refine yes ?_
  simp [go_sem, h9]
  exact hK.out _ _ (Below.refl _ _) rfl
 ·intro A wx hR hout hdep K hK
  refine yes ?_
  simp [go_sem]
  exact hK.out _ _ ((Below.refl _ _).alloc (Nat.le_refl _) _) ⟨_, rfl, hR.size, (heap_alloc_new _ _).trans (by rw [<- z66])⟩
 ·intro A wx hR hout hdep K hK
  refine yes ?_
  simp [go_sem]
  exact hK.out _ _ ((Below.refl _ _).alloc (Nat.le_refl _) _) ⟨_, rfl, hR.size, (heap_alloc_new _ _).trans rfl⟩
 focus
  obtain ⟨n7, e7, l7, m7⟩ : N66 W.heap.size (f 7) wy := hf 7 (by kernel_rfl)
  obtain ⟨n8, e8, l8, m8⟩ : N40 W.heap.size (f 8) wy := hf 8 (by kernel_rfl)
  obtain ⟨g, e15, hbs, o⟩ : MaS M c2 cs2 (f 15) wy := hf 15 (by kernel_rfl)
  have e16 : f 16 = .agg #[.int .i64 kd, .int .u32 cd, .int .u32 at_, .int .i64 fk, .int .u64 fa] := hf 16 (by kernel_rfl)
  simp only [putSl, List.take_succ_cons, List.take_zero, Act.put, List.setIfInBounds_toArray, List.set_cons_zero, List.set_cons_succ, e7, e8, e15, e16] at hA
  subst hA
  have n78 : n8 ≠ n7 := fun e => by subst e; exact eb_mb m8 m7
  have G5 := grown_setRow wy n7 (mcells c2 g).toArray
  have P7 : Mb c2 g n7 (wy.setRow n7 (mcells c2 g).toArray) := setRow_mb m7
  have P8 := m8.row G5 n78
  have G6 := grown_setRow (wy.setRow n7 (mcells c2 g).toArray) n8 (evA ⟨kd, cd, at_, fk, fa⟩)
  have Q7 := P7.row G6 (by intro e; injection e with e; exact n78 e.symm)
  have Q8 : Eb ⟨kd, cd, at_, fk, fa⟩ n8 (((wy.setRow n7 (mcells c2 g).toArray).setRow n8 (evA ⟨kd, cd, at_, fk, fa⟩))) := setRow_eb (v := ⟨kd, cd, at_, fk, fa⟩) P8
  have O5 := owng_row o m7 (by decide) G5
  have O6 := owng_row O5 P8 (by decide) G6
  have B6 : Below W.heap.size W (((wy.setRow n7 (mcells c2 g).toArray).setRow n8 (evA ⟨kd, cd, at_, fk, fa⟩))) := below_row' (below_row' hR G5 l7) G6 l8
  have HV : Hid (Mb c2 g n7 (((wy.setRow n7 (mcells c2 g).toArray).setRow n8 (evA ⟨kd, cd, at_, fk, fa⟩))) /\ Eb ⟨kd, cd, at_, fk, fa⟩ n8 (((wy.setRow n7 (mcells c2 g).toArray).setRow n8 (evA ⟨kd, cd, at_, fk, fa⟩))) /\ Gm.OwnG 0 (((wy.setRow n7 (mcells c2 g).toArray).setRow n8 (evA ⟨kd, cd, at_, fk, fa⟩))) g.vm g.vc g.vp M.ms cs2 M.ps /\ Below W.heap.size W (((wy.setRow n7 (mcells c2 g).toArray).setRow n8 (evA ⟨kd, cd, at_, fk, fa⟩))) /\ g.bs = M.bs /\ W.heap.size <= n7 /\ W.heap.size <= n8) := ⟨Q7, Q8, O6, B6, hbs, l7, l8⟩
  refine wpAny_store (i := 10) (by kernel_rfl) rfl rfl rfl 66 (.tmp 7) (.tmp 15) rfl n7 (mcells c2 g).toArray (by simp [Act.eval]) (by simp [Act.eval]) 66 _ m7 (by rw [mc_size c2 g HLS.out]; exact info66) (by rw [mc_size c2 g HLS.out]; exact mc_size _ _ c00_len) (one_mc c2 g (own_shapes o)) ?_
  refine wpAny_store (i := 11) (by kernel_rfl) rfl rfl rfl 40 (.tmp 8) (.tmp 16) rfl n8 (evA ⟨kd, cd, at_, fk, fa⟩) (by simp [Act.eval]) (by simp [Act.eval, evA]) 40 _ P8 info40 rfl (by simp [evA, Value.oneCell']) ?_
  refine wpAny_done (by kernel_rfl) ?_ _
  clear G5 P7 P8 G6 Q7 Q8 O5 O6 B6 hR m7 m8 o hbs l7 l8 hf
  generalize ((wy.setRow n7 (mcells c2 g).toArray).setRow n8 (evA ⟨kd, cd, at_, fk, fa⟩)) = V at HV |-
 rotate_left
 focus
  have hi' : i = 7 \/ i = 10 := by
   rw [show Region.ready .any _ _ = [7, 10] by kernel_rfl] at hi
   simpa using hi
  obtain rfl : i = 10 := by omega
  clear hi hi' hmi
  obtain ⟨n7, e7, l7, m7⟩ : N66 W.heap.size (f 7) wy := hf 7 (by kernel_rfl) (by simp)
  obtain ⟨n8, e8, l8, m8⟩ : N40 W.heap.size (f 8) wy := hf 8 (by kernel_rfl) (by simp)
  obtain ⟨g, e15, hbs, o⟩ : MaS M c2 cs2 (f 15) wy := hf 15 (by kernel_rfl) (by simp)
  obtain ⟨g9, e9, _, _⟩ : TuS M c2 cs2 (.agg #[.int .i64 kd, .int .u32 cd, .int .u32 at_, .int .i64 fk, .int .u64 fa]) (f 9) wy := hf 9 (by kernel_rfl) (by simp)
  simp only [putSl, List.take_succ_cons, List.take_zero, Act.put, List.setIfInBounds_toArray, List.set_cons_zero, List.set_cons_succ, e7, e8, e15, e9] at hA
  subst hA
  have n78 : n8 ≠ n7 := fun e => by subst e; exact eb_mb m8 m7
  have G5 := grown_setRow wy n7 (mcells c2 g).toArray
  have P7 : Mb c2 g n7 (wy.setRow n7 (mcells c2 g).toArray) := setRow_mb m7
  have P8 := m8.row G5 n78
  have G6 := grown_setRow (wy.setRow n7 (mcells c2 g).toArray) n8 (evA ⟨kd, cd, at_, fk, fa⟩)
  have Q7 := P7.row G6 (by intro e; injection e with e; exact n78 e.symm)
  have Q8 : Eb ⟨kd, cd, at_, fk, fa⟩ n8 (((wy.setRow n7 (mcells c2 g).toArray).setRow n8 (evA ⟨kd, cd, at_, fk, fa⟩))) := setRow_eb (v := ⟨kd, cd, at_, fk, fa⟩) P8
  have O5 := owng_row o m7 (by decide) G5
  have O6 := owng_row O5 P8 (by decide) G6
  have B6 : Below W.heap.size W (((wy.setRow n7 (mcells c2 g).toArray).setRow n8 (evA ⟨kd, cd, at_, fk, fa⟩))) := below_row' (below_row' hR G5 l7) G6 l8
  have HV : Hid (Mb c2 g n7 (((wy.setRow n7 (mcells c2 g).toArray).setRow n8 (evA ⟨kd, cd, at_, fk, fa⟩))) /\ Eb ⟨kd, cd, at_, fk, fa⟩ n8 (((wy.setRow n7 (mcells c2 g).toArray).setRow n8 (evA ⟨kd, cd, at_, fk, fa⟩))) /\ Gm.OwnG 0 (((wy.setRow n7 (mcells c2 g).toArray).setRow n8 (evA ⟨kd, cd, at_, fk, fa⟩))) g.vm g.vc g.vp M.ms cs2 M.ps /\ Below W.heap.size W (((wy.setRow n7 (mcells c2 g).toArray).setRow n8 (evA ⟨kd, cd, at_, fk, fa⟩))) /\ g.bs = M.bs /\ W.heap.size <= n7 /\ W.heap.size <= n8) := ⟨Q7, Q8, O6, B6, hbs, l7, l8⟩
  refine wpOp_store rfl rfl rfl 66 (.tmp 7) (.tmp 15) rfl n7 (mcells c2 g).toArray (by simp [Act.eval]) (by simp [Act.eval]) 66 _ m7 (by rw [mc_size c2 g HLS.out]; exact info66) (by rw [mc_size c2 g HLS.out]; exact mc_size _ _ c00_len) (one_mc c2 g (own_shapes o)) ?_
  refine ready1 7 fun K hK => yes ?_
  simp [go_sem]
  refine hK _ _ ?_
  clear hK K
  refine wpAny_store (i := 11) (by kernel_rfl) rfl rfl rfl 40 (.tmp 8) (.tmp 16) rfl n8 (evA ⟨kd, cd, at_, fk, fa⟩) (by simp [Act.eval]) (by simp [Act.eval, evA]) 40 _ P8 info40 rfl (by simp [evA, Value.oneCell']) ?_
  refine wpAny_done (by kernel_rfl) ?_ _
  clear G5 P7 P8 G6 Q7 Q8 O5 O6 B6 hR m7 m8 o hbs l7 l8 hf
  generalize ((wy.setRow n7 (mcells c2 g).toArray).setRow n8 (evA ⟨kd, cd, at_, fk, fa⟩)) = V at HV |-
 all_goals
  have vb := HV.out.2.2.2.1
  have hz := H0.out.2.1
  have l7 := HV.out.2.2.2.2.2.1
  have l8 := HV.out.2.2.2.2.2.2
  have d2 : Cb c00 (w.heap.size + 1 + 1) V.drew := (H0.out.2.2.2.1.keep vb).keep (Below.refl _ _).drew
  have d3 : V.drew.heap[w.heap.size + 1 + 1 + 1]? = some (.cells #[.slice none 0 0, .slice none 0 0, .int .u64 0, .slice none 0 0] 33 (0, 0)) := blk_keep (blk_keep H0.out.2.2.2.2.1 vb) (Below.refl _ _).drew
  have d4 : Eb noEv (w.heap.size + 1 + 1 + 1 + 1) V.drew := (H0.out.2.2.2.2.2.keep vb).keep (Below.refl _ _).drew
  have m7 : Mb c2 g n7 V.drew := HV.out.1.keep (Below.refl _ _).drew
  have m8 : Eb ⟨kd, cd, at_, fk, fa⟩ n8 V.drew := HV.out.2.1.keep (Below.refl _ _).drew
  have oo := HV.out.2.2.1.keep (Below.refl V.heap.size V).drew
  have F1 := fin_step (c2 := c2) (g := g) (v := ⟨kd, cd, at_, fk, fa⟩) d2 d3 d4 m7 m8 oo (by omega) (by omega)
  have bF := below_row (below_row (below_row (below_tr (below_tr H0.out.1 vb) (Below.refl _ _).drew) F1.1 (by omega)) F1.2.1 (by omega)) F1.2.2.1 (by omega)
  go_upto_region 2 with fail
  refine wp_region_held_drew (S := fun w' => Mb c2 g n7 w' /\ Eb ⟨kd, cd, at_, fk, fa⟩ n8 w') (by kernel_rfl) ⟨m7, m8⟩ (fun hS => ?_)
  refine wpAnyH_take (i := 0) (v := .pointer (some ⟨n7, 0, none⟩)) rfl (by kernel_rfl) (by kernel_rfl) (by kernel_rfl) (fun _ _ _ h => h) (Or.inl ⟨by rfl, fun w hSw => ?_⟩) hS ?_
  ·dsimp only at hSw; clear hSw; go_simp
  simp only [Act.put, List.getElem_toArray, List.getElem_cons_zero, List.getElem_cons_succ, List.setIfInBounds_toArray, List.set_cons_zero, List.set_cons_succ]
  refine wpAnyH_take (i := 1) (v := .agg c2.cells.toArray) rfl (by kernel_rfl) (by kernel_rfl) (by kernel_rfl) (fun _ _ _ h => h) (Or.inl ⟨by rfl, fun w hSw => ?_⟩) hS ?_
  ·dsimp only at hSw; have hl := load25 HLS.out hSw.1; simp [execOp, Instr.loadAt, Instr.sureAddr, Act.eval, hl]
  simp only [Act.put, List.getElem_toArray, List.getElem_cons_zero, List.getElem_cons_succ, List.setIfInBounds_toArray, List.set_cons_zero, List.set_cons_succ]
  refine wpAnyH_take (i := 2) (v := .pointer (some ⟨n7, 39, none⟩)) rfl (by kernel_rfl) (by kernel_rfl) (by kernel_rfl) (fun _ _ _ h => h) (Or.inl ⟨by rfl, fun w hSw => ?_⟩) hS ?_
  ·dsimp only at hSw; clear hSw; go_simp
  simp only [Act.put, List.getElem_toArray, List.getElem_cons_zero, List.getElem_cons_succ, List.setIfInBounds_toArray, List.set_cons_zero, List.set_cons_succ]
  refine wpAnyH_take (i := 3) (v := .agg #[g.vm, g.vc, .int .u64 g.bs, g.vp]) rfl (by kernel_rfl) (by kernel_rfl) (by kernel_rfl) (fun _ _ _ h => h) (Or.inl ⟨by rfl, fun w hSw => ?_⟩) hS ?_
  ·dsimp only at hSw; obtain ⟨_, _, _, _, _, _, _, c39, c40, c41, c42⟩ := hSw.1.fields HLS.out; clear hSw; go_simp
  simp only [Act.put, List.getElem_toArray, List.getElem_cons_zero, List.getElem_cons_succ, List.setIfInBounds_toArray, List.set_cons_zero, List.set_cons_succ]
  refine wpAnyH_take (i := 4) (v := .agg #[.int .i64 kd, .int .u32 cd, .int .u32 at_, .int .i64 fk, .int .u64 fa]) rfl (by kernel_rfl) (by kernel_rfl) (by kernel_rfl) (fun _ _ _ h => h) (Or.inl ⟨by rfl, fun w hSw => ?_⟩) hS ?_
  ·dsimp only at hSw; have hl := load40 hSw.2; simp only [evL] at hl; simp [execOp, Instr.loadAt, Instr.sureAddr, Act.eval, hl]
  simp only [Act.put, List.getElem_toArray, List.getElem_cons_zero, List.getElem_cons_succ, List.setIfInBounds_toArray, List.set_cons_zero, List.set_cons_succ]
  refine wpAnyH_store (i := 5) (by kernel_rfl) rfl rfl rfl 25 (.tmp 4) (.tmp 18) rfl (w.heap.size + 1 + 1) c2.cells.toArray (by simp [Act.eval]) (by simp [Act.eval]) 25 _ d2 (size25 c2 HLS.out) (by rw [List.size_toArray, List.size_toArray, cells_len _ HLS.out, cells_len _ c00_len]) (one_c c2) F1.2.2.2.1 ?_
  refine wpAnyH_store (i := 6) (by kernel_rfl) rfl rfl rfl 33 (.tmp 5) (.tmp 20) rfl (w.heap.size + 1 + 1 + 1) #[g.vm, g.vc, .int .u64 g.bs, g.vp] (by simp [Act.eval]) (by simp [Act.eval]) 33 _ F1.2.2.2.2.1 info33 rfl (one_g (own_shapes oo)) F1.2.2.2.2.2.1 ?_
  refine wpAnyH_store (i := 7) (by kernel_rfl) rfl rfl rfl 40 (.tmp 6) (.tmp 21) rfl (w.heap.size + 1 + 1 + 1 + 1) (evA ⟨kd, cd, at_, fk, fa⟩) (by simp [Act.eval]) (by simp [Act.eval, evA]) 40 _ F1.2.2.2.2.2.2.1 info40 rfl (by simp [evA, Value.oneCell']) F1.2.2.2.2.2.2.2.1 ?_
  refine wpAnyH_done (by kernel_rfl) ?_ _
  have HF0 := And.intro F1.2.2.2.2.2.2.2.2 (And.intro bF HV.out.2.2.2.2.1)
  have HF : Hid _ := HF0
  clear HF0
  generalize ((V.drew.setRow (w.heap.size + 1 + 1) c2.cells.toArray).setRow (w.heap.size + 1 + 1 + 1) #[g.vm, g.vc, .int .u64 g.bs, g.vp]).setRow (w.heap.size + 1 + 1 + 1 + 1) (evA ⟨kd, cd, at_, fk, fa⟩) = F at HF |-
  clear vb hz l7 l8 d2 d3 d4 m7 m8 oo F1 bF hS
  go_wp2
  refine bodyPost_ret (v := .tuple #[.agg c2.cells.toArray, .agg #[g.vm, g.vc, .int .u64 g.bs, g.vp], .agg (evL ⟨kd, cd, at_, fk, fa⟩).toArray]) ?_ rfl ⟨HF.out.2.1, g, ?_, HF.out.1.2.2.2⟩
  ·have r1 := loadC HLS.out HF.out.1.1
   have r2 := load33 HF.out.1.2.1
   have r3 := load40 HF.out.1.2.2.1
   simp [results, Tryz.results9, asAddr, r1, r2, r3]
  ·rw [HF.out.2.2]; rfl
end Go.Proofs.YtimfipkbddpdmaaGreatDoor
