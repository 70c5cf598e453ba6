/- What is proved here: what is taken is handed out downwards: the program's iterators. -/
import Derived.Test.YtkpmkgkfpikpfaaGreatStb
import Derived.Test.YtkpmkgkfpikpfaaGreatNy
import Derived.Test.YtkpmkgkfpikpfaaGreatGp
import Derived.RangeFuncNested
import Derived.RangeFuncBound
import Derived.RangeFuncCalls
import Derived.RangeFuncLeaves
import Derived.RangeFuncFrom
import Derived.Shelf.Abstract
import Derived.Shelf.RegionOpen
import Derived.WalkKit
import Derived.OwnWalkIn
import Derived.TacticsInMore
import Derived.LoopNIn
import Derived.LoopIn
namespace Go.Proofs.YtkpmkgkfpikpfaaGreat
open Go.RowKit Go.Shelf
set_option linter.unusedVariables false
set_option linter.unusedSimpArgs false
set_option maxRecDepth 100000
attribute [local go_sem] Oper.semAt_some
def bwI (ts : List (Nat × Nat)) (k : Nat) : Nat × (Nat × Nat) := (ts.length - 1 - k, ts.getD (ts.length - 1 - k) (0, 0))
def bwL (ts : List (Nat × Nat)) : Nat → List (Nat × (Nat × Nat))
 | 0 => []
 | k + 1 => bwL ts k ++ [bwI ts k]
def encB (x : Nat × (Nat × Nat)) : Array Value := #[.int .i64 (x.1 : Int), .agg #[.int .u32 (x.2.1 : Int), .int .u32 (x.2.2 : Int)]]
def BNx (ts : List (Nat × Nat)) (pre : List (Nat × (Nat × Nat))) (x : Nat × (Nat × Nat)) : Prop := ∃ k, k < ts.length ∧ pre = bwL ts k ∧ x = bwI ts k
def Two (p q : Nat) (A B : World) : Prop := B.heap[p]? = A.heap[p]? ∧ B.heap[q]? = A.heap[q]?
theorem Two.trans {p q : Nat} {A B C : World} (h : Two p q A B) (k : Two p q B C) : Two p q A C := ⟨k.1.trans h.1, k.2.trans h.2⟩
theorem Two.refl (p q : Nat) (A : World) : Two p q A A := ⟨rfl, rfl⟩
theorem Two.below {p q : Nat} {A B : World} (h : Below A.heap.size A B) (hp : p < A.heap.size) (hq : q < A.heap.size) : Two p q A B := ⟨h.block p hp, h.block q hq⟩
theorem Two.grown {p q : Nat} {A B : World} {row : Option Nat} (hg : A.grownBy B row) (hp : p < A.heap.size) (hq : q < A.heap.size) (h1 : ∀ r, row = some r → r ≠ p ∧ r ≠ q) : Two p q A B := ⟨hg.block p hp (fun e => (h1 p e.symm).1 rfl), hg.block q hq (fun e => (h1 q e.symm).2 rfl)⟩
theorem cell_block {w w' : World} {a : Addr} {v : Value} (h : w.cell? a = some v) (hb : w'.heap[a.block]? = w.heap[a.block]?) : w'.cell? a = some v := (World.cell?_of_block hb).trans h
set_option maxHeartbeats 2000000 in
theorem back114 (m : Nat) (hm : 1 ≤ m) (l Bs g cap : Nat) (ts : List (Nat × Nat)) (hts : ts.length ≤ 1000) (J Jx : List (Nat × (Nat × Nat)) → World → Prop) (N0 : Nat)
  (hY : ∀ pre x W, J pre W → BNx ts pre x → YieldAt Fence.wide (m - 1) Tryz.prog l (encB x) W fun e W' =>
   (e = .returned (.bool true) ∧ J (pre ++ [x]) W' ∧ Two Bs g W W' ∧ KeepsFrom N0 W W') ∨ (e = .returned (.bool false) ∧ Jx (pre ++ [x]) W' ∧ KeepsFrom N0 W W'))
  (W : World) (cs : W.cell? ⟨Bs, 0, none⟩ = some (.slice (some ⟨g, 0, none⟩) ts.length cap)) (hst : StAt W g ts) (h0 : J [] W) :
  CallsIn Fence.wide m Tryz.prog 114 #[.func (.yield l) #[] #[], .pointer (some ⟨Bs, 0, none⟩)] W fun e W' => (∃ v, e = .returned v) ∧
   ((∃ ys, ys = bwL ts ts.length ∧ J ys W') ∨ (∃ pre, (∃ k, k < ts.length ∧ pre = bwL ts (k + 1)) ∧ Jx pre W')) := by
 have HC : Hid (∀ wr, Two Bs g W wr → wr.cell? ⟨Bs, 0, none⟩ = some (.slice (some ⟨g, 0, none⟩) ts.length cap) ∧ StAt wr g ts) := fun wr h => ⟨cell_block cs h.1, hst.block h.2⟩
 have HY : Hid _ := hY
 obtain ⟨n, hn⟩ : ∃ n, n = ts.length := ⟨_, rfl⟩
 rw [← hn] at cs
 have HN : Hid (n = ts.length ∧ n ≤ 1000) := ⟨hn, by omega⟩
 have hw0 : wrap64 ((n : Int) - 1) = (n : Int) - 1 := by unfold wrap64; omega
 have HW0 : Hid (wrap64 ((n : Int) - 1) = (n : Int) - 1) := hw0
 clear hY hst hn hts
 refine callsIn_of_wp Tryz.func114 rfl trivial ?_ rfl
 simp only [Tryz.ntmps114, List.size_toArray, List.length_cons, List.length_nil, Nat.reduceAdd, Nat.reduceSub, Array.replicate_succ, Array.replicate_zero, List.push_toArray, List.append_toArray, List.nil_append, List.cons_append]
 gi_wp2
 gi_loopw [3] (fun x wr => ∃ k : Nat, k ≤ ts.length ∧ x = .int .i64 ((ts.length : Int) - 1 - (k : Int)) ∧ J (bwL ts k) wr ∧ Two Bs g W wr) (fun x _ => (intOf x + 1).toNat)
 case atStart => exact ⟨0, Nat.zero_le _, by rw [← HN.out.1]; simp; exact HW0.out, h0, Two.refl _ _ _⟩
 case round =>
  obtain ⟨k, hk, rfl, hJs, hT⟩ := hrel
  have hn := HN.out.1
  have hn2 := HN.out.2
  by_cases hkl : k < ts.length
  ·obtain ⟨c1, hs⟩ := HC.out wr hT
   obtain ⟨j, hj⟩ : ∃ j, j = ts.length - 1 - k := ⟨_, rfl⟩
   have hjl : j < ts.length := by omega
   obtain ⟨c2, c3⟩ := hs j hjl
   have e1 : (ts.length : Int) - 1 - (k : Int) = (j : Int) := by omega
   have hbi : bwI ts k = (j, (ts[j].1, ts[j].2)) := by unfold bwI; rw [← hj]; simp [hjl]
   have HK : Hid (bwL ts (k + 1) = bwL ts k ++ [(j, (ts[j].1, ts[j].2))]) := by show _ = _; rw [bwL, hbi]
   obtain ⟨fn, tmps, assign, body, hy, hRd⟩ := HY.out _ (j, (ts[j].1, ts[j].2)) wr hJs ⟨k, hkl, rfl, hbi.symm⟩
   simp only [encB] at hy
   generalize ts[j].1 = a at c2 hy hRd HK
   generalize ts[j].2 = b at c3 hy hRd HK
   rw [e1]
   have hjI : (j : Int) < (ts.length : Int) := by omega
   have hj0 : ¬ (j : Int) < 0 := by omega
   have hj1 : (0 : Int) ≤ (j : Int) := by omega
   have hjw : wrap64 ((j : Int) - 1) = (j : Int) - 1 := by unfold wrap64; omega
   have HJW : Hid (wrap64 ((j : Int) - 1) = (j : Int) - 1) := hjw
   have HJ1 : Hid ((j : Int) - 1 = (ts.length : Int) - 1 - ((k + 1 : Nat) : Int)) := by show _ = _; omega
   have HT : Hid (Two Bs g W wr) := hT
   obtain ⟨nl, hnl⟩ : ∃ z, z = ts.length := ⟨_, rfl⟩
   rw [← hnl] at c1 hjI
   have HKL : Hid (k < ts.length) := hkl
   have HNL : Hid (nl = ts.length) := hnl
   clear hnl hJs hT hs hbi hj hjl e1 hn hn2 hkl HY cs hw0
   gi_wp2
   first | refine ⟨trivial, fun _ => by omega, hRd.mono ?_⟩ | refine ⟨trivial, hRd.mono ?_⟩ | refine hRd.mono ?_
   rintro e W3 (⟨rfl, hJ3, hk3, _⟩ | ⟨rfl, hJx3, _⟩)
   ·have HJ3 : Hid (J (bwL ts (k + 1)) W3 ∧ Two Bs g W W3) := ⟨by rw [HK.out]; exact hJ3, HT.out.trans hk3⟩
    clear hJ3 hk3 hRd
    gi_wp2
    go_roundw
    case rel => exact ⟨k + 1, HKL.out, by first | rw [HJW.out, HJ1.out] | rw [HJ1.out], HJ3.out.1, HJ3.out.2⟩
    case measure => simp [intOf]; omega
   ·have HX3 : Hid (Jx (bwL ts (k + 1)) W3) := by show Jx _ _; rw [HK.out]; exact hJx3
    clear hJx3 hRd
    gi_wp2
    refine bodyPost_ret (results_none rfl _ _ _) rfl ?_
    exact ⟨⟨_, rfl⟩, .inr ⟨_, ⟨k, HKL.out, rfl⟩, HX3.out⟩⟩
  ·have e1 : (ts.length : Int) - 1 - (k : Int) = -1 := by omega
   have hkk : k = ts.length := by omega
   have HJe : Hid (J (bwL ts ts.length) wr) := by rw [hkk] at hJs; exact hJs
   rw [e1]
   clear hJs hT hn hn2 hk hkl hkk e1
   gi_wp2
   go_end0
   exact ⟨⟨_, rfl⟩, .inl ⟨_, rfl, HJe.out⟩⟩
theorem backward98 (v : Value) (w : World) (hv : ∃ a n p, v = .slice a n p) : Calls Tryz.prog 98 #[v] w fun e w' => e = .returned (.func (.func 114) #[] #[.pointer (some ⟨w.heap.size, 0, none⟩)]) ∧ w' = w.alloc (.cells #[v] 136) := by
 obtain ⟨a, n, p, rfl⟩ := hv
 go_enter Tryz.func98, Tryz.ntmps98
 go_wp2
 go_ret
 exact ⟨rfl, rfl⟩
end Go.Proofs.YtkpmkgkfpikpfaaGreat
namespace Go.Proofs.YtkpmkgkfpikpfaaGreat
open Go.RowKit Go.Shelf
set_option linter.unusedVariables false
set_option linter.unusedSimpArgs false
set_option maxRecDepth 100000
attribute [local go_sem] Oper.semAt_some
theorem round_in {m m' : Nat} {l l' : Nat} {f : FuncId} {tmps : Array Value} {assign body : Code} {w : World} {R : Ending → World → Prop}
  (h : RoundIn Fence.wide m Tryz.prog l f tmps assign body w R) : RoundIn (Fence.wide.inRound l') m' Tryz.prog l f tmps assign body w R := ⟨h.1, fun c cs _ => h.2 c cs (fun d h => by cases h)⟩
def sndL (pre : List (Nat × (Nat × Nat))) : List (Nat × Nat) := pre.map Prod.snd
theorem sndL_snoc (pre : List (Nat × (Nat × Nat))) (x : Nat × (Nat × Nat)) : sndL (pre ++ [x]) = sndL pre ++ [x.2] := by simp [sndL]
def bwT (ts : List (Nat × Nat)) (k : Nat) : List (Nat × Nat) := sndL (bwL ts k)
theorem bwT_succ (ts : List (Nat × Nat)) (k : Nat) : bwT ts (k + 1) = bwT ts k ++ [(bwI ts k).2] := by rw [bwT, bwL, sndL_snoc]; rfl
def encT (x : Nat × Nat) : Array Value := #[.agg #[.int .u32 (x.1 : Int), .int .u32 (x.2 : Int)]]
def TNx (ts : List (Nat × Nat)) (pre : List (Nat × Nat)) (x : Nat × Nat) : Prop := ∃ k, k < ts.length ∧ pre = bwT ts k ∧ x = (bwI ts k).2
def Kx (p q : Nat) (A B : World) : Prop := A.heap.size ≤ B.heap.size ∧ ∀ k, k < A.heap.size → k ≠ p → k ≠ q → B.heap[k]? = A.heap[k]?
theorem Kx.trans {p q : Nat} {A B C : World} (h : Kx p q A B) (k : Kx p q B C) : Kx p q A C := ⟨Nat.le_trans h.1 k.1, fun i hi h1 h2 => (k.2 i (Nat.lt_of_lt_of_le hi h.1) h1 h2).trans (h.2 i hi h1 h2)⟩
theorem Kx.grown {p q : Nat} {A B : World} {row : Option Nat} (hg : A.grownBy B row) (hr : ∀ r, row = some r → r = p ∨ r = q) : Kx p q A B := ⟨hg.size, fun k hk h1 h2 => hg.block k hk (fun e => by rcases hr k e.symm with h | h <;> omega)⟩
theorem Kx.below {p q : Nat} {A B : World} (h : Below A.heap.size A B) : Kx p q A B := ⟨h.size, fun k hk _ _ => h.block k hk⟩
theorem Kx.two {p q a b : Nat} {A B : World} (h : Kx p q A B) (ha : a < A.heap.size) (hb : b < A.heap.size) (h1 : a ≠ p ∧ a ≠ q) (h2 : b ≠ p ∧ b ≠ q) : Two a b A B := ⟨h.2 a ha h1.1 h1.2, h.2 b hb h2.1 h2.2⟩
theorem keeps_below {A B : World} (h : Below A.heap.size A B) (n : Nat) : KeepsFrom n A B := ⟨h.size, fun k o _ hk _ => (h.block k (Array.getElem?_eq_some_iff.1 hk).1).trans hk⟩
set_option maxHeartbeats 4000000 in
theorem taken97 (m : Nat) (hm : 4 ≤ m) (Lb g cap : Nat) (ts : List (Nat × Nat)) (hts : ts.length ≤ 1000) (w : World) (cl : w.cell? ⟨Lb, 0, none⟩ = some (.slice (some ⟨g, 0, none⟩) ts.length cap)) (hst : StAt w g ts) (hL : Lb < w.heap.size) (hg : g < w.heap.size) (bh rl : Nat) (h1 : Lb ≠ bh) (h2 : g ≠ bh) (h3 : bh < w.heap.size) (h4 : w.heap.size ≤ rl) :
  SeqNy m Tryz.prog 97 #[.pointer (some ⟨Lb, 0, none⟩)] encT (Kx bh rl) (TNx ts) (fun ys => ys = bwT ts ts.length) (fun pre => ∃ k, k < ts.length ∧ pre = bwT ts (k + 1)) w (rl + 1) := fun l J Jx W hW hz hJ hJx hY h0 => by
 have cl := keep_cell hW cl
 have hst := hst.block (hW.block g hg)
 have hLW : Lb < W.heap.size := Nat.lt_of_lt_of_le hL hW.size
 have hgW : g < W.heap.size := Nat.lt_of_lt_of_le hg hW.size
 have hbhW : bh < W.heap.size := Nat.lt_of_lt_of_le h3 hW.size
 clear hW
 obtain ⟨X1, hX1⟩ : ∃ z, W.alloc (.cells #[.func (.yield l) #[] #[]] 140) = z := ⟨_, rfl⟩
 have b1 : Below W.heap.size W X1 := by rw [← hX1]; exact (Below.refl _ _).alloc (Nat.le_refl _) _
 have s1 : X1.heap.size = W.heap.size + 1 := by rw [← hX1]; simp
 have y1 : Boxed X1 W.heap.size 140 (.func (.yield l) #[] #[]) := by rw [← hX1]; exact Boxed.new W 140 _
 obtain ⟨nl, hnl⟩ : ∃ z, z = ts.length := ⟨_, rfl⟩
 obtain ⟨X2, hX2⟩ : ∃ z, X1.alloc (.cells #[.slice (some ⟨g, 0, none⟩) nl cap] 136) = z := ⟨_, rfl⟩
 have b2 : Below X1.heap.size X1 X2 := by rw [← hX2]; exact (Below.refl _ _).alloc (Nat.le_refl _) _
 have s2 : X2.heap.size = W.heap.size + 2 := by rw [← hX2]; simp; omega
 have c2 : X2.cell? ⟨W.heap.size + 1, 0, none⟩ = some (.slice (some ⟨g, 0, none⟩) nl cap) := by rw [← hX2, ← s1]; exact (Boxed.new X1 136 _).cell
 have y2 : Boxed X2 W.heap.size 140 (.func (.yield l) #[] #[]) := (b2.block _ y1.lt).trans y1
 have bW : Below W.heap.size W X2 := below_tr b1 b2
 have hJ2 : J [] X2 := hJ [] W X2 none h0 ⟨bW.os, bW.tape, bW.output, bW.size, fun k hk _ => bW.block k hk⟩ (fun r e => by cases e)
 have st2 : StAt X2 g ts := hst.block (bW.block g hgW)
 have T2 : Two Lb g W X2 := Two.below bW hLW hgW
 rw [← hnl] at cl
 have K98 := backward98 (.slice (some ⟨g, 0, none⟩) nl cap) X1 ⟨_, _, _, rfl⟩
 have cl1 := keep_cell b1 cl
 have hseq : SeqNy (m - 1) Tryz.prog 114 #[.pointer (some ⟨W.heap.size + 1, 0, none⟩)] encB (Two (W.heap.size + 1) g) (BNx ts) (fun ys => ys = bwL ts ts.length) (fun pre => ∃ k, k < ts.length ∧ pre = bwL ts (k + 1)) X2 0 := fun l' J' Jx' W' hW' _ _ _ hY' h0' =>
  back114 (m - 1) (by omega) l' (W.heap.size + 1) g cap ts hts J' Jx' W'.heap.size hY' W' (by rw [← hnl]; exact keep_cell hW' c2) (st2.block (hW'.block g (by omega))) h0'
 rw [s1] at K98
 clear hnl hst
 refine callsIn_of_wp_marks (F := Fence.wide) (n := m) Tryz.func97 rfl trivial ?_ rfl
 simp only [Tryz.ntmps97, List.size_toArray, List.length_cons, List.length_nil, Nat.reduceAdd, Nat.reduceSub, Array.replicate_succ, Array.replicate_zero, List.push_toArray, List.append_toArray, List.nil_append, List.cons_append]
 refine wpIn_wide.2 ?_
 go_wp2_with fail
 refine K98.mono ?_
 rintro e w3' ⟨rfl, rfl⟩
 clear K98
 go_wp2
 try rw [hX2]
 refine wpIn_wide.1 (wpIn_range_ny (n := m) (by omega) (gf := 114) rfl (enters_of Tryz.func114 (by kernel_rfl) rfl)
  hseq (Nat.zero_le _) (fun h k => h.trans k) (fun Wq o o' ho _ _ => Two.grown (grownBy_putObj' Wq _ o') (by have := (Array.getElem?_eq_some_iff.1 ho).1; omega) (by have := (Array.getElem?_eq_some_iff.1 ho).1; omega) (fun r e => by cases e; omega)) (Below.refl _ _) (fun _ => rfl)
  (fun pre Wx => J (sndL pre) Wx ∧ Boxed Wx W.heap.size 140 (.func (.yield l) #[] #[]) ∧ Two Lb g W Wx ∧ X2.heap.size ≤ Wx.heap.size)
  (fun c pre Wx => c = .ret ∧ Jx (sndL pre) Wx)
  (fun pre A C row hh hgr hrr => ⟨hJ _ A C row hh.1 hgr (fun r e => ⟨by have := (hrr r e).1; omega, (hrr r e).2⟩), hh.2.1.kept hgr (fun e => by have := (hrr _ e.symm).1; omega), hh.2.2.1.trans (Two.grown hgr (by have := hh.2.2.2; omega) (by have := hh.2.2.2; omega) (fun r e => by have := (hrr r e).1; omega)), Nat.le_trans hh.2.2.2 hgr.size⟩)
  (fun c pre A C row hh hgr hrr => ⟨hh.1, hJx _ A C row hh.2 hgr (fun r e => ⟨by have := (hrr r e).1; omega, (hrr r e).2⟩)⟩)
  ⟨hJ2, y2, T2, Nat.le_refl _⟩
  (fun x a' Wx => ∃ B v7, a' = { tmps := #[.func (.yield l) #[] #[], .pointer (some ⟨Lb, 0, none⟩), .pointer (some ⟨W.heap.size, 0, none⟩), undef, .pointer (some ⟨B, 0, none⟩), .slice (some ⟨g, 0, none⟩) nl cap, .func (.func 114) #[] #[.pointer (some ⟨W.heap.size + 1, 0, none⟩)], v7, .agg #[.int .u32 (x.2.1 : Int), .int .u32 (x.2.2 : Int)], undef, undef, undef, undef], defers := [] } ∧ X2.heap.size ≤ B ∧ Wx.heap[B]? = some (.cells #[.int .u32 (x.2.1 : Int), .int .u32 (x.2.2 : Int)] 120 (0, 0)))
  (fun x a' s A C row hh hgr hrr => ?hAx) ?assign ?body ?done ?stop)
 case hAx =>
  obtain ⟨B, v7, e1, e2, e3⟩ := hh
  refine ⟨B, v7, e1, e2, (hgr.block B (Array.getElem?_eq_some_iff.1 e3).1 (fun e => ?_)).trans e3⟩
  obtain ⟨_, o, h1, h2⟩ := hrr B e.symm
  rw [e3] at h1
  cases h1
  simp [Obj.isCells] at h2
 case assign =>
  intro l' pre x Wx K hnx hi hK
  simp only [encB]
  gi_wp2
  obtain ⟨i1, i2, i3, i4⟩ := hi
  have hb' : Below Wx.heap.size Wx (Wx.alloc (.cells #[.int .u32 (x.2.1 : Int), .int .u32 (x.2.2 : Int)] 120)) := (Below.refl _ _).alloc (Nat.le_refl _) _
  refine hK _ _ (keeps_below hb' _) (Two.below hb' (by omega) (by omega)) ⟨hJ _ _ _ none i1 ⟨hb'.os, hb'.tape, hb'.output, hb'.size, fun k hk _ => hb'.block k hk⟩ (fun r e => by cases e), (hb'.block _ i2.lt).trans i2, i3.trans (Two.below hb' (by omega) (by omega)), Nat.le_trans i4 hb'.size⟩ ⟨_, _, rfl, i4, heap_alloc_new Wx _⟩
 case body =>
  rintro l' pre x a' Wx ⟨k, hk, hpre, hx⟩ ⟨i1, i2, i3, i4⟩ ⟨B, v7, rfl, hB, hBc⟩
  obtain ⟨fn, tmps, assign, body, hy, hRd⟩ := hY (sndL pre) x.2 Wx i1 ⟨k, hk, by rw [hpre]; rfl, by rw [hx]⟩
  simp only [encT] at hy
  have yc := i2.cell
  have q0 : Wx.cell? ⟨B, 0, none⟩ = some (.int .u32 (x.2.1 : Int)) := by simp [World.cell?, hBc]
  have q1 : Wx.cell? ⟨B, 1, none⟩ = some (.int .u32 (x.2.2 : Int)) := by simp [World.cell?, hBc]
  have HI3 : Hid (Two Lb g W Wx ∧ X2.heap.size ≤ Wx.heap.size) := ⟨i3, i4⟩
  clear hseq hx hpre i1 i3 i4
  gi_wp2
  refine ⟨fun _ => by omega, (round_in hRd).mono ?_⟩
  rintro e W3 (⟨rfl, hJ3, hk3, kf3⟩ | ⟨rfl, hJx3, kf3⟩)
  ·have i3 := HI3.out.1
   have i4 := HI3.out.2
   have HE : Hid (KeepsFrom X2.heap.size Wx W3 ∧ Two (W.heap.size + 1) g Wx W3 ∧ J (sndL (pre ++ [x])) W3 ∧ Boxed W3 W.heap.size 140 (.func (.yield l) #[] #[]) ∧ Two Lb g W W3 ∧ X2.heap.size ≤ W3.heap.size) :=
    ⟨kf_up kf3 (by omega), hk3.two (by omega) (by omega) ⟨by omega, by omega⟩ ⟨by omega, by omega⟩, by rw [sndL_snoc]; exact hJ3, (hk3.2 _ i2.lt (by omega) (by omega)).trans i2, i3.trans (hk3.two (by omega) (by omega) ⟨by omega, by omega⟩ ⟨by omega, by omega⟩), Nat.le_trans i4 hk3.1⟩
   clear hJ3 hk3 kf3 hRd i3 i4
   gi_wp2
   exact HE.out
  ·have HE : Hid (KeepsFrom X2.heap.size Wx W3 ∧ Jx (sndL (pre ++ [x])) W3) := ⟨kf_up kf3 (by omega), by rw [sndL_snoc]; exact hJx3⟩
   clear hJx3 kf3 hRd
   gi_wp2
   exact ⟨HE.out.1, rfl, HE.out.2⟩
 case done =>
  rintro D xs Wx hD hS ⟨i1, i2, i3, i4⟩ hK
  have HJe : Hid (J (bwT ts ts.length) (Wx.putObj D (.deferred none))) := by
   rw [hS] at i1
   exact hJ _ _ _ (some D) i1 (grownBy_putObj' Wx D _) (fun r e => by cases e; exact ⟨by omega, _, hK, rfl⟩)
  clear i1 i2 i3 hS
  go_wp2
  refine ⟨by simp, .inl ⟨_, _, rfl, run_takeDeferred hK, ?_⟩⟩
  exact ⟨_, results_none rfl _ _ _, ⟨_, rfl⟩, .inl ⟨_, rfl, HJe.out⟩⟩
 case stop =>
  rintro D c pre Wx hD ⟨k, hk, hpre⟩ ⟨rfl, hjx⟩ hK
  have HJe : Hid (Jx (bwT ts (k + 1)) (Wx.putObj D (.deferred none))) := by
   rw [hpre] at hjx
   exact hJx _ _ _ (some D) hjx (grownBy_putObj' Wx D _) (fun r e => by cases e; exact ⟨by omega, _, hK, rfl⟩)
  have HKL : Hid (k < ts.length) := hk
  clear hjx hpre hk
  refine wpIn_wide.2 ?_
  go_wp2
  refine ⟨by simp, .inl ⟨_, _, rfl, run_takeDeferred hK, ?_⟩⟩
  exact ⟨_, results_none rfl _ _ _, ⟨_, rfl⟩, .inr ⟨_, ⟨k, HKL.out, rfl⟩, HJe.out⟩⟩
end Go.Proofs.YtkpmkgkfpikpfaaGreat
