/- What is proved here: what is taken is handed out downwards: the program's iterators. -/
import Derived.Test.YtkpmkgkfpikpfaaGreatStb
import Derived.Test.YtkpmkgkfpikpfaaGreatNy
import Derived.Test.YtkpmkgkfpikpfaaGreatGp
import Derived.RangeFuncNested
import Derived.RangeFuncBound
import Derived.RangeFuncCalls
import Derived.RangeFuncLeaves
import Derived.RangeFuncFrom
import Derived.Shelf.Abstract
import Derived.Shelf.RegionOpen
import Derived.WalkKit
import Derived.OwnWalkIn
import Derived.TacticsInMore
import Derived.LoopNIn
import Derived.LoopIn
namespace Go.Proofs.YtkpmkgkfpikpfaaGreat
open Go.RowKit Go.Shelf
set_option linter.unusedVariables false
set_option linter.unusedSimpArgs false
set_option maxRecDepth 100000
attribute [local go_sem] Oper.semAt_some
/-- What a row of stretches hands out, k rounds being over: from its end on. -/
def bwI (ts : List (Nat × Nat)) (k : Nat) : Nat × (Nat × Nat) := (ts.length - 1 - k, ts.getD (ts.length - 1 - k) (0, 0))
def bwL (ts : List (Nat × Nat)) : Nat → List (Nat × (Nat × Nat))
  | 0 => []
  | k + 1 => bwL ts k ++ [bwI ts k]
def encB (x : Nat × (Nat × Nat)) : Array Value := #[.int .i64 (x.1 : Int), .agg #[.int .u32 (x.2.1 : Int), .int .u32 (x.2.2 : Int)]]
def BNx (ts : List (Nat × Nat)) (pre : List (Nat × (Nat × Nat))) (x : Nat × (Nat × Nat)) : Prop := ∃ k, k < ts.length ∧ pre = bwL ts k ∧ x = bwI ts k
/-- Two blocks stay as they lay. -/
def Two (p q : Nat) (A B : World) : Prop := B.heap[p]? = A.heap[p]? ∧ B.heap[q]? = A.heap[q]?
theorem Two.trans {p q : Nat} {A B C : World} (h : Two p q A B) (k : Two p q B C) : Two p q A C := ⟨k.1.trans h.1, k.2.trans h.2⟩
theorem Two.refl (p q : Nat) (A : World) : Two p q A A := ⟨rfl, rfl⟩
theorem Two.below {p q : Nat} {A B : World} (h : Below A.heap.size A B) (hp : p < A.heap.size) (hq : q < A.heap.size) : Two p q A B := ⟨h.block p hp, h.block q hq⟩
theorem Two.grown {p q : Nat} {A B : World} {row : Option Nat} (hg : A.grownBy B row) (hp : p < A.heap.size) (hq : q < A.heap.size) (h1 : ∀ r, row = some r → r ≠ p ∧ r ≠ q) : Two p q A B := ⟨hg.block p hp (fun e => (h1 p e.symm).1 rfl), hg.block q hq (fun e => (h1 q e.symm).2 rfl)⟩
theorem cell_block {w w' : World} {a : Addr} {v : Value} (h : w.cell? a = some v) (hb : w'.heap[a.block]? = w.heap[a.block]?) : w'.cell? a = some v := (World.cell?_of_block hb).trans h
set_option maxHeartbeats 2000000 in
theorem back114 (m : Nat) (hm : 1 ≤ m) (l Bs g cap : Nat) (ts : List (Nat × Nat)) (hts : ts.length ≤ 1000) (J Jx : List (Nat × (Nat × Nat)) → World → Prop) (N0 : Nat)
    (hY : ∀ pre x W, J pre W → BNx ts pre x → YieldAt Fence.wide (m - 1) Tryz.prog l (encB x) W fun e W' =>
      (e = .returned (.bool true) ∧ J (pre ++ [x]) W' ∧ Two Bs g W W' ∧ KeepsFrom N0 W W') ∨ (e = .returned (.bool false) ∧ Jx (pre ++ [x]) W' ∧ KeepsFrom N0 W W'))
    (W : World) (cs : W.cell? ⟨Bs, 0, none⟩ = some (.slice (some ⟨g, 0, none⟩) ts.length cap)) (hst : StAt W g ts) (h0 : J [] W) :
    CallsIn Fence.wide m Tryz.prog 114 #[.func (.yield l) #[] #[], .pointer (some ⟨Bs, 0, none⟩)] W fun e W' => (∃ v, e = .returned v) ∧
      ((∃ ys, ys = bwL ts ts.length ∧ J ys W') ∨ (∃ pre, (∃ k, k < ts.length ∧ pre = bwL ts (k + 1)) ∧ Jx pre W')) := by
  have HC : Hid (∀ wr, Two Bs g W wr → wr.cell? ⟨Bs, 0, none⟩ = some (.slice (some ⟨g, 0, none⟩) ts.length cap) ∧ StAt wr g ts) := fun wr h => ⟨cell_block cs h.1, hst.block h.2⟩
  have HY : Hid _ := hY
  obtain ⟨n, hn⟩ : ∃ n, n = ts.length := ⟨_, rfl⟩
  rw [← hn] at cs
  have HN : Hid (n = ts.length ∧ n ≤ 1000) := ⟨hn, by omega⟩
  have hw0 : wrap64 ((n : Int) - 1) = (n : Int) - 1 := by unfold wrap64; omega
  have HW0 : Hid (wrap64 ((n : Int) - 1) = (n : Int) - 1) := hw0
  clear hY hst hn hts
  refine callsIn_of_wp Tryz.func114 rfl trivial ?_ rfl
  simp only [Tryz.ntmps114, List.size_toArray, List.length_cons, List.length_nil, Nat.reduceAdd, Nat.reduceSub, Array.replicate_succ, Array.replicate_zero, List.push_toArray, List.append_toArray, List.nil_append, List.cons_append]
  gi_wp2
  gi_loopw [3] (fun x wr => ∃ k : Nat, k ≤ ts.length ∧ x = .int .i64 ((ts.length : Int) - 1 - (k : Int)) ∧ J (bwL ts k) wr ∧ Two Bs g W wr) (fun x _ => (intOf x + 1).toNat)
  case atStart => exact ⟨0, Nat.zero_le _, by rw [← HN.out.1]; simp; exact HW0.out, h0, Two.refl _ _ _⟩
  case round =>
    obtain ⟨k, hk, rfl, hJs, hT⟩ := hrel
    have hn := HN.out.1
    have hn2 := HN.out.2
    by_cases hkl : k < ts.length
    · obtain ⟨c1, hs⟩ := HC.out wr hT
      obtain ⟨j, hj⟩ : ∃ j, j = ts.length - 1 - k := ⟨_, rfl⟩
      have hjl : j < ts.length := by omega
      obtain ⟨c2, c3⟩ := hs j hjl
      have e1 : (ts.length : Int) - 1 - (k : Int) = (j : Int) := by omega
      have hbi : bwI ts k = (j, (ts[j].1, ts[j].2)) := by unfold bwI; rw [← hj]; simp [hjl]
      have HK : Hid (bwL ts (k + 1) = bwL ts k ++ [(j, (ts[j].1, ts[j].2))]) := by show _ = _; rw [bwL, hbi]
      obtain ⟨fn, tmps, assign, body, hy, hRd⟩ := HY.out _ (j, (ts[j].1, ts[j].2)) wr hJs ⟨k, hkl, rfl, hbi.symm⟩
      simp only [encB] at hy
      generalize ts[j].1 = a at c2 hy hRd HK
      generalize ts[j].2 = b at c3 hy hRd HK
      rw [e1]
      have hjI : (j : Int) < (ts.length : Int) := by omega
      have hj0 : ¬ (j : Int) < 0 := by omega
      have hj1 : (0 : Int) ≤ (j : Int) := by omega
      have hjw : wrap64 ((j : Int) - 1) = (j : Int) - 1 := by unfold wrap64; omega
      have HJW : Hid (wrap64 ((j : Int) - 1) = (j : Int) - 1) := hjw
      have HJ1 : Hid ((j : Int) - 1 = (ts.length : Int) - 1 - ((k + 1 : Nat) : Int)) := by show _ = _; omega
      have HT : Hid (Two Bs g W wr) := hT
      obtain ⟨nl, hnl⟩ : ∃ z, z = ts.length := ⟨_, rfl⟩
      rw [← hnl] at c1 hjI
      have HKL : Hid (k < ts.length) := hkl
      have HNL : Hid (nl = ts.length) := hnl
      clear hnl hJs hT hs hbi hj hjl e1 hn hn2 hkl HY cs hw0
      gi_wp2
      first | refine ⟨trivial, fun _ => by omega, hRd.mono ?_⟩ | refine ⟨trivial, hRd.mono ?_⟩ | refine hRd.mono ?_
      rintro e W3 (⟨rfl, hJ3, hk3, _⟩ | ⟨rfl, hJx3, _⟩)
      · have HJ3 : Hid (J (bwL ts (k + 1)) W3 ∧ Two Bs g W W3) := ⟨by rw [HK.out]; exact hJ3, HT.out.trans hk3⟩
        clear hJ3 hk3 hRd
        gi_wp2
        go_roundw
        case rel => exact ⟨k + 1, HKL.out, by first | rw [HJW.out, HJ1.out] | rw [HJ1.out], HJ3.out.1, HJ3.out.2⟩
        case measure => simp [intOf]; omega
      · have HX3 : Hid (Jx (bwL ts (k + 1)) W3) := by show Jx _ _; rw [HK.out]; exact hJx3
        clear hJx3 hRd
        gi_wp2
        refine bodyPost_ret (results_none rfl _ _ _) rfl ?_
        exact ⟨⟨_, rfl⟩, .inr ⟨_, ⟨k, HKL.out, rfl⟩, HX3.out⟩⟩
    · have e1 : (ts.length : Int) - 1 - (k : Int) = -1 := by omega
      have hkk : k = ts.length := by omega
      have HJe : Hid (J (bwL ts ts.length) wr) := by rw [hkk] at hJs; exact hJs
      rw [e1]
      clear hJs hT hn hn2 hk hkl hkk e1
      gi_wp2
      go_end0
      exact ⟨⟨_, rfl⟩, .inl ⟨_, rfl, HJe.out⟩⟩
theorem backward98 (v : Value) (w : World) (hv : ∃ a n p, v = .slice a n p) : Calls Tryz.prog 98 #[v] w fun e w' => e = .returned (.func (.func 114) #[] #[.pointer (some ⟨w.heap.size, 0, none⟩)]) ∧ w' = w.alloc (.cells #[v] 136) := by
  obtain ⟨a, n, p, rfl⟩ := hv
  go_enter Tryz.func98, Tryz.ntmps98
  go_wp2
  go_ret
  exact ⟨rfl, rfl⟩
end Go.Proofs.YtkpmkgkfpikpfaaGreat
