import Derived.RangeFuncBox
import Derived.RangeFuncLeaves
import Derived.Shelf.Abstract
import Derived.WalkKit
import Derived.OwnWalkIn
import Derived.TacticsInMore
import Derived.LoopNIn
import Derived.LoopIn
import Derived.Test.YtimfipkbddpdmaaGreatDoorProg
import Derived.RangeFuncNested
import Derived.Shelf.RegionOpen
set_option linter.unusedVariables false
set_option linter.unusedSimpArgs false
set_option maxRecDepth 100000
open Go Go.RowKit
namespace Go.Proofs.YtimfipkbddpdmaaGreatDoor.Gm.W
open Go.RowKit Go.Shelf
attribute [local go_sem] Oper.semAt_some
def upTo (n : Nat) : (k : Nat) -> k <= n -> List (Fin n)
 | 0, _ => []
 | k + 1, h => upTo n k (Nat.le_of_succ_le h) ++ [⟨k, h⟩]
theorem upTo_length (n k : Nat) (h : k <= n) : (upTo n k h).length = k := by
 induction k with
 | zero => rfl
 | succ k ih => simp [upTo, ih]
def downTo (n : Nat) : (k : Nat) -> k <= n -> List (Fin n)
 | 0, _ => []
 | k + 1, h => downTo n k (Nat.le_of_succ_le h) ++ [⟨n - 1 - k, by omega⟩]
theorem downTo_length (n k : Nat) (h : k <= n) : (downTo n k h).length = k := by
 induction k with
 | zero => rfl
 | succ k ih => simp [downTo, ih]
def encAt {n : Nat} (x : Fin n) : Array Value := #[.int .i64 x.val]
set_option maxRecDepth 100000 in
set_option maxHeartbeats 1000000 in
theorem forward1_in (F : Fence) (m : Nat) (h27 : F.fn 152) (hro : F.round = none) (hm : 1 <= m) (l Bn n₀ n : Nat) (hn : n <= 1000000) (hB : Bn < n₀) (J Jx : List (Fin n) -> World -> Prop)
  (hY : ∀ pre x W, J pre W -> pre.length < n -> YieldAt F (m - 1) Tryz.prog l (encAt x) W fun e W' =>
   (e = .returned (.bool true) /\ J (pre ++ [x]) W' /\ Below n₀ W W') \/ (e = .returned (.bool false) /\ Jx (pre ++ [x]) W'))
  (W : World) (hBn : W.cell? ⟨Bn, 0, none⟩ = some (.int .i64 n)) (h0 : J [] W) :
  CallsIn F m Tryz.prog 152 #[.func (.yield l) #[] #[], .pointer (some ⟨Bn, 0, none⟩)] W fun e W' => (∃ v, e = .returned v) /\
   ((∃ ys, ys = upTo n n (Nat.le_refl _) /\ J ys W') \/ (∃ pre, True /\ Jx pre W')) := by
 refine callsIn_of_wp Tryz.func152 rfl h27 ?_ hro
 simp only [Tryz.ntmps152, List.size_toArray, List.length_cons, List.length_nil, Nat.reduceAdd, Nat.reduceSub, Array.replicate_succ, Array.replicate_zero, List.push_toArray, List.append_toArray, List.nil_append, List.cons_append]
 gi_wp2
 gi_loopw [3] (fun i wr => ∃ (k : Nat) (hk : k <= n), i = .int .i64 k /\ J (upTo n k hk) wr /\ wr.cell? ⟨Bn, 0, none⟩ = some (.int .i64 n))
  (fun i _ => n - (intOf i).toNat)
 case atStart =>
  exact ⟨0, Nat.zero_le _, rfl, h0, hBn⟩
 case round =>
  obtain ⟨k, hk, rfl, hJs, hc⟩ := hrel
  by_cases hlt : k < n
  ·obtain ⟨fn, tmps, assign, body, hy, hR⟩ := hY _ ⟨k, hlt⟩ wr hJs (by rw [upTo_length]; exact hlt)
   simp only [encAt] at hy
   gi_wp2
   refine hR.mono ?_
   rintro e W3 (⟨rfl, hJ3, hk3⟩ | ⟨rfl, hJx3⟩)
   ·have hq3 : W3.cell? ⟨Bn, 0, none⟩ = some (.int .i64 n) := (hk3.cell (p := ⟨Bn, 0, none⟩) hB).trans hc
    gi_wp2
    go_roundw
    case rel => exact ⟨k + 1, hlt, by simp, hJ3, hq3⟩
    case measure => simp [intOf]; omega
   ·gi_wp2
    refine bodyPost_ret (results_none rfl _ _ _) rfl ?_
    exact ⟨⟨_, rfl⟩, .inr ⟨_, trivial, hJx3⟩⟩
  ·obtain rfl : k = n := by omega
   gi_wp2
   go_end0
   exact ⟨⟨_, rfl⟩, .inl ⟨_, rfl, hJs⟩⟩
set_option maxRecDepth 100000 in
set_option maxHeartbeats 1000000 in
theorem backward1_in (F : Fence) (m : Nat) (h28 : F.fn 219) (hro : F.round = none) (hm : 1 <= m) (l Bn n₀ n : Nat) (hn : n <= 1000000) (J Jx : List (Fin n) -> World -> Prop)
  (hY : ∀ pre x W, J pre W -> pre.length < n -> YieldAt F (m - 1) Tryz.prog l (encAt x) W fun e W' =>
   (e = .returned (.bool true) /\ J (pre ++ [x]) W' /\ Below n₀ W W') \/ (e = .returned (.bool false) /\ Jx (pre ++ [x]) W'))
  (W : World) (hBn : W.cell? ⟨Bn, 0, none⟩ = some (.int .i64 n)) (h0 : J [] W) :
  CallsIn F m Tryz.prog 219 #[.func (.yield l) #[] #[], .pointer (some ⟨Bn, 0, none⟩)] W fun e W' => (∃ v, e = .returned v) /\
   ((∃ ys, ys = downTo n n (Nat.le_refl _) /\ J ys W') \/ (∃ pre, True /\ Jx pre W')) := by
 refine callsIn_of_wp Tryz.func219 rfl h28 ?_ hro
 simp only [Tryz.ntmps219, List.size_toArray, List.length_cons, List.length_nil, Nat.reduceAdd, Nat.reduceSub, Array.replicate_succ, Array.replicate_zero, List.push_toArray, List.append_toArray, List.nil_append, List.cons_append]
 gi_wp2
 gi_loopw [3] (fun i wr => ∃ (k : Nat) (hk : k <= n), i = .int .i64 ((n : Int) - 1 - k) /\ J (downTo n k hk) wr)
  (fun i _ => (intOf i + 1).toNat)
 case atStart =>
  exact ⟨0, Nat.zero_le _, by simp, h0⟩
 case round =>
  obtain ⟨k, hk, rfl, hJs⟩ := hrel
  by_cases hlt : k < n
  ·obtain ⟨fn, tmps, assign, body, hy, hR⟩ := hY _ ⟨n - 1 - k, by omega⟩ wr hJs (by rw [downTo_length]; exact hlt)
   simp only [encAt] at hy
   rw [show ((n - 1 - k : Nat) : Int) = (n : Int) - 1 - k from by omega] at hy
   gi_wp2
   refine hR.mono ?_
   rintro e W3 (⟨rfl, hJ3, hk3⟩ | ⟨rfl, hJx3⟩)
   ·gi_wp2
    go_roundw
    case rel => exact ⟨k + 1, hlt, by simp; omega, hJ3⟩
    case measure => simp [intOf]; omega
   ·gi_wp2
    refine bodyPost_ret (results_none rfl _ _ _) rfl ?_
    exact ⟨⟨_, rfl⟩, .inr ⟨_, trivial, hJx3⟩⟩
  ·obtain rfl : k = n := by omega
   gi_wp2
   go_end0
   exact ⟨⟨_, rfl⟩, .inl ⟨_, rfl, hJs⟩⟩
theorem forward_stops (F : Fence) (m : Nat) (h27 : F.fn 152) (hro : F.round = none) (hm : 1 <= m) (Bn n₀ n : Nat) (hn : n <= 1000000) (hB : Bn < n₀) (w : World) (hn₀ : n₀ <= w.heap.size)
  (hc : w.cell? ⟨Bn, 0, none⟩ = some (.int .i64 n)) :
  SeqStopsK F m Tryz.prog 152 #[.pointer (some ⟨Bn, 0, none⟩)] (encAt (n := n)) (Below n₀) (fun ys => ys = upTo n n (Nat.le_refl _)) (fun _ => True) n w := fun l J Jx W hW _ _ hY h0 =>
 forward1_in F m h27 hro hm l Bn n₀ n hn hB J Jx hY W ((hW.cell (p := ⟨Bn, 0, none⟩) (Nat.lt_of_lt_of_le hB hn₀)).trans hc) h0
theorem backward_stops (F : Fence) (m : Nat) (h28 : F.fn 219) (hro : F.round = none) (hm : 1 <= m) (Bn n₀ n : Nat) (hn : n <= 1000000) (hB : Bn < n₀) (w : World) (hn₀ : n₀ <= w.heap.size)
  (hc : w.cell? ⟨Bn, 0, none⟩ = some (.int .i64 n)) :
  SeqStopsK F m Tryz.prog 219 #[.pointer (some ⟨Bn, 0, none⟩)] (encAt (n := n)) (Below n₀) (fun ys => ys = downTo n n (Nat.le_refl _)) (fun _ => True) n w := fun l J Jx W hW _ _ hY h0 =>
 backward1_in F m h28 hro hm l Bn n₀ n hn J Jx hY W ((hW.cell (p := ⟨Bn, 0, none⟩) (Nat.lt_of_lt_of_le hB hn₀)).trans hc) h0
set_option maxHeartbeats 400000 in
theorem forward_any (n : Int) (w : World) :
  Calls Tryz.prog 117 #[.int .i64 n] w fun e w' => e = .returned (.func (.func 152) #[] #[.pointer (some ⟨w.heap.size, 0, none⟩)]) /\ w' = w.alloc (.cells #[.int .i64 n] 3) := by
 go_enter Tryz.func117, Tryz.ntmps117
 go_wp2
 go_ret
 exact ⟨rfl, rfl⟩
set_option maxHeartbeats 400000 in
theorem backward_any (n : Int) (w : World) :
  Calls Tryz.prog 210 #[.int .i64 n] w fun e w' => e = .returned (.func (.func 219) #[] #[.pointer (some ⟨w.heap.size, 0, none⟩)]) /\ w' = w.alloc (.cells #[.int .i64 n] 3) := by
 go_enter Tryz.func210, Tryz.ntmps210
 go_wp2
 go_ret
 exact ⟨rfl, rfl⟩
end Go.Proofs.YtimfipkbddpdmaaGreatDoor.Gm.W
namespace Go.Proofs.YtimfipkbddpdmaaGreatDoor.Gm.W
open Go.RowKit Go.Shelf
attribute [local go_sem] Oper.semAt_some
def byteAt (v i : Nat) : Nat := v / 2 ^ (8 * i) % 256
def byteV {n : Nat} (v : Nat) (x : Fin n) : Value := .int .u8 (byteAt v x.val : Int)
def rowOf {n : Nat} (v : Nat) (pre : List (Fin n)) : List Value := pre.map (byteV v) ++ List.replicate (8 - pre.length) (.int .u8 0)
theorem mk08 (w : World) : (Instr.makeSlice 102 (.int .i64 0) (.int .i64 8)).run Tryz.prog w = .ok (.slice (some ⟨w.heap.size, 0, none⟩) 0 8) (w.alloc (.cells #[.int .u8 0, .int .u8 0, .int .u8 0, .int .u8 0, .int .u8 0, .int .u8 0, .int .u8 0, .int .u8 0] 5)) := by kernel_rfl
def RowAt (W : World) (B : Nat) (l : List Value) : Prop := W.heap[B]? = some (.cells l.toArray 5 (0, 0))
theorem rowAt_own {β : Type} (B : Nat) (f : β -> List Value) : Own (fun s W => RowAt W B (f s)) := fun s X Y row hs hg hrow => by
 refine (hg.block B (Array.getElem?_eq_some_iff.1 hs).1 (fun e' => ?_)).trans hs
 obtain ⟨o, ho, hc⟩ := hrow B e'.symm
 rw [show X.heap[B]? = _ from hs] at ho; cases ho; cases hc
theorem RowAt.cell {W : World} {B : Nat} {l : List Value} (h : RowAt W B l) (k : Nat) (hk : k < l.length) : W.cell? ⟨B, k, none⟩ = some l[k] := by
 simp [World.cell?, show W.heap[B]? = _ from h, hk]
theorem RowAt.frozen {W : World} {B : Nat} {l : List Value} (h : RowAt W B l) (k : Nat) : W.frozen? ⟨B, k, none⟩ = false := by
 simp [World.frozen?, show W.heap[B]? = _ from h]
theorem rowOf_length {n : Nat} (v : Nat) (pre : List (Fin n)) (h : pre.length <= 8) : (rowOf v pre).length = 8 := by simp [rowOf]; omega
theorem rowOf_at {n : Nat} (v : Nat) (pre : List (Fin n)) (h' : pre.length < (rowOf v pre).length) : (rowOf v pre)[pre.length] = .int .u8 0 := by
 simp [rowOf]
theorem RowAt.set {W : World} {B : Nat} {l : List Value} (h : RowAt W B l) (k : Nat) (v : Value) : RowAt (W.setCell ⟨B, k, none⟩ v) B (l.set k v) := by
 obtain ⟨hlt, hk⟩ := Array.getElem?_eq_some_iff.1 h
 show (W.heap.modify B _)[B]? = _
 rw [Array.getElem?_eq_getElem (by rw [Array.size_modify]; exact hlt), Array.getElem_modify_self, hk]
 simp
theorem grownBy_setAny (W : World) (b k : Nat) (v : Value) : W.grownBy (W.setCell ⟨b, k, none⟩ v) (some b) :=
 ⟨rfl, rfl, rfl, (KeepsWalks.setCell W _ v).size, fun j _ hk => Below.heap_setCell _ _ _ j (fun e => hk (by rw [e]))⟩
theorem RowAt.kept {W W' : World} {row : Option Nat} {B : Nat} {l : List Value} (h : RowAt W B l) (hg : W.grownBy W' row) (hne : some B ≠ row) : RowAt W' B l := (hg.block B (Array.getElem?_eq_some_iff.1 h).1 hne).trans h
theorem rowOf_snoc {n : Nat} (v : Nat) (pre : List (Fin n)) (x : Fin n) (h : pre.length < 8) : (rowOf v pre).set pre.length (byteV v x) = rowOf v (pre ++ [x]) := by
 obtain ⟨r, hr⟩ : ∃ r, 8 - pre.length = r + 1 := ⟨7 - pre.length, by omega⟩
 have hr' : 8 - (pre.length + 1) = r := by omega
 simp [rowOf, hr, hr', List.replicate_succ]
theorem byteAt_cast (v i : Nat) : ((byteAt v i : Nat) : Int) = (v : Int) / 2 ^ (8 * i) % 256 := by
 simp [byteAt]
theorem byteAt_lt (v i : Nat) : byteAt v i < 256 := by unfold byteAt; omega
def roundW (W : World) (b k : Nat) (x s : Value) : World := (((W.setCell ⟨b + 1, k, none⟩ x).setCell ⟨b + 1 + 1, 0, none⟩ s).alloc (.cells #[x] 5)).drew
theorem roundW_keeps (W : World) (b k : Nat) (x s : Value) : KeepsOthers W (roundW W b k x s) :=
 (((KeepsOthers.setCell _ _ _).trans (KeepsOthers.setCell _ _ _)).trans (KeepsOthers.alloc _ _)).trans (KeepsOthers.drew _)
theorem roundW_below {W0 : World} (W : World) (b k : Nat) (x s : Value) (h : Below b W0 W) (hb : b <= W.heap.size) : Below b W0 (roundW W b k x s) :=
 (((h.setCell (p := ⟨b + 1, k, none⟩) (by simp) _).setCell (p := ⟨b + 1 + 1, 0, none⟩) (by simp; omega) _).alloc (by simpa [World.setCell] using hb) _).drew
theorem roundW_v {W : World} {b : Nat} (k : Nat) (x s v : Value) (h : Boxed W b 30 v) : Boxed (roundW W b k x s) b 30 v :=
 ((h.kept (grownBy_setAny W (b + 1) k x) (by simp)).kept (grownBy_setAny _ (b + 1 + 1) 0 s) (by simp; omega)).alloc _
theorem roundW_r {W : World} {b : Nat} {l : List Value} (k : Nat) (x s : Value) (h : RowAt W (b + 1) l) : RowAt (roundW W b k x s) (b + 1) (l.set k x) :=
 show RowAt (((W.setCell ⟨b + 1, k, none⟩ x).setCell ⟨b + 1 + 1, 0, none⟩ s).alloc (.cells #[x] 5)) (b + 1) (l.set k x) from
 ((h.set k x).kept (grownBy_setAny _ (b + 1 + 1) 0 s) (by simp)).kept (World.grownBy_alloc _ _ none) (by simp)
theorem roundW_o {W : World} {b : Nat} (k : Nat) (x s v : Value) (h : Boxed W (b + 1 + 1) 102 v) : Boxed (roundW W b k x s) (b + 1 + 1) 102 s :=
 ((h.kept (grownBy_setAny W (b + 1) k x) (by simp)).set s).alloc _
def roundI {n : Nat} (w : World) (v : Nat) (pre : List (Fin n)) (W : World) : Prop :=
 (Boxed W w.heap.size 30 (.int .u64 v) /\ RowAt W (w.heap.size + 1) (rowOf v pre) /\ Boxed W (w.heap.size + 1 + 1) 102 (.slice (some ⟨w.heap.size + 1, 0, none⟩) pre.length 8) /\ pre.length <= n) /\ Below w.heap.size w W
theorem round_end {n : Nat} (w W : World) (pre : List (Fin n)) (x : Fin n) (v : Nat) (hV : Boxed W w.heap.size 30 (.int .u64 v)) (hR : RowAt W (w.heap.size + 1) (rowOf v pre)) (hO : Boxed W (w.heap.size + 1 + 1) 102 (.slice (some ⟨w.heap.size + 1, 0, none⟩) pre.length 8)) (h8 : pre.length < 8) (hpre : pre.length < n) (hB : Below w.heap.size w W) (hz : w.heap.size <= W.heap.size) :
  KeepsOthers W (roundW W w.heap.size pre.length (byteV v x) (.slice (some ⟨w.heap.size + 1, 0, none⟩) (pre.length + 1) 8)) /\ Below w.heap.size W (roundW W w.heap.size pre.length (byteV v x) (.slice (some ⟨w.heap.size + 1, 0, none⟩) (pre.length + 1) 8)) /\ roundI w v (pre ++ [x]) (roundW W w.heap.size pre.length (byteV v x) (.slice (some ⟨w.heap.size + 1, 0, none⟩) (pre.length + 1) 8)) := by
 refine ⟨roundW_keeps _ _ _ _ _, roundW_below _ _ _ _ _ (Below.refl _ _) hz, ⟨roundW_v _ _ _ _ hV, ?_, ?_, ?_⟩, roundW_below _ _ _ _ _ hB hz⟩
 ·rw [<- rowOf_snoc v pre x h8]; exact roundW_r _ _ _ hR
 ·rw [List.length_append]; exact roundW_o _ _ _ _ hO
 ·rw [List.length_append]; exact hpre
set_option maxRecDepth 100000 in
set_option maxHeartbeats 1000000 in
theorem text_in (F : Fence) (m gf : Nat) (h26 : F.fn 207) (hgf : F.fn gf) (hro : F.round = none) (hm : 3 <= m) (eg : ∀ args w, (callFunc gf args).run Tryz.prog w = .ok (.enter gf args) w) (v n : Nat) (hn : n <= 8) (xs : List (Fin n)) (lb : Array Value) (w : World)
  (hseq : ∀ w1, Below w.heap.size w w1 -> SeqStopsK F (m - 1) Tryz.prog gf lb (encAt (n := n)) (Below w.heap.size) (fun ys => ys = xs) (fun _ => True) n w1) :
  CallsIn F m Tryz.prog 207 #[.int .u64 v, .int .i64 n, .func (.func gf) #[] lb] w fun e W' => e = .returned (.string ⟨(xs.map fun x => UInt8.ofNat (byteAt v x.val)).toArray⟩) /\ Below w.heap.size w W' := by
 have h1 : 1 <= m := by omega
 have hmk := mk08
 refine callsIn_of_wp_marks Tryz.func207 rfl h26 ?_ hro
 simp only [Tryz.ntmps207, List.size_toArray, List.length_cons, List.length_nil, Nat.reduceAdd, Nat.reduceSub, Array.replicate_succ, Array.replicate_zero, List.push_toArray, List.append_toArray, List.nil_append, List.cons_append]
 gi_wp2
 have bV := Boxed.new w 30 (.int .u64 v)
 have hB0 : Below w.heap.size w (((w.alloc (.cells #[.int .u64 v] 30)).alloc (.cells #[.int .u8 0, .int .u8 0, .int .u8 0, .int .u8 0, .int .u8 0, .int .u8 0, .int .u8 0, .int .u8 0] 5)).alloc (.cells #[.slice (some ⟨w.heap.size + 1, 0, none⟩) 0 8] 102)) := (((Below.refl _ w).alloc (Nat.le_refl _) _).alloc (by simp) _).alloc (by simp; omega) _
 have bR : RowAt ((w.alloc (.cells #[.int .u64 v] 30)).alloc (.cells #[.int .u8 0, .int .u8 0, .int .u8 0, .int .u8 0, .int .u8 0, .int .u8 0, .int .u8 0, .int .u8 0] 5)) (w.heap.size + 1) (rowOf (n := n) v []) := by
  have := World.alloc_heap_new (w.alloc (.cells #[.int .u64 v] 30)) (.cells #[.int .u8 0, .int .u8 0, .int .u8 0, .int .u8 0, .int .u8 0, .int .u8 0, .int .u8 0, .int .u8 0] 5)
  rw [World.size_alloc] at this
  exact this
 have bO := Boxed.new ((w.alloc (.cells #[.int .u64 v] 30)).alloc (.cells #[.int .u8 0, .int .u8 0, .int .u8 0, .int .u8 0, .int .u8 0, .int .u8 0, .int .u8 0, .int .u8 0] 5)) 102 (.slice (some ⟨w.heap.size + 1, 0, none⟩) 0 8)
 rw [World.size_alloc, World.size_alloc] at bO
 refine wpIn_rangeFunc_ownF hro h1 (gf := gf) (lb := lb) rfl hgf eg
  (hseq _ hB0) belowK_t (belowK_b (by simp; omega)) (Below.refl _ _) (fun _ => rfl)
  (roundI w v)
  (fun _ _ _ => False)
  (OwnFrom.and (OwnFrom.and (Own.from (boxed_own _ _ (fun _ => .int .u64 v)) _) (OwnFrom.and (Own.from (rowAt_own _ (fun pre => rowOf v pre)) _) (OwnFrom.and (Own.from (boxed_own _ _ (fun pre : List (Fin n) => .slice (some ⟨w.heap.size + 1, 0, none⟩) pre.length 8)) _) (ownFrom_pure _ (fun pre : List (Fin n) => pre.length <= n))))) (ownFrom_below (Nat.le_refl _) (by simp; omega)))
  (fun _ _ _ _ _ hs _ _ => hs)
  ⟨⟨(bV.alloc _).alloc _, (Below.heap_alloc _ _ _ (by simp)).trans bR, bO, Nat.zero_le _⟩, hB0⟩
  (fun x => { tmps := #[.int .u64 v, .int .i64 n, .func (.func gf) #[] lb,
     .pointer (some ⟨w.heap.size, 0, none⟩), undef, undef, .string ⟨#[]⟩,
     .pointer (some ⟨w.heap.size + 1 + 1, 0, none⟩), .int .i64 x.val, .int .i64 n,
     .bool (decide ((n : Int) < 0)), .bool (decide ((n : Int) < 0)), .int .i64 n,
     .bool (decide (8 < (n : Int))), .bool (decide ((n : Int) < 0) || decide (8 < (n : Int))),
     .slice (some ⟨w.heap.size + 1, 0, none⟩) 0 8, .func (.func gf) #[] lb, .int .i64 x.val, undef,
     undef, undef, undef, undef, undef, undef, undef, undef, undef], defers := [] }) ?assign ?body ?done ?stop
 case assign =>
  intro l x W K hK
  simp only [encAt]
  gi_wp2
  exact hK
 case body =>
  rintro l pre x W ⟨⟨hV, hR, hO, hpn⟩, hB⟩ hpre
  have hx := x.isLt
  have hcV := hV.cell
  have hcO := hO.cell
  have hfO := hO.frozen
  have hcR := hR.cell pre.length (by rw [rowOf_length v pre (by omega)]; omega)
  rw [rowOf_at v pre] at hcR
  have hfR := hR.frozen pre.length
  have hw8 : IntKind.i64.wrap (8 * (x.val : Int)) = 8 * (x.val : Int) := by rw [IntKind.wrap_i64]; omega
  have hx0 : (0 : Int) <= 8 * (x.val : Int) := by omega
  have hx1 : 8 * (x.val : Int) <= 64 := by omega
  have hltO := hO.lt
  have hltR : w.heap.size + 1 < W.heap.size := by omega
  have hltV : w.heap.size < W.heap.size := by omega
  have hne1 : ¬ W.heap.size = w.heap.size + 1 := by omega
  have hmx : Tryz.prog.follows .mixedOrders = true := by kernel_rfl
  have hby : Hid (Value.int .u8 ((v : Int) / 2 ^ (8 * x.val) % 256) = byteV v x) := by rw [byteV, byteAt_cast]; rfl
  have hfin : Hid (KeepsOthers W (roundW W w.heap.size pre.length (byteV v x) (.slice (some ⟨w.heap.size + 1, 0, none⟩) (pre.length + 1) 8)) /\ Below w.heap.size W (roundW W w.heap.size pre.length (byteV v x) (.slice (some ⟨w.heap.size + 1, 0, none⟩) (pre.length + 1) 8)) /\ roundI w v (pre ++ [x]) (roundW W w.heap.size pre.length (byteV v x) (.slice (some ⟨w.heap.size + 1, 0, none⟩) (pre.length + 1) 8))) := round_end w W pre x v hV hR hO (by omega) hpre hB (by omega)
  gi_wp2
  gi_region_o
  all_goals
   rw [hby.out]
   exact hfin.out
 case done =>
  rintro D ys W hD rfl ⟨⟨hV, hR, hO, hpn⟩, hB⟩ hK
  have hcO := hO.cell
  have hconv := run_convert_bytes_back (P := Tryz.prog) W 102 9 5 ⟨w.heap.size + 1, 0, none⟩ 8 (ys.map fun x => UInt8.ofNat (byteAt v x.val)) Tryz.underlying102 Tryz.underlying5 Tryz.underlying9 (by
   intro j hj
   have hj' : j < ys.length := by simpa using hj
   have hjr : j < (rowOf v ys).length := by rw [rowOf_length v ys (by omega)]; omega
   have h := hR.cell j hjr
   have ha : (Addr.add ⟨w.heap.size + 1, 0, none⟩ j) = ⟨w.heap.size + 1, j, none⟩ := by unfold Addr.add; split <;> simp_all
   rw [ha, h]
   simp [rowOf, hj', byteV, Nat.mod_eq_of_lt (byteAt_lt _ _)])
  rw [List.length_map] at hconv
  gi_wp2
  refine ⟨by simp, .inl ⟨_, _, rfl, run_takeDeferred hK, ?_⟩⟩
  exact ⟨_, results_tmp rfl _ _ _, rfl, hB.trans (belowK_b (w := w) (Nat.le_refl _) W D _ _ (by simp at hD; omega) hK rfl rfl)⟩
 case stop =>
  rintro D c pre W _ _ h _
  exact h.elim
def leB (v : Nat) : Nat -> List UInt8
 | 0 => []
 | n + 1 => leB v n ++ [UInt8.ofNat (byteAt v n)]
theorem leB_length (v n : Nat) : (leB v n).length = n := by
 induction n with
 | zero => rfl
 | succ n ih => simp [leB, ih]
theorem leB_get (v n i : Nat) (h : i < (leB v n).length) : (leB v n)[i] = UInt8.ofNat (byteAt v i) := by
 induction n with
 | zero => simp [leB] at h
 | succ n ih =>
  simp only [leB, List.getElem_append]
  split
  ·exact ih _
  ·rename_i h2
   have h3 : i = n := by simp [leB, leB_length] at h h2; omega
   subst h3
   simp
theorem up_leB (v n k : Nat) (h : k <= n) : (upTo n k h).map (fun x => UInt8.ofNat (byteAt v x.val)) = leB v k := by
 induction k with
 | zero => rfl
 | succ k ih => simp [upTo, leB, ih]
theorem down_leB (v n : Nat) : ∀ (k : Nat) (h : k <= n), (downTo n k h).map (fun x => UInt8.ofNat (byteAt v x.val)) = (leB v n).reverse.take k
 | 0, _ => by simp [downTo]
 | k + 1, h => by
  rw [downTo, List.map_append, down_leB v n k, List.take_succ_eq_append_getElem (by simp [leB_length]; omega), List.getElem_reverse, leB_get]
  simp [leB_length]
theorem down_all (v n : Nat) : (downTo n n (Nat.le_refl _)).map (fun x => UInt8.ofNat (byteAt v x.val)) = (leB v n).reverse := by
 rw [down_leB, List.take_of_length_le (by simp [leB_length])]
def putLeS (v : Nat) (n : Int) : ByteArray := if 0 <= n /\ n <= 8 then ⟨(leB v n.toNat).toArray⟩ else ⟨#[]⟩
def putBeS (v : Nat) (n : Int) : ByteArray := if 0 <= n /\ n <= 8 then ⟨(leB v n.toNat).reverse.toArray⟩ else ⟨#[]⟩
set_option maxHeartbeats 400000 in
theorem text_low (v n : Int) (hn : n < 0) (g : Value) (w : World) :
  Calls Tryz.prog 207 #[.int .u64 v, .int .i64 n, g] w fun e w' => e = .returned (.string ⟨#[]⟩) /\ Below w.heap.size w w' := by
 go_enter Tryz.func207, Tryz.ntmps207
 go_wp2
 go_ret
 exact ⟨rfl, (Below.refl _ _).alloc (Nat.le_refl _) _⟩
set_option maxHeartbeats 400000 in
theorem text_high (v n : Int) (hn : 8 < n) (g : Value) (w : World) :
  Calls Tryz.prog 207 #[.int .u64 v, .int .i64 n, g] w fun e w' => e = .returned (.string ⟨#[]⟩) /\ Below w.heap.size w w' := by
 go_enter Tryz.func207, Tryz.ntmps207
 go_wp2
 go_ret
 exact ⟨rfl, (Below.refl _ _).alloc (Nat.le_refl _) _⟩
theorem text_up (v : Nat) (n : Int) (w0 : World) (B : Nat) (hB : B < w0.heap.size) (hc : w0.cell? ⟨B, 0, none⟩ = some (.int .i64 n)) :
  Calls Tryz.prog 207 #[.int .u64 v, .int .i64 n, .func (.func 152) #[] #[.pointer (some ⟨B, 0, none⟩)]] w0 fun e w' => e = .returned (.string (putLeS v n)) /\ Below w0.heap.size w0 w' := by
 by_cases h0 : 0 <= n
 ·by_cases h8 : n <= 8
  ·obtain ⟨k, rfl⟩ := Int.eq_ofNat_of_zero_le h0
   refine (callsIn_wide (n := 3)).1 ((text_in Fence.wide 3 152 trivial trivial rfl (by decide) (enters_of Tryz.func152 (by kernel_rfl) rfl) v k (by omega) (upTo k k (Nat.le_refl _)) _ w0 ?_).mono ?_)
   ·intro w1 hb
    exact forward_stops Fence.wide 2 trivial rfl (by decide) B w0.heap.size k (by omega) hB w1 hb.size ((hb.cell (p := ⟨B, 0, none⟩) hB).trans hc)
   ·rintro e W' ⟨rfl, hb⟩
    refine ⟨?_, hb⟩
    rw [up_leB, putLeS, if_pos ⟨h0, h8⟩, Int.toNat_natCast]
  ·rw [putLeS, if_neg (by omega)]
   exact text_high v n (by omega) _ w0
 ·rw [putLeS, if_neg (by omega)]
  exact text_low v n (by omega) _ w0
theorem text_down (v : Nat) (n : Int) (w0 : World) (B : Nat) (hB : B < w0.heap.size) (hc : w0.cell? ⟨B, 0, none⟩ = some (.int .i64 n)) :
  Calls Tryz.prog 207 #[.int .u64 v, .int .i64 n, .func (.func 219) #[] #[.pointer (some ⟨B, 0, none⟩)]] w0 fun e w' => e = .returned (.string (putBeS v n)) /\ Below w0.heap.size w0 w' := by
 by_cases h0 : 0 <= n
 ·by_cases h8 : n <= 8
  ·obtain ⟨k, rfl⟩ := Int.eq_ofNat_of_zero_le h0
   refine (callsIn_wide (n := 3)).1 ((text_in Fence.wide 3 219 trivial trivial rfl (by decide) (enters_of Tryz.func219 (by kernel_rfl) rfl) v k (by omega) (downTo k k (Nat.le_refl _)) _ w0 ?_).mono ?_)
   ·intro w1 hb
    exact backward_stops Fence.wide 2 trivial rfl (by decide) B w0.heap.size k (by omega) hB w1 hb.size ((hb.cell (p := ⟨B, 0, none⟩) hB).trans hc)
   ·rintro e W' ⟨rfl, hb⟩
    refine ⟨?_, hb⟩
    rw [down_all, putBeS, if_pos ⟨h0, h8⟩, Int.toNat_natCast]
  ·rw [putBeS, if_neg (by omega)]
   exact text_high v n (by omega) _ w0
 ·rw [putBeS, if_neg (by omega)]
  exact text_low v n (by omega) _ w0
set_option maxHeartbeats 400000 in
theorem putLe_any (v : Nat) (n : Int) (w : World) :
  Calls Tryz.prog 151 #[.int .u64 v, .int .i64 n] w fun e w' => e = .returned (.string (putLeS v n)) /\ Below w.heap.size w w' := by
 go_enter Tryz.func151, Tryz.ntmps151
 go_wp2_with fail
 refine (forward_any _ _).mono ?_
 rintro e w' ⟨rfl, rfl⟩
 go_wp2_with fail
 refine (text_up v n _ w.heap.size (by simp) (Boxed.new w 3 _).cell).mono ?_
 rintro e w' ⟨rfl, hb⟩
 go_wp2
 go_ret
 exact ⟨rfl, ((Below.refl _ _).alloc (Nat.le_refl _) _).trans (hb.mono (by simp))⟩
set_option maxHeartbeats 400000 in
theorem putBe_any (v : Nat) (n : Int) (w : World) :
  Calls Tryz.prog 199 #[.int .u64 v, .int .i64 n] w fun e w' => e = .returned (.string (putBeS v n)) /\ Below w.heap.size w w' := by
 go_enter Tryz.func199, Tryz.ntmps199
 go_wp2_with fail
 refine (backward_any _ _).mono ?_
 rintro e w' ⟨rfl, rfl⟩
 go_wp2_with fail
 refine (text_down v n _ w.heap.size (by simp) (Boxed.new w 3 _).cell).mono ?_
 rintro e w' ⟨rfl, hb⟩
 go_wp2
 go_ret
 exact ⟨rfl, ((Below.refl _ _).alloc (Nat.le_refl _) _).trans (hb.mono (by simp))⟩
end Go.Proofs.YtimfipkbddpdmaaGreatDoor.Gm.W
namespace Go.Proofs.YtimfipkbddpdmaaGreatDoor.Gm.W
open Go.RowKit Go.Shelf
attribute [local go_sem] Oper.semAt_some
def numOf (s : ByteArray) (xs : List (Fin s.size)) : Nat := xs.foldl (fun v i => v * 256 + (s[i.val]).toNat) 0
theorem numOf_snoc (s : ByteArray) (pre : List (Fin s.size)) (x : Fin s.size) : numOf s (pre ++ [x]) = numOf s pre * 256 + (s[x.val]).toNat := by
 simp [numOf]
theorem or_join (a b : Nat) (ha : a < 72057594037927936) (hb : b < 256) : bits .or .u64 (IntKind.u64.wrap ((a : Int) * 256)) (IntKind.u64.wrap (b : Int)) = ((a * 256 + b : Nat) : Int) := by
 have e1 : IntKind.u64.wrap ((a : Int) * 256) = ((a * 256 : Nat) : Int) := by rw [IntKind.wrap_u64]; omega
 have e2 : IntKind.u64.wrap (b : Int) = ((b : Nat) : Int) := by rw [IntKind.wrap_u64]; omega
 rw [e1, e2, u64_or_nat _ _ (by omega) (by omega), nat_join 8 _ _ (by omega) (by omega)]
theorem num_small (v k n : Nat) (h : v < 256 ^ k) (hk : k < n) (hn : n <= 8) : v < 72057594037927936 := by
 have h1 : 256 ^ k <= 256 ^ 7 := Nat.pow_le_pow_right (by decide) (by omega)
 have h2 : 256 ^ 7 = 72057594037927936 := by decide
 omega
set_option maxRecDepth 100000 in
set_option maxHeartbeats 1000000 in
theorem number_in (F : Fence) (m gf : Nat) (h23 : F.fn 116) (hgf : F.fn gf) (hro : F.round = none) (hm : 3 <= m) (eg : ∀ args w, (callFunc gf args).run Tryz.prog w = .ok (.enter gf args) w) (s : ByteArray) (hs : s.size <= 8) (xs : List (Fin s.size)) (lb : Array Value) (w : World)
  (hseq : ∀ w1, Below w.heap.size w w1 -> SeqStopsK F (m - 1) Tryz.prog gf lb (encAt (n := s.size)) (Below w.heap.size) (fun ys => ys = xs) (fun _ => True) s.size w1) :
  CallsIn F m Tryz.prog 116 #[.string s, .func (.func gf) #[] lb] w fun e W' => e = .returned (.int .u64 (numOf s xs : Int)) /\ Below w.heap.size w W' := by
 have h1 : 1 <= m := by omega
 refine callsIn_of_wp_marks Tryz.func116 rfl h23 ?_ hro
 simp only [Tryz.ntmps116, List.size_toArray, List.length_cons, List.length_nil, Nat.reduceAdd, Nat.reduceSub, Array.replicate_succ, Array.replicate_zero, List.push_toArray, List.append_toArray, List.nil_append, List.cons_append]
 gi_wp2
 have bS := Boxed.new w 9 (.string s)
 have bV := Boxed.new (w.alloc (.cells #[.string s] 9)) 30 (.int .u64 0)
 rw [World.size_alloc] at bV
 have hB0 : Below w.heap.size w ((w.alloc (.cells #[.string s] 9)).alloc (.cells #[.int .u64 0] 30)) := ((Below.refl _ w).alloc (Nat.le_refl _) _).alloc (by simp) _
 refine wpIn_rangeFunc_ownF hro h1 (gf := gf) (lb := lb) rfl hgf eg
  (hseq _ hB0) belowK_t (belowK_b (by simp; omega)) (Below.refl _ _) (fun _ => rfl)
  (fun pre W => (Boxed W w.heap.size 9 (.string s) /\ Boxed W (w.heap.size + 1) 30 (.int .u64 (numOf s pre : Int)) /\ numOf s pre < 256 ^ pre.length) /\ Below w.heap.size w W)
  (fun _ _ _ => False)
  (OwnFrom.and (OwnFrom.and (Own.from (boxed_own _ _ (fun _ => .string s)) _) (OwnFrom.and (Own.from (boxed_own _ _ (fun pre => .int .u64 (numOf s pre : Int))) _) (ownFrom_pure _ (fun pre => numOf s pre < 256 ^ pre.length)))) (ownFrom_below (Nat.le_refl _) (by simp; omega)))
  (fun _ _ _ _ _ hs _ _ => hs)
  ⟨⟨bS.alloc _, bV, by simp [numOf]⟩, hB0⟩
  (fun x => { tmps := #[.string s, .func (.func gf) #[] lb, .pointer (some ⟨w.heap.size, 0, none⟩), undef, .int .u64 0, .pointer (some ⟨w.heap.size + 1, 0, none⟩), .int .i64 x.val, .string s, .int .i64 s.size, .bool (decide (8 < (s.size : Int))), .func (.func gf) #[] lb, .int .i64 x.val, undef, undef, undef, undef, undef, undef, undef, undef], defers := [] }) ?assign ?body ?done ?stop
 case assign =>
  intro l x W K hK
  simp only [encAt]
  gi_wp2
  exact hK
 case body =>
  rintro l pre x W ⟨⟨hS, hV, hlt⟩, hB⟩ hpre
  have hx := x.isLt
  have hcS := hS.cell
  have hcV := hV.cell
  have hfV := hV.frozen
  have hmx : Tryz.prog.follows .mixedOrders = true := by kernel_rfl
  have hsm := num_small _ _ _ hlt hpre hs
  have hby : (s[x.val]).toNat < 256 := (s[x.val]).toNat_lt
  have hoj : Hid (bits .or .u64 (IntKind.u64.wrap ((numOf s pre : Int) * 256)) (IntKind.u64.wrap ((s[x.val]).toNat : Int)) = ((numOf s (pre ++ [x]) : Nat) : Int)) := by rw [numOf_snoc]; exact or_join _ _ hsm hby
  have hlt' : numOf s (pre ++ [x]) < 256 ^ (pre ++ [x]).length := by rw [numOf_snoc, List.length_append]; simp only [List.length_cons, List.length_nil, Nat.zero_add, Nat.pow_succ]; omega
  gi_wp2
  gi_region_o
  all_goals
   rw [hoj.out]
   exact ⟨(KeepsOthers.setCell _ _ _).trans (KeepsOthers.drew _), ((Below.refl w.heap.size W).setCell (p := ⟨w.heap.size + 1, 0, none⟩) (by simp) _).drew, ⟨hS.other (by omega) _, hV.set _, hlt'⟩, (hB.setCell (p := ⟨w.heap.size + 1, 0, none⟩) (by simp) _).drew⟩
 case done =>
  rintro D ys W hD rfl ⟨⟨hS, hV, hlt⟩, hB⟩ hK
  have hcV := hV.cell
  gi_wp2
  refine ⟨by simp, .inl ⟨_, _, rfl, run_takeDeferred hK, ?_⟩⟩
  exact ⟨_, results_tmp rfl _ _ _, rfl, hB.trans (belowK_b (w := w) (Nat.le_refl _) W D _ _ (by simp at hD; omega) hK rfl rfl)⟩
 case stop =>
  rintro D c pre W _ _ h _
  exact h.elim
def beL (l : List UInt8) : Nat := l.foldl (fun v c => v * 256 + c.toNat) 0
theorem beL_snoc (l : List UInt8) (c : UInt8) : beL (l ++ [c]) = beL l * 256 + c.toNat := by simp [beL]
theorem foldl_lt (l : List UInt8) : ∀ v : Nat, l.foldl (fun v c => v * 256 + c.toNat) v < (v + 1) * 256 ^ l.length := by
 induction l with
 | nil => intro v; simp
 | cons c m ih =>
  intro v
  have h1 := ih (v * 256 + c.toNat)
  have h2 := c.toNat_lt
  have h3 : (v * 256 + c.toNat + 1) * 256 ^ m.length <= ((v + 1) * 256) * 256 ^ m.length := Nat.mul_le_mul_right _ (by omega)
  simp only [List.foldl_cons, List.length_cons, Nat.pow_succ]
  rw [Nat.mul_comm (256 ^ m.length) 256, <- Nat.mul_assoc]
  omega
theorem beL_lt (l : List UInt8) : beL l < 256 ^ l.length := by
 have h := foldl_lt l 0
 simpa [beL] using h
theorem numOf_up (s : ByteArray) : ∀ (k : Nat) (h : k <= s.size), numOf s (upTo s.size k h) = beL (s.data.toList.take k)
 | 0, _ => rfl
 | k + 1, h => by
  rw [upTo, numOf_snoc, numOf_up s k, List.take_succ_eq_append_getElem (by simp; omega), beL_snoc]; rfl
theorem numOf_down (s : ByteArray) : ∀ (k : Nat) (h : k <= s.size), numOf s (downTo s.size k h) = beL (s.data.toList.reverse.take k)
 | 0, _ => rfl
 | k + 1, h => by
  rw [downTo, numOf_snoc, numOf_down s k, List.take_succ_eq_append_getElem (by simp; omega), beL_snoc, List.getElem_reverse]; rfl
def beS (s : ByteArray) : Nat := if s.size <= 8 then beL s.data.toList else 0
def leS (s : ByteArray) : Nat := if s.size <= 8 then beL s.data.toList.reverse else 0
set_option maxHeartbeats 400000 in
theorem number_long (s : ByteArray) (hs : 8 < s.size) (g : Value) (w : World) :
  Calls Tryz.prog 116 #[.string s, g] w fun e w' => e = .returned (.int .u64 0) /\ Below w.heap.size w w' := by
 go_enter Tryz.func116, Tryz.ntmps116
 go_wp2
 go_ret
 exact ⟨rfl, (Below.refl _ _).alloc (Nat.le_refl _) _⟩
theorem number_up (s : ByteArray) (w0 : World) (B : Nat) (hB : B < w0.heap.size) (hc : w0.cell? ⟨B, 0, none⟩ = some (.int .i64 s.size)) :
  Calls Tryz.prog 116 #[.string s, .func (.func 152) #[] #[.pointer (some ⟨B, 0, none⟩)]] w0 fun e w' => e = .returned (.int .u64 (beS s : Int)) /\ Below w0.heap.size w0 w' := by
 by_cases hs : s.size <= 8
 ·refine (callsIn_wide (n := 3)).1 ((number_in Fence.wide 3 152 trivial trivial rfl (by decide) (enters_of Tryz.func152 (by kernel_rfl) rfl) s hs (upTo s.size s.size (Nat.le_refl _)) _ w0 ?_).mono ?_)
  ·intro w1 hb
   exact forward_stops Fence.wide 2 trivial rfl (by decide) B w0.heap.size s.size (by omega) hB w1 hb.size ((hb.cell (p := ⟨B, 0, none⟩) hB).trans hc)
  ·rintro e W' ⟨rfl, hb⟩
   refine ⟨?_, hb⟩
   rw [numOf_up, beS, if_pos hs, List.take_of_length_le (by simp)]
 ·rw [beS, if_neg hs]
  exact number_long s (by omega) _ w0
theorem number_down (s : ByteArray) (w0 : World) (B : Nat) (hB : B < w0.heap.size) (hc : w0.cell? ⟨B, 0, none⟩ = some (.int .i64 s.size)) :
  Calls Tryz.prog 116 #[.string s, .func (.func 219) #[] #[.pointer (some ⟨B, 0, none⟩)]] w0 fun e w' => e = .returned (.int .u64 (leS s : Int)) /\ Below w0.heap.size w0 w' := by
 by_cases hs : s.size <= 8
 ·refine (callsIn_wide (n := 3)).1 ((number_in Fence.wide 3 219 trivial trivial rfl (by decide) (enters_of Tryz.func219 (by kernel_rfl) rfl) s hs (downTo s.size s.size (Nat.le_refl _)) _ w0 ?_).mono ?_)
  ·intro w1 hb
   exact backward_stops Fence.wide 2 trivial rfl (by decide) B w0.heap.size s.size (by omega) hB w1 hb.size ((hb.cell (p := ⟨B, 0, none⟩) hB).trans hc)
  ·rintro e W' ⟨rfl, hb⟩
   refine ⟨?_, hb⟩
   rw [numOf_down, leS, if_pos hs, List.take_of_length_le (by simp)]
 ·rw [leS, if_neg hs]
  exact number_long s (by omega) _ w0
set_option maxHeartbeats 400000 in
theorem be_any (s : ByteArray) (w : World) :
  Calls Tryz.prog 94 #[.string s] w fun e w' => e = .returned (.int .u64 (beS s : Int)) /\ Below w.heap.size w w' := by
 go_enter Tryz.func94, Tryz.ntmps94
 go_wp2_with fail
 refine (forward_any _ _).mono ?_
 rintro e w' ⟨rfl, rfl⟩
 go_wp2_with fail
 refine (number_up s _ w.heap.size (by simp) (Boxed.new w 3 _).cell).mono ?_
 rintro e w' ⟨rfl, hb⟩
 go_wp2
 go_ret
 exact ⟨rfl, ((Below.refl _ _).alloc (Nat.le_refl _) _).trans (hb.mono (by simp))⟩
set_option maxHeartbeats 400000 in
theorem le_any (s : ByteArray) (w : World) :
  Calls Tryz.prog 226 #[.string s] w fun e w' => e = .returned (.int .u64 (leS s : Int)) /\ Below w.heap.size w w' := by
 go_enter Tryz.func226, Tryz.ntmps226
 go_wp2_with fail
 refine (backward_any _ _).mono ?_
 rintro e w' ⟨rfl, rfl⟩
 go_wp2_with fail
 refine (number_down s _ w.heap.size (by simp) (Boxed.new w 3 _).cell).mono ?_
 rintro e w' ⟨rfl, hb⟩
 go_wp2
 go_ret
 exact ⟨rfl, ((Below.refl _ _).alloc (Nat.le_refl _) _).trans (hb.mono (by simp))⟩
end Go.Proofs.YtimfipkbddpdmaaGreatDoor.Gm.W
