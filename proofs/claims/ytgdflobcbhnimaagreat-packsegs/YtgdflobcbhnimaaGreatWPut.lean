/- What is proved here: the two iterators of package swap (forward, backward) hand out the places 0 to n - 1 upward and downward, for every loop body that keeps what lay below a bound. -/
import Derived.RangeFuncBox
import Derived.RangeFuncLeaves
import Derived.Shelf.Abstract
import Derived.WalkKit
import Derived.OwnWalkIn
import Derived.TacticsInMore
import Derived.LoopNIn
import Derived.LoopIn
import Derived.Test.YtgdflobcbhnimaaGreatProg
import Derived.RangeFuncNested
import Derived.Shelf.RegionOpen
namespace Go.Proofs.YtgdflobcbhnimaaGreat.W
open Go.RowKit Go.Shelf
set_option linter.unusedVariables false
set_option linter.unusedSimpArgs false
set_option maxRecDepth 100000
attribute [local go_sem] Oper.semAt_some

/-- The places n - 1 downward, k of them. -/
def downTo (n : Nat) : (k : Nat) → k ≤ n → List (Fin n)
  | 0, _ => []
  | k + 1, h => downTo n k (Nat.le_of_succ_le h) ++ [⟨n - 1 - k, by omega⟩]
theorem downTo_length (n k : Nat) (h : k ≤ n) : (downTo n k h).length = k := by
  induction k with
  | zero => rfl
  | succ k ih => simp [downTo, ih]

def encAt {n : Nat} (x : Fin n) : Array Value := #[.int .i64 (x.val : Int)]

set_option maxRecDepth 100000 in
set_option maxHeartbeats 1000000 in
theorem backward1_in (F : Fence) (m : Nat) (h28 : F.fn 126) (hro : F.round = none) (hm : 1 ≤ m) (l Bn n₀ n : Nat) (hn : n ≤ 1000000) (J Jx : List (Fin n) → World → Prop)
    (hY : ∀ pre x W, J pre W → pre.length < n → YieldAt F (m - 1) Tryz.prog l (encAt x) W fun e W' =>
      (e = .returned (.bool true) ∧ J (pre ++ [x]) W' ∧ Below n₀ W W') ∨ (e = .returned (.bool false) ∧ Jx (pre ++ [x]) W'))
    (W : World) (hBn : W.cell? ⟨Bn, 0, none⟩ = some (.int .i64 (n : Int))) (h0 : J [] W) :
    CallsIn F m Tryz.prog 126 #[.func (.yield l) #[] #[], .pointer (some ⟨Bn, 0, none⟩)] W fun e W' => (∃ v, e = .returned v) ∧
      ((∃ ys, ys = downTo n n (Nat.le_refl _) ∧ J ys W') ∨ (∃ pre, True ∧ Jx pre W')) := by
  refine callsIn_of_wp Tryz.func126 rfl h28 ?_ hro
  simp only [Tryz.ntmps126, List.size_toArray, List.length_cons, List.length_nil, Nat.reduceAdd, Nat.reduceSub, Array.replicate_succ, Array.replicate_zero, List.push_toArray, List.append_toArray, List.nil_append, List.cons_append]
  gi_wp2
  gi_loopw [3] (fun i wr => ∃ (k : Nat) (hk : k ≤ n), i = .int .i64 ((n : Int) - 1 - k) ∧ J (downTo n k hk) wr)
    (fun i _ => (intOf i + 1).toNat)
  case atStart =>
    exact ⟨0, Nat.zero_le _, by simp, h0⟩
  case round =>
    obtain ⟨k, hk, rfl, hJs⟩ := hrel
    by_cases hlt : k < n
    · obtain ⟨fn, tmps, assign, body, hy, hR⟩ := hY _ ⟨n - 1 - k, by omega⟩ wr hJs (by rw [downTo_length]; exact hlt)
      simp only [encAt] at hy
      rw [show ((n - 1 - k : Nat) : Int) = (n : Int) - 1 - k from by omega] at hy
      gi_wp2
      refine hR.mono ?_
      rintro e W3 (⟨rfl, hJ3, hk3⟩ | ⟨rfl, hJx3⟩)
      · gi_wp2
        go_roundw
        case rel => exact ⟨k + 1, hlt, by simp; omega, hJ3⟩
        case measure => simp [intOf]; omega
      · gi_wp2
        refine bodyPost_ret (results_none rfl _ _ _) rfl ?_
        exact ⟨⟨_, rfl⟩, .inr ⟨_, trivial, hJx3⟩⟩
    · obtain rfl : k = n := by omega
      gi_wp2
      go_end0
      exact ⟨⟨_, rfl⟩, .inl ⟨_, rfl, hJs⟩⟩

theorem backward_stops (F : Fence) (m : Nat) (h28 : F.fn 126) (hro : F.round = none) (hm : 1 ≤ m) (Bn n₀ n : Nat) (hn : n ≤ 1000000) (hB : Bn < n₀) (w : World) (hn₀ : n₀ ≤ w.heap.size)
    (hc : w.cell? ⟨Bn, 0, none⟩ = some (.int .i64 (n : Int))) :
    SeqStopsK F m Tryz.prog 126 #[.pointer (some ⟨Bn, 0, none⟩)] (encAt (n := n)) (Below n₀) (fun ys => ys = downTo n n (Nat.le_refl _)) (fun _ => True) n w := fun l J Jx W hW _ _ hY h0 =>
  backward1_in F m h28 hro hm l Bn n₀ n hn J Jx hY W ((hW.cell (p := ⟨Bn, 0, none⟩) (Nat.lt_of_lt_of_le hB hn₀)).trans hc) h0

set_option maxHeartbeats 400000 in
theorem backward_any (n : Int) (w : World) :
    Calls Tryz.prog 124 #[.int .i64 n] w fun e w' => e = .returned (.func (.func 126) #[] #[.pointer (some ⟨w.heap.size, 0, none⟩)]) ∧ w' = w.alloc (.cells #[.int .i64 n] 3) := by
  go_enter Tryz.func124, Tryz.ntmps124
  go_wp2
  go_ret
  exact ⟨rfl, rfl⟩

end Go.Proofs.YtgdflobcbhnimaaGreat.W
namespace Go.Proofs.YtgdflobcbhnimaaGreat.W
open Go.RowKit Go.Shelf
set_option linter.unusedVariables false
set_option linter.unusedSimpArgs false
set_option maxRecDepth 100000
attribute [local go_sem] Oper.semAt_some

/-- Byte i of a number, 0 being the lowest. -/
def byteAt (v i : Nat) : Nat := v / 2 ^ (8 * i) % 256
def byteV {n : Nat} (v : Nat) (x : Fin n) : Value := .int .u8 (byteAt v x.val : Int)
def rowOf {n : Nat} (v : Nat) (pre : List (Fin n)) : List Value := pre.map (byteV v) ++ List.replicate (8 - pre.length) (.int .u8 0)

theorem mk08 (w : World) : (Instr.makeSlice 61 (.int .i64 0) (.int .i64 8)).run Tryz.prog w = .ok (.slice (some ⟨w.heap.size, 0, none⟩) 0 8) (w.alloc (.cells #[.int .u8 0, .int .u8 0, .int .u8 0, .int .u8 0, .int .u8 0, .int .u8 0, .int .u8 0, .int .u8 0] 5)) := by kernel_rfl

/-- A block of bytes. -/
def RowAt (W : World) (B : Nat) (l : List Value) : Prop := W.heap[B]? = some (.cells l.toArray 5 (0, 0))
theorem rowAt_own {β : Type} (B : Nat) (f : β → List Value) : Own (fun s W => RowAt W B (f s)) := fun s X Y row hs hg hrow => by
  refine (hg.block B (Array.getElem?_eq_some_iff.1 hs).1 (fun e' => ?_)).trans hs
  obtain ⟨o, ho, hc⟩ := hrow B e'.symm
  rw [show X.heap[B]? = _ from hs] at ho; cases ho; cases hc
theorem RowAt.cell {W : World} {B : Nat} {l : List Value} (h : RowAt W B l) (k : Nat) (hk : k < l.length) : W.cell? ⟨B, k, none⟩ = some l[k] := by
  simp [World.cell?, show W.heap[B]? = _ from h, hk]
theorem RowAt.frozen {W : World} {B : Nat} {l : List Value} (h : RowAt W B l) (k : Nat) : W.frozen? ⟨B, k, none⟩ = false := by
  simp [World.frozen?, show W.heap[B]? = _ from h]
theorem rowOf_length {n : Nat} (v : Nat) (pre : List (Fin n)) (h : pre.length ≤ 8) : (rowOf v pre).length = 8 := by simp [rowOf]; omega
theorem rowOf_at {n : Nat} (v : Nat) (pre : List (Fin n)) (h' : pre.length < (rowOf v pre).length) : (rowOf v pre)[pre.length] = .int .u8 0 := by
  simp [rowOf]

theorem RowAt.set {W : World} {B : Nat} {l : List Value} (h : RowAt W B l) (k : Nat) (v : Value) : RowAt (W.setCell ⟨B, k, none⟩ v) B (l.set k v) := by
  obtain ⟨hlt, hk⟩ := Array.getElem?_eq_some_iff.1 h
  show (W.heap.modify B _)[B]? = _
  rw [Array.getElem?_eq_getElem (by rw [Array.size_modify]; exact hlt), Array.getElem_modify_self, hk]
  simp
theorem grownBy_setAny (W : World) (b k : Nat) (v : Value) : W.grownBy (W.setCell ⟨b, k, none⟩ v) (some b) :=
  ⟨rfl, rfl, rfl, (KeepsWalks.setCell W _ v).size, fun j _ hk => Below.heap_setCell _ _ _ j (fun e => hk (by rw [e]))⟩
theorem RowAt.kept {W W' : World} {row : Option Nat} {B : Nat} {l : List Value} (h : RowAt W B l) (hg : W.grownBy W' row) (hne : some B ≠ row) : RowAt W' B l := (hg.block B (Array.getElem?_eq_some_iff.1 h).1 hne).trans h
theorem rowOf_snoc {n : Nat} (v : Nat) (pre : List (Fin n)) (x : Fin n) (h : pre.length < 8) : (rowOf v pre).set pre.length (byteV v x) = rowOf v (pre ++ [x]) := by
  obtain ⟨r, hr⟩ : ∃ r, 8 - pre.length = r + 1 := ⟨7 - pre.length, by omega⟩
  have hr' : 8 - (pre.length + 1) = r := by omega
  simp [rowOf, hr, hr', List.replicate_succ]
theorem byteAt_cast (v i : Nat) : ((byteAt v i : Nat) : Int) = (v : Int) / 2 ^ (8 * i) % 256 := by
  simp [byteAt]
theorem byteAt_lt (v i : Nat) : byteAt v i < 256 := by unfold byteAt; omega

/-- The world behind a round: the byte stored, the slice stored, the byte's own array left over. -/
def roundW (W : World) (b k : Nat) (x s : Value) : World := (((W.setCell ⟨b + 1, k, none⟩ x).setCell ⟨b + 1 + 1, 0, none⟩ s).alloc (.cells #[x] 5)).drew
theorem roundW_keeps (W : World) (b k : Nat) (x s : Value) : KeepsOthers W (roundW W b k x s) :=
  (((KeepsOthers.setCell _ _ _).trans (KeepsOthers.setCell _ _ _)).trans (KeepsOthers.alloc _ _)).trans (KeepsOthers.drew _)
theorem roundW_below {W0 : World} (W : World) (b k : Nat) (x s : Value) (h : Below b W0 W) (hb : b ≤ W.heap.size) : Below b W0 (roundW W b k x s) :=
  (((h.setCell (p := ⟨b + 1, k, none⟩) (by simp) _).setCell (p := ⟨b + 1 + 1, 0, none⟩) (by simp; omega) _).alloc (by simpa [World.setCell] using hb) _).drew
theorem roundW_v {W : World} {b : Nat} (k : Nat) (x s v : Value) (h : Boxed W b 42 v) : Boxed (roundW W b k x s) b 42 v :=
  ((h.kept (grownBy_setAny W (b + 1) k x) (by simp)).kept (grownBy_setAny _ (b + 1 + 1) 0 s) (by simp; omega)).alloc _
theorem roundW_r {W : World} {b : Nat} {l : List Value} (k : Nat) (x s : Value) (h : RowAt W (b + 1) l) : RowAt (roundW W b k x s) (b + 1) (l.set k x) :=
  show RowAt (((W.setCell ⟨b + 1, k, none⟩ x).setCell ⟨b + 1 + 1, 0, none⟩ s).alloc (.cells #[x] 5)) (b + 1) (l.set k x) from
  ((h.set k x).kept (grownBy_setAny _ (b + 1 + 1) 0 s) (by simp)).kept (World.grownBy_alloc _ _ none) (by simp)
theorem roundW_o {W : World} {b : Nat} (k : Nat) (x s v : Value) (h : Boxed W (b + 1 + 1) 61 v) : Boxed (roundW W b k x s) (b + 1 + 1) 61 s :=
  ((h.kept (grownBy_setAny W (b + 1) k x) (by simp)).set s).alloc _

def roundI {n : Nat} (w : World) (v : Nat) (pre : List (Fin n)) (W : World) : Prop :=
  (Boxed W w.heap.size 42 (.int .u64 (v : Int)) ∧ RowAt W (w.heap.size + 1) (rowOf v pre) ∧ Boxed W (w.heap.size + 1 + 1) 61 (.slice (some ⟨w.heap.size + 1, 0, none⟩) pre.length 8) ∧ pre.length ≤ n) ∧ Below w.heap.size w W
theorem round_end {n : Nat} (w W : World) (pre : List (Fin n)) (x : Fin n) (v : Nat) (hV : Boxed W w.heap.size 42 (.int .u64 (v : Int))) (hR : RowAt W (w.heap.size + 1) (rowOf v pre)) (hO : Boxed W (w.heap.size + 1 + 1) 61 (.slice (some ⟨w.heap.size + 1, 0, none⟩) pre.length 8)) (h8 : pre.length < 8) (hpre : pre.length < n) (hB : Below w.heap.size w W) (hz : w.heap.size ≤ W.heap.size) :
    KeepsOthers W (roundW W w.heap.size pre.length (byteV v x) (.slice (some ⟨w.heap.size + 1, 0, none⟩) (pre.length + 1) 8)) ∧ Below w.heap.size W (roundW W w.heap.size pre.length (byteV v x) (.slice (some ⟨w.heap.size + 1, 0, none⟩) (pre.length + 1) 8)) ∧ roundI w v (pre ++ [x]) (roundW W w.heap.size pre.length (byteV v x) (.slice (some ⟨w.heap.size + 1, 0, none⟩) (pre.length + 1) 8)) := by
  refine ⟨roundW_keeps _ _ _ _ _, roundW_below _ _ _ _ _ (Below.refl _ _) hz, ⟨roundW_v _ _ _ _ hV, ?_, ?_, ?_⟩, roundW_below _ _ _ _ _ hB hz⟩
  · rw [← rowOf_snoc v pre x h8]; exact roundW_r _ _ _ hR
  · rw [List.length_append]; exact roundW_o _ _ _ _ hO
  · rw [List.length_append]; exact hpre

set_option maxRecDepth 100000 in
set_option maxHeartbeats 1000000 in
theorem text_in (F : Fence) (m gf : Nat) (h26 : F.fn 123) (hgf : F.fn gf) (hro : F.round = none) (hm : 3 ≤ m) (eg : ∀ args w, (callFunc gf args).run Tryz.prog w = .ok (.enter gf args) w) (v n : Nat) (hn : n ≤ 8) (xs : List (Fin n)) (lb : Array Value) (w : World)
    (hseq : ∀ w1, Below w.heap.size w w1 → SeqStopsK F (m - 1) Tryz.prog gf lb (encAt (n := n)) (Below w.heap.size) (fun ys => ys = xs) (fun _ => True) n w1) :
    CallsIn F m Tryz.prog 123 #[.int .u64 (v : Int), .int .i64 (n : Int), .func (.func gf) #[] lb] w fun e W' => e = .returned (.string ⟨(xs.map fun x => UInt8.ofNat (byteAt v x.val)).toArray⟩) ∧ Below w.heap.size w W' := by
  have h1 : 1 ≤ m := by omega
  have hmk := mk08
  refine callsIn_of_wp_marks Tryz.func123 rfl h26 ?_ hro
  simp only [Tryz.ntmps123, List.size_toArray, List.length_cons, List.length_nil, Nat.reduceAdd, Nat.reduceSub, Array.replicate_succ, Array.replicate_zero, List.push_toArray, List.append_toArray, List.nil_append, List.cons_append]
  gi_wp2
  have bV := Boxed.new w 42 (.int .u64 (v : Int))
  have hB0 : Below w.heap.size w (((w.alloc (.cells #[.int .u64 (v : Int)] 42)).alloc (.cells #[.int .u8 0, .int .u8 0, .int .u8 0, .int .u8 0, .int .u8 0, .int .u8 0, .int .u8 0, .int .u8 0] 5)).alloc (.cells #[.slice (some ⟨w.heap.size + 1, 0, none⟩) 0 8] 61)) := (((Below.refl _ w).alloc (Nat.le_refl _) _).alloc (by simp) _).alloc (by simp; omega) _
  have bR : RowAt ((w.alloc (.cells #[.int .u64 (v : Int)] 42)).alloc (.cells #[.int .u8 0, .int .u8 0, .int .u8 0, .int .u8 0, .int .u8 0, .int .u8 0, .int .u8 0, .int .u8 0] 5)) (w.heap.size + 1) (rowOf (n := n) v []) := by
    have := World.alloc_heap_new (w.alloc (.cells #[.int .u64 (v : Int)] 42)) (.cells #[.int .u8 0, .int .u8 0, .int .u8 0, .int .u8 0, .int .u8 0, .int .u8 0, .int .u8 0, .int .u8 0] 5)
    rw [World.size_alloc] at this
    exact this
  have bO := Boxed.new ((w.alloc (.cells #[.int .u64 (v : Int)] 42)).alloc (.cells #[.int .u8 0, .int .u8 0, .int .u8 0, .int .u8 0, .int .u8 0, .int .u8 0, .int .u8 0, .int .u8 0] 5)) 61 (.slice (some ⟨w.heap.size + 1, 0, none⟩) 0 8)
  rw [World.size_alloc, World.size_alloc] at bO
  refine wpIn_rangeFunc_ownF hro h1 (gf := gf) (lb := lb) rfl hgf eg
    (hseq _ hB0) belowK_t (belowK_b (by simp; omega)) (Below.refl _ _) (fun _ => rfl)
    (roundI w v)
    (fun _ _ _ => False)
    (OwnFrom.and (OwnFrom.and (Own.from (boxed_own _ _ (fun _ => .int .u64 (v : Int))) _) (OwnFrom.and (Own.from (rowAt_own _ (fun pre => rowOf v pre)) _) (OwnFrom.and (Own.from (boxed_own _ _ (fun pre : List (Fin n) => .slice (some ⟨w.heap.size + 1, 0, none⟩) pre.length 8)) _) (ownFrom_pure _ (fun pre : List (Fin n) => pre.length ≤ n))))) (ownFrom_below (Nat.le_refl _) (by simp; omega)))
    (fun _ _ _ _ _ hs _ _ => hs)
    ⟨⟨(bV.alloc _).alloc _, (Below.heap_alloc _ _ _ (by simp)).trans bR, bO, Nat.zero_le _⟩, hB0⟩
    (fun x => { tmps := #[.int .u64 (v : Int), .int .i64 (n : Int), .func (.func gf) #[] lb,
          .pointer (some ⟨w.heap.size, 0, none⟩), undef, undef, .string ⟨#[]⟩,
          .pointer (some ⟨w.heap.size + 1 + 1, 0, none⟩), .int .i64 (x.val : Int), .int .i64 (n : Int),
          .bool (decide ((n : Int) < 0)), .bool (decide ((n : Int) < 0)), .int .i64 (n : Int),
          .bool (decide (8 < (n : Int))), .bool (decide ((n : Int) < 0) || decide (8 < (n : Int))),
          .slice (some ⟨w.heap.size + 1, 0, none⟩) 0 8, .func (.func gf) #[] lb, .int .i64 (x.val : Int), undef,
          undef, undef, undef, undef, undef, undef, undef, undef, undef], defers := [] }) ?assign ?body ?done ?stop
  case assign =>
    intro l x W K hK
    simp only [encAt]
    gi_wp2
    exact hK
  case body =>
    rintro l pre x W ⟨⟨hV, hR, hO, hpn⟩, hB⟩ hpre
    have hx := x.isLt
    have hcV := hV.cell
    have hcO := hO.cell
    have hfO := hO.frozen
    have hcR := hR.cell pre.length (by rw [rowOf_length v pre (by omega)]; omega)
    rw [rowOf_at v pre] at hcR
    have hfR := hR.frozen pre.length
    have hw8 : IntKind.i64.wrap (8 * (x.val : Int)) = 8 * (x.val : Int) := by rw [IntKind.wrap_i64]; omega
    have hx0 : (0 : Int) ≤ 8 * (x.val : Int) := by omega
    have hx1 : 8 * (x.val : Int) ≤ 64 := by omega
    have hltO := hO.lt
    have hltR : w.heap.size + 1 < W.heap.size := by omega
    have hltV : w.heap.size < W.heap.size := by omega
    have hne1 : ¬ W.heap.size = w.heap.size + 1 := by omega
    have hmx : Tryz.prog.follows .mixedOrders = true := by kernel_rfl
    have hby : Hid (Value.int .u8 ((v : Int) / 2 ^ (8 * x.val) % 256) = byteV v x) := by rw [byteV, byteAt_cast]; rfl
    have hfin : Hid (KeepsOthers W (roundW W w.heap.size pre.length (byteV v x) (.slice (some ⟨w.heap.size + 1, 0, none⟩) (pre.length + 1) 8)) ∧ Below w.heap.size W (roundW W w.heap.size pre.length (byteV v x) (.slice (some ⟨w.heap.size + 1, 0, none⟩) (pre.length + 1) 8)) ∧ roundI w v (pre ++ [x]) (roundW W w.heap.size pre.length (byteV v x) (.slice (some ⟨w.heap.size + 1, 0, none⟩) (pre.length + 1) 8))) := round_end w W pre x v hV hR hO (by omega) hpre hB (by omega)
    gi_wp2
    gi_region_o
    all_goals
      rw [hby.out]
      exact hfin.out
  case done =>
    rintro D ys W hD rfl ⟨⟨hV, hR, hO, hpn⟩, hB⟩ hK
    have hcO := hO.cell
    have hconv := run_convert_bytes_back (P := Tryz.prog) W 61 9 5 ⟨w.heap.size + 1, 0, none⟩ 8 (ys.map fun x => UInt8.ofNat (byteAt v x.val)) Tryz.underlying61 Tryz.underlying5 Tryz.underlying9 (by
      intro j hj
      have hj' : j < ys.length := by simpa using hj
      have hjr : j < (rowOf v ys).length := by rw [rowOf_length v ys (by omega)]; omega
      have h := hR.cell j hjr
      have ha : (Addr.add ⟨w.heap.size + 1, 0, none⟩ j) = ⟨w.heap.size + 1, j, none⟩ := by unfold Addr.add; split <;> simp_all
      rw [ha, h]
      simp [rowOf, hj', byteV, Nat.mod_eq_of_lt (byteAt_lt _ _)])
    rw [List.length_map] at hconv
    gi_wp2
    refine ⟨by simp, .inl ⟨_, _, rfl, run_takeDeferred hK, ?_⟩⟩
    exact ⟨_, results_tmp rfl _ _ _, rfl, hB.trans (belowK_b (w := w) (Nat.le_refl _) W D _ _ (by simp at hD; omega) hK rfl rfl)⟩
  case stop =>
    rintro D c pre W _ _ h _
    exact h.elim

end Go.Proofs.YtgdflobcbhnimaaGreat.W
namespace Go.Proofs.YtgdflobcbhnimaaGreat.W
open Go.RowKit Go.Shelf
set_option linter.unusedVariables false
set_option linter.unusedSimpArgs false
set_option maxRecDepth 100000

/-- The n lowest bytes of a number, the lowest first. -/
def leB (v : Nat) : Nat → List UInt8
  | 0 => []
  | n + 1 => leB v n ++ [UInt8.ofNat (byteAt v n)]
theorem leB_length (v n : Nat) : (leB v n).length = n := by
  induction n with
  | zero => rfl
  | succ n ih => simp [leB, ih]
theorem leB_get (v n i : Nat) (h : i < (leB v n).length) : (leB v n)[i] = UInt8.ofNat (byteAt v i) := by
  induction n with
  | zero => simp [leB] at h
  | succ n ih =>
    simp only [leB, List.getElem_append]
    split
    · exact ih _
    · rename_i h2
      have h3 : i = n := by simp [leB, leB_length] at h h2; omega
      subst h3
      simp
theorem down_leB (v n : Nat) : ∀ (k : Nat) (h : k ≤ n), (downTo n k h).map (fun x => UInt8.ofNat (byteAt v x.val)) = (leB v n).reverse.take k
  | 0, _ => by simp [downTo]
  | k + 1, h => by
    rw [downTo, List.map_append, down_leB v n k, List.take_succ_eq_append_getElem (by simp [leB_length]; omega), List.getElem_reverse, leB_get]
    simp [leB_length]
theorem down_all (v n : Nat) : (downTo n n (Nat.le_refl _)).map (fun x => UInt8.ofNat (byteAt v x.val)) = (leB v n).reverse := by
  rw [down_leB, List.take_of_length_le (by simp [leB_length])]

def putBeS (v : Nat) (n : Int) : ByteArray := if 0 ≤ n ∧ n ≤ 8 then ⟨(leB v n.toNat).reverse.toArray⟩ else ⟨#[]⟩

set_option maxHeartbeats 400000 in
theorem text_low (v n : Int) (hn : n < 0) (g : Value) (w : World) :
    Calls Tryz.prog 123 #[.int .u64 v, .int .i64 n, g] w fun e w' => e = .returned (.string ⟨#[]⟩) ∧ Below w.heap.size w w' := by
  go_enter Tryz.func123, Tryz.ntmps123
  go_wp2
  go_ret
  exact ⟨rfl, (Below.refl _ _).alloc (Nat.le_refl _) _⟩
set_option maxHeartbeats 400000 in
theorem text_high (v n : Int) (hn : 8 < n) (g : Value) (w : World) :
    Calls Tryz.prog 123 #[.int .u64 v, .int .i64 n, g] w fun e w' => e = .returned (.string ⟨#[]⟩) ∧ Below w.heap.size w w' := by
  go_enter Tryz.func123, Tryz.ntmps123
  go_wp2
  go_ret
  exact ⟨rfl, (Below.refl _ _).alloc (Nat.le_refl _) _⟩

theorem text_down (v : Nat) (n : Int) (w0 : World) (B : Nat) (hB : B < w0.heap.size) (hc : w0.cell? ⟨B, 0, none⟩ = some (.int .i64 n)) :
    Calls Tryz.prog 123 #[.int .u64 (v : Int), .int .i64 n, .func (.func 126) #[] #[.pointer (some ⟨B, 0, none⟩)]] w0 fun e w' => e = .returned (.string (putBeS v n)) ∧ Below w0.heap.size w0 w' := by
  by_cases h0 : 0 ≤ n
  · by_cases h8 : n ≤ 8
    · obtain ⟨k, rfl⟩ := Int.eq_ofNat_of_zero_le h0
      refine (callsIn_wide (n := 3)).1 ((text_in Fence.wide 3 126 trivial trivial rfl (by decide) (enters_of Tryz.func126 (by kernel_rfl) rfl) v k (by omega) (downTo k k (Nat.le_refl _)) _ w0 ?_).mono ?_)
      · intro w1 hb
        exact backward_stops Fence.wide 2 trivial rfl (by decide) B w0.heap.size k (by omega) hB w1 hb.size ((hb.cell (p := ⟨B, 0, none⟩) hB).trans hc)
      · rintro e W' ⟨rfl, hb⟩
        refine ⟨?_, hb⟩
        rw [down_all, putBeS, if_pos ⟨h0, h8⟩, Int.toNat_natCast]
    · rw [putBeS, if_neg (by omega)]
      exact text_high v n (by omega) _ w0
  · rw [putBeS, if_neg (by omega)]
    exact text_low v n (by omega) _ w0

set_option maxHeartbeats 400000 in

set_option maxHeartbeats 400000 in
theorem putBe_any (v : Nat) (n : Int) (w : World) :
    Calls Tryz.prog 116 #[.int .u64 (v : Int), .int .i64 n] w fun e w' => e = .returned (.string (putBeS v n)) ∧ Below w.heap.size w w' := by
  go_enter Tryz.func116, Tryz.ntmps116
  go_wp2_with fail
  refine (backward_any _ _).mono ?_
  rintro e w' ⟨rfl, rfl⟩
  go_wp2_with fail
  refine (text_down v n _ w.heap.size (by simp) (Boxed.new w 3 _).cell).mono ?_
  rintro e w' ⟨rfl, hb⟩
  go_wp2
  go_ret
  exact ⟨rfl, ((Below.refl _ _).alloc (Nat.le_refl _) _).trans (hb.mono (by simp))⟩

end Go.Proofs.YtgdflobcbhnimaaGreat.W
namespace Go.Proofs.YtgdflobcbhnimaaGreat.W
open Go.RowKit Go.Shelf
set_option linter.unusedVariables false
set_option linter.unusedSimpArgs false
set_option maxRecDepth 100000
attribute [local go_sem] Oper.semAt_some

end Go.Proofs.YtgdflobcbhnimaaGreat.W
namespace Go.Proofs.YtgdflobcbhnimaaGreat.W
open Go.RowKit Go.Shelf
set_option linter.unusedVariables false
set_option linter.unusedSimpArgs false
set_option maxRecDepth 100000

/-- The number of some bytes, the highest first. -/
def beL (l : List UInt8) : Nat := l.foldl (fun v c => v * 256 + c.toNat) 0
theorem beL_snoc (l : List UInt8) (c : UInt8) : beL (l ++ [c]) = beL l * 256 + c.toNat := by simp [beL]
theorem foldl_lt (l : List UInt8) : ∀ v : Nat, l.foldl (fun v c => v * 256 + c.toNat) v < (v + 1) * 256 ^ l.length := by
  induction l with
  | nil => intro v; simp
  | cons c m ih =>
    intro v
    have h1 := ih (v * 256 + c.toNat)
    have h2 := c.toNat_lt
    have h3 : (v * 256 + c.toNat + 1) * 256 ^ m.length ≤ ((v + 1) * 256) * 256 ^ m.length := Nat.mul_le_mul_right _ (by omega)
    simp only [List.foldl_cons, List.length_cons, Nat.pow_succ]
    rw [Nat.mul_comm (256 ^ m.length) 256, ← Nat.mul_assoc]
    omega
theorem beL_lt (l : List UInt8) : beL l < 256 ^ l.length := by
  have h := foldl_lt l 0
  simpa [beL] using h

def beS (s : ByteArray) : Nat := if s.size ≤ 8 then beL s.data.toList else 0
end Go.Proofs.YtgdflobcbhnimaaGreat.W
