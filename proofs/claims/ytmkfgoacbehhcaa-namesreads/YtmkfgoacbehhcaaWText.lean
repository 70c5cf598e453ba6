/- What is proved here: swap.text parts a number into its bytes at the places that an iterator hands out. -/
import Derived.RangeFuncNested
import Derived.Shelf.RegionOpen
import Derived.Test.YtmkfgoacbehhcaaWIter
namespace Go.Proofs.Ytmkfgoacbehhcaa.W
open Go.RowKit Go.Shelf
set_option linter.unusedVariables false
set_option linter.unusedSimpArgs false
set_option maxRecDepth 100000
attribute [local go_sem] Oper.semAt_some

/-- Byte i of a number, 0 being the lowest. -/
def byteAt (v i : Nat) : Nat := v / 2 ^ (8 * i) % 256
def byteV {n : Nat} (v : Nat) (x : Fin n) : Value := .int .u8 (byteAt v x.val : Int)
def rowOf {n : Nat} (v : Nat) (pre : List (Fin n)) : List Value := pre.map (byteV v) ++ List.replicate (8 - pre.length) (.int .u8 0)

theorem mk08 (w : World) : (Instr.makeSlice 46 (.int .i64 0) (.int .i64 8)).run Try.prog w = .ok (.slice (some ⟨w.heap.size, 0, none⟩) 0 8) (w.alloc (.cells #[.int .u8 0, .int .u8 0, .int .u8 0, .int .u8 0, .int .u8 0, .int .u8 0, .int .u8 0, .int .u8 0] 5)) := by kernel_rfl

/-- A block of bytes. -/
def RowAt (W : World) (B : Nat) (l : List Value) : Prop := W.heap[B]? = some (.cells l.toArray 5 (0, 0))
theorem rowAt_own {β : Type} (B : Nat) (f : β → List Value) : Own (fun s W => RowAt W B (f s)) := fun s X Y row hs hg hrow => by
  refine (hg.block B (Array.getElem?_eq_some_iff.1 hs).1 (fun e' => ?_)).trans hs
  obtain ⟨o, ho, hc⟩ := hrow B e'.symm
  rw [show X.heap[B]? = _ from hs] at ho; cases ho; cases hc
theorem RowAt.cell {W : World} {B : Nat} {l : List Value} (h : RowAt W B l) (k : Nat) (hk : k < l.length) : W.cell? ⟨B, k, none⟩ = some l[k] := by
  simp [World.cell?, show W.heap[B]? = _ from h, hk]
theorem RowAt.frozen {W : World} {B : Nat} {l : List Value} (h : RowAt W B l) (k : Nat) : W.frozen? ⟨B, k, none⟩ = false := by
  simp [World.frozen?, show W.heap[B]? = _ from h]
theorem rowOf_length {n : Nat} (v : Nat) (pre : List (Fin n)) (h : pre.length ≤ 8) : (rowOf v pre).length = 8 := by simp [rowOf]; omega
theorem rowOf_at {n : Nat} (v : Nat) (pre : List (Fin n)) (h' : pre.length < (rowOf v pre).length) : (rowOf v pre)[pre.length] = .int .u8 0 := by
  simp [rowOf]

theorem RowAt.set {W : World} {B : Nat} {l : List Value} (h : RowAt W B l) (k : Nat) (v : Value) : RowAt (W.setCell ⟨B, k, none⟩ v) B (l.set k v) := by
  obtain ⟨hlt, hk⟩ := Array.getElem?_eq_some_iff.1 h
  show (W.heap.modify B _)[B]? = _
  rw [Array.getElem?_eq_getElem (by rw [Array.size_modify]; exact hlt), Array.getElem_modify_self, hk]
  simp
theorem grownBy_setAny (W : World) (b k : Nat) (v : Value) : W.grownBy (W.setCell ⟨b, k, none⟩ v) (some b) :=
  ⟨rfl, rfl, rfl, (KeepsWalks.setCell W _ v).size, fun j _ hk => Below.heap_setCell _ _ _ j (fun e => hk (by rw [e]))⟩
theorem RowAt.kept {W W' : World} {row : Option Nat} {B : Nat} {l : List Value} (h : RowAt W B l) (hg : W.grownBy W' row) (hne : some B ≠ row) : RowAt W' B l := (hg.block B (Array.getElem?_eq_some_iff.1 h).1 hne).trans h
theorem rowOf_snoc {n : Nat} (v : Nat) (pre : List (Fin n)) (x : Fin n) (h : pre.length < 8) : (rowOf v pre).set pre.length (byteV v x) = rowOf v (pre ++ [x]) := by
  obtain ⟨r, hr⟩ : ∃ r, 8 - pre.length = r + 1 := ⟨7 - pre.length, by omega⟩
  have hr' : 8 - (pre.length + 1) = r := by omega
  simp [rowOf, hr, hr', List.replicate_succ]
theorem byteAt_cast (v i : Nat) : ((byteAt v i : Nat) : Int) = (v : Int) / 2 ^ (8 * i) % 256 := by
  simp [byteAt]
theorem byteAt_lt (v i : Nat) : byteAt v i < 256 := by unfold byteAt; omega

/-- The world behind a round: the byte stored, the slice stored, the byte's own array left over. -/
def roundW (W : World) (b k : Nat) (x s : Value) : World := (((W.setCell ⟨b + 1, k, none⟩ x).setCell ⟨b + 1 + 1, 0, none⟩ s).alloc (.cells #[x] 5)).drew
theorem roundW_keeps (W : World) (b k : Nat) (x s : Value) : KeepsOthers W (roundW W b k x s) :=
  (((KeepsOthers.setCell _ _ _).trans (KeepsOthers.setCell _ _ _)).trans (KeepsOthers.alloc _ _)).trans (KeepsOthers.drew _)
theorem roundW_below {W0 : World} (W : World) (b k : Nat) (x s : Value) (h : Below b W0 W) (hb : b ≤ W.heap.size) : Below b W0 (roundW W b k x s) :=
  (((h.setCell (p := ⟨b + 1, k, none⟩) (by simp) _).setCell (p := ⟨b + 1 + 1, 0, none⟩) (by simp; omega) _).alloc (by simpa [World.setCell] using hb) _).drew
theorem roundW_v {W : World} {b : Nat} (k : Nat) (x s v : Value) (h : Boxed W b 44 v) : Boxed (roundW W b k x s) b 44 v :=
  ((h.kept (grownBy_setAny W (b + 1) k x) (by simp)).kept (grownBy_setAny _ (b + 1 + 1) 0 s) (by simp; omega)).alloc _
theorem roundW_r {W : World} {b : Nat} {l : List Value} (k : Nat) (x s : Value) (h : RowAt W (b + 1) l) : RowAt (roundW W b k x s) (b + 1) (l.set k x) :=
  show RowAt (((W.setCell ⟨b + 1, k, none⟩ x).setCell ⟨b + 1 + 1, 0, none⟩ s).alloc (.cells #[x] 5)) (b + 1) (l.set k x) from
  ((h.set k x).kept (grownBy_setAny _ (b + 1 + 1) 0 s) (by simp)).kept (World.grownBy_alloc _ _ none) (by simp)
theorem roundW_o {W : World} {b : Nat} (k : Nat) (x s v : Value) (h : Boxed W (b + 1 + 1) 46 v) : Boxed (roundW W b k x s) (b + 1 + 1) 46 s :=
  ((h.kept (grownBy_setAny W (b + 1) k x) (by simp)).set s).alloc _

def roundI {n : Nat} (w : World) (v : Nat) (pre : List (Fin n)) (W : World) : Prop :=
  (Boxed W w.heap.size 44 (.int .u64 (v : Int)) ∧ RowAt W (w.heap.size + 1) (rowOf v pre) ∧ Boxed W (w.heap.size + 1 + 1) 46 (.slice (some ⟨w.heap.size + 1, 0, none⟩) pre.length 8) ∧ pre.length ≤ n) ∧ Below w.heap.size w W
theorem round_end {n : Nat} (w W : World) (pre : List (Fin n)) (x : Fin n) (v : Nat) (hV : Boxed W w.heap.size 44 (.int .u64 (v : Int))) (hR : RowAt W (w.heap.size + 1) (rowOf v pre)) (hO : Boxed W (w.heap.size + 1 + 1) 46 (.slice (some ⟨w.heap.size + 1, 0, none⟩) pre.length 8)) (h8 : pre.length < 8) (hpre : pre.length < n) (hB : Below w.heap.size w W) (hz : w.heap.size ≤ W.heap.size) :
    KeepsOthers W (roundW W w.heap.size pre.length (byteV v x) (.slice (some ⟨w.heap.size + 1, 0, none⟩) (pre.length + 1) 8)) ∧ Below w.heap.size W (roundW W w.heap.size pre.length (byteV v x) (.slice (some ⟨w.heap.size + 1, 0, none⟩) (pre.length + 1) 8)) ∧ roundI w v (pre ++ [x]) (roundW W w.heap.size pre.length (byteV v x) (.slice (some ⟨w.heap.size + 1, 0, none⟩) (pre.length + 1) 8)) := by
  refine ⟨roundW_keeps _ _ _ _ _, roundW_below _ _ _ _ _ (Below.refl _ _) hz, ⟨roundW_v _ _ _ _ hV, ?_, ?_, ?_⟩, roundW_below _ _ _ _ _ hB hz⟩
  · rw [← rowOf_snoc v pre x h8]; exact roundW_r _ _ _ hR
  · rw [List.length_append]; exact roundW_o _ _ _ _ hO
  · rw [List.length_append]; exact hpre

set_option maxRecDepth 100000 in
set_option maxHeartbeats 1000000 in
theorem text_in (F : Fence) (m gf : Nat) (h26 : F.fn 54) (hgf : F.fn gf) (hro : F.round = none) (hm : 3 ≤ m) (eg : ∀ args w, (callFunc gf args).run Try.prog w = .ok (.enter gf args) w) (v n : Nat) (hn : n ≤ 8) (xs : List (Fin n)) (lb : Array Value) (w : World)
    (hseq : ∀ w1, Below w.heap.size w w1 → SeqStopsK F (m - 1) Try.prog gf lb (encAt (n := n)) (Below w.heap.size) (fun ys => ys = xs) (fun _ => True) n w1) :
    CallsIn F m Try.prog 54 #[.int .u64 (v : Int), .int .i64 (n : Int), .func (.func gf) #[] lb] w fun e W' => e = .returned (.string ⟨(xs.map fun x => UInt8.ofNat (byteAt v x.val)).toArray⟩) ∧ Below w.heap.size w W' := by
  have h1 : 1 ≤ m := by omega
  have hmk := mk08
  refine callsIn_of_wp_marks Try.func54 rfl h26 ?_ hro
  simp only [Try.ntmps54, List.size_toArray, List.length_cons, List.length_nil, Nat.reduceAdd, Nat.reduceSub, Array.replicate_succ, Array.replicate_zero, List.push_toArray, List.append_toArray, List.nil_append, List.cons_append]
  gi_wp2
  have bV := Boxed.new w 44 (.int .u64 (v : Int))
  have hB0 : Below w.heap.size w (((w.alloc (.cells #[.int .u64 (v : Int)] 44)).alloc (.cells #[.int .u8 0, .int .u8 0, .int .u8 0, .int .u8 0, .int .u8 0, .int .u8 0, .int .u8 0, .int .u8 0] 5)).alloc (.cells #[.slice (some ⟨w.heap.size + 1, 0, none⟩) 0 8] 46)) := (((Below.refl _ w).alloc (Nat.le_refl _) _).alloc (by simp) _).alloc (by simp; omega) _
  have bR : RowAt ((w.alloc (.cells #[.int .u64 (v : Int)] 44)).alloc (.cells #[.int .u8 0, .int .u8 0, .int .u8 0, .int .u8 0, .int .u8 0, .int .u8 0, .int .u8 0, .int .u8 0] 5)) (w.heap.size + 1) (rowOf (n := n) v []) := by
    have := World.alloc_heap_new (w.alloc (.cells #[.int .u64 (v : Int)] 44)) (.cells #[.int .u8 0, .int .u8 0, .int .u8 0, .int .u8 0, .int .u8 0, .int .u8 0, .int .u8 0, .int .u8 0] 5)
    rw [World.size_alloc] at this
    exact this
  have bO := Boxed.new ((w.alloc (.cells #[.int .u64 (v : Int)] 44)).alloc (.cells #[.int .u8 0, .int .u8 0, .int .u8 0, .int .u8 0, .int .u8 0, .int .u8 0, .int .u8 0, .int .u8 0] 5)) 46 (.slice (some ⟨w.heap.size + 1, 0, none⟩) 0 8)
  rw [World.size_alloc, World.size_alloc] at bO
  refine wpIn_rangeFunc_ownF hro h1 (gf := gf) (lb := lb) rfl hgf eg
    (hseq _ hB0) belowK_t (belowK_b (by simp; omega)) (Below.refl _ _) (fun _ => rfl)
    (roundI w v)
    (fun _ _ _ => False)
    (OwnFrom.and (OwnFrom.and (Own.from (boxed_own _ _ (fun _ => .int .u64 (v : Int))) _) (OwnFrom.and (Own.from (rowAt_own _ (fun pre => rowOf v pre)) _) (OwnFrom.and (Own.from (boxed_own _ _ (fun pre : List (Fin n) => .slice (some ⟨w.heap.size + 1, 0, none⟩) pre.length 8)) _) (ownFrom_pure _ (fun pre : List (Fin n) => pre.length ≤ n))))) (ownFrom_below (Nat.le_refl _) (by simp; omega)))
    (fun _ _ _ _ _ hs _ _ => hs)
    ⟨⟨(bV.alloc _).alloc _, (Below.heap_alloc _ _ _ (by simp)).trans bR, bO, Nat.zero_le _⟩, hB0⟩
    (fun x => { tmps := #[.int .u64 (v : Int), .int .i64 (n : Int), .func (.func gf) #[] lb,
          .pointer (some ⟨w.heap.size, 0, none⟩), undef, undef, .string ⟨#[]⟩,
          .pointer (some ⟨w.heap.size + 1 + 1, 0, none⟩), .int .i64 (x.val : Int), .int .i64 (n : Int),
          .bool (decide ((n : Int) < 0)), .bool (decide ((n : Int) < 0)), .int .i64 (n : Int),
          .bool (decide (8 < (n : Int))), .bool (decide ((n : Int) < 0) || decide (8 < (n : Int))),
          .slice (some ⟨w.heap.size + 1, 0, none⟩) 0 8, .func (.func gf) #[] lb, .int .i64 (x.val : Int), undef,
          undef, undef, undef, undef, undef, undef, undef, undef, undef], defers := [] }) ?assign ?body ?done ?stop
  case assign =>
    intro l x W K hK
    simp only [encAt]
    gi_wp2
    exact hK
  case body =>
    rintro l pre x W ⟨⟨hV, hR, hO, hpn⟩, hB⟩ hpre
    have hx := x.isLt
    have hcV := hV.cell
    have hcO := hO.cell
    have hfO := hO.frozen
    have hcR := hR.cell pre.length (by rw [rowOf_length v pre (by omega)]; omega)
    rw [rowOf_at v pre] at hcR
    have hfR := hR.frozen pre.length
    have hw8 : IntKind.i64.wrap (8 * (x.val : Int)) = 8 * (x.val : Int) := by rw [IntKind.wrap_i64]; omega
    have hx0 : (0 : Int) ≤ 8 * (x.val : Int) := by omega
    have hx1 : 8 * (x.val : Int) ≤ 64 := by omega
    have hltO := hO.lt
    have hltR : w.heap.size + 1 < W.heap.size := by omega
    have hltV : w.heap.size < W.heap.size := by omega
    have hne1 : ¬ W.heap.size = w.heap.size + 1 := by omega
    have hmx : Try.prog.follows .mixedOrders = true := by kernel_rfl
    have hby : Hid (Value.int .u8 ((v : Int) / 2 ^ (8 * x.val) % 256) = byteV v x) := by rw [byteV, byteAt_cast]; rfl
    have hfin : Hid (KeepsOthers W (roundW W w.heap.size pre.length (byteV v x) (.slice (some ⟨w.heap.size + 1, 0, none⟩) (pre.length + 1) 8)) ∧ Below w.heap.size W (roundW W w.heap.size pre.length (byteV v x) (.slice (some ⟨w.heap.size + 1, 0, none⟩) (pre.length + 1) 8)) ∧ roundI w v (pre ++ [x]) (roundW W w.heap.size pre.length (byteV v x) (.slice (some ⟨w.heap.size + 1, 0, none⟩) (pre.length + 1) 8))) := round_end w W pre x v hV hR hO (by omega) hpre hB (by omega)
    gi_wp2
    gi_region_o
    all_goals
      rw [hby.out]
      exact hfin.out
  case done =>
    rintro D ys W hD rfl ⟨⟨hV, hR, hO, hpn⟩, hB⟩ hK
    have hcO := hO.cell
    have hconv := run_convert_bytes_back (P := Try.prog) W 46 9 5 ⟨w.heap.size + 1, 0, none⟩ 8 (ys.map fun x => UInt8.ofNat (byteAt v x.val)) Try.underlying46 Try.underlying5 Try.underlying9 (by
      intro j hj
      have hj' : j < ys.length := by simpa using hj
      have hjr : j < (rowOf v ys).length := by rw [rowOf_length v ys (by omega)]; omega
      have h := hR.cell j hjr
      have ha : (Addr.add ⟨w.heap.size + 1, 0, none⟩ j) = ⟨w.heap.size + 1, j, none⟩ := by unfold Addr.add; split <;> simp_all
      rw [ha, h]
      simp [rowOf, hj', byteV, Nat.mod_eq_of_lt (byteAt_lt _ _)])
    rw [List.length_map] at hconv
    gi_wp2
    refine ⟨by simp, .inl ⟨_, _, rfl, run_takeDeferred hK, ?_⟩⟩
    exact ⟨_, results_tmp rfl _ _ _, rfl, hB.trans (belowK_b (w := w) (Nat.le_refl _) W D _ _ (by simp at hD; omega) hK rfl rfl)⟩
  case stop =>
    rintro D c pre W _ _ h _
    exact h.elim

end Go.Proofs.Ytmkfgoacbehhcaa.W
