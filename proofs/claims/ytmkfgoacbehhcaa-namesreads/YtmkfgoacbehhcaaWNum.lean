/- What is proved here: swap.number joins the bytes at the places that an iterator hands out. -/
import Derived.RangeFuncNested
import Derived.Shelf.RegionOpen
import Derived.Test.YtmkfgoacbehhcaaWIter
namespace Go.Proofs.Ytmkfgoacbehhcaa.W
open Go.RowKit Go.Shelf
set_option linter.unusedVariables false
set_option linter.unusedSimpArgs false
set_option maxRecDepth 100000
attribute [local go_sem] Oper.semAt_some

def numOf (s : ByteArray) (xs : List (Fin s.size)) : Nat := xs.foldl (fun v i => v * 256 + (s[i.val]).toNat) 0

theorem numOf_snoc (s : ByteArray) (pre : List (Fin s.size)) (x : Fin s.size) : numOf s (pre ++ [x]) = numOf s pre * 256 + (s[x.val]).toNat := by
  simp [numOf]
theorem or_join (a b : Nat) (ha : a < 72057594037927936) (hb : b < 256) : bits .or .u64 (IntKind.u64.wrap ((a : Int) * 256)) (IntKind.u64.wrap (b : Int)) = ((a * 256 + b : Nat) : Int) := by
  have e1 : IntKind.u64.wrap ((a : Int) * 256) = ((a * 256 : Nat) : Int) := by rw [IntKind.wrap_u64]; omega
  have e2 : IntKind.u64.wrap (b : Int) = ((b : Nat) : Int) := by rw [IntKind.wrap_u64]; omega
  rw [e1, e2, u64_or_nat _ _ (by omega) (by omega), nat_join 8 _ _ (by omega) (by omega)]
theorem num_small (v k n : Nat) (h : v < 256 ^ k) (hk : k < n) (hn : n ≤ 8) : v < 72057594037927936 := by
  have h1 : 256 ^ k ≤ 256 ^ 7 := Nat.pow_le_pow_right (by decide) (by omega)
  have h2 : 256 ^ 7 = 72057594037927936 := by decide
  omega

set_option maxRecDepth 100000 in
set_option maxHeartbeats 1000000 in
theorem number_in (F : Fence) (m gf : Nat) (h23 : F.fn 46) (hgf : F.fn gf) (hro : F.round = none) (hm : 3 ≤ m) (eg : ∀ args w, (callFunc gf args).run Try.prog w = .ok (.enter gf args) w) (s : ByteArray) (hs : s.size ≤ 8) (xs : List (Fin s.size)) (lb : Array Value) (w : World)
    (hseq : ∀ w1, Below w.heap.size w w1 → SeqStopsK F (m - 1) Try.prog gf lb (encAt (n := s.size)) (Below w.heap.size) (fun ys => ys = xs) (fun _ => True) s.size w1) :
    CallsIn F m Try.prog 46 #[.string s, .func (.func gf) #[] lb] w fun e W' => e = .returned (.int .u64 (numOf s xs : Int)) ∧ Below w.heap.size w W' := by
  have h1 : 1 ≤ m := by omega
  refine callsIn_of_wp_marks Try.func46 rfl h23 ?_ hro
  simp only [Try.ntmps46, List.size_toArray, List.length_cons, List.length_nil, Nat.reduceAdd, Nat.reduceSub, Array.replicate_succ, Array.replicate_zero, List.push_toArray, List.append_toArray, List.nil_append, List.cons_append]
  gi_wp2
  have bS := Boxed.new w 9 (.string s)
  have bV := Boxed.new (w.alloc (.cells #[.string s] 9)) 44 (.int .u64 0)
  rw [World.size_alloc] at bV
  have hB0 : Below w.heap.size w ((w.alloc (.cells #[.string s] 9)).alloc (.cells #[.int .u64 0] 44)) := ((Below.refl _ w).alloc (Nat.le_refl _) _).alloc (by simp) _
  refine wpIn_rangeFunc_ownF hro h1 (gf := gf) (lb := lb) rfl hgf eg
    (hseq _ hB0) belowK_t (belowK_b (by simp; omega)) (Below.refl _ _) (fun _ => rfl)
    (fun pre W => (Boxed W w.heap.size 9 (.string s) ∧ Boxed W (w.heap.size + 1) 44 (.int .u64 (numOf s pre : Int)) ∧ numOf s pre < 256 ^ pre.length) ∧ Below w.heap.size w W)
    (fun _ _ _ => False)
    (OwnFrom.and (OwnFrom.and (Own.from (boxed_own _ _ (fun _ => .string s)) _) (OwnFrom.and (Own.from (boxed_own _ _ (fun pre => .int .u64 (numOf s pre : Int))) _) (ownFrom_pure _ (fun pre => numOf s pre < 256 ^ pre.length)))) (ownFrom_below (Nat.le_refl _) (by simp; omega)))
    (fun _ _ _ _ _ hs _ _ => hs)
    ⟨⟨bS.alloc _, bV, by simp [numOf]⟩, hB0⟩
    (fun x => { tmps := #[.string s, .func (.func gf) #[] lb, .pointer (some ⟨w.heap.size, 0, none⟩), undef, .int .u64 0, .pointer (some ⟨w.heap.size + 1, 0, none⟩), .int .i64 (x.val : Int), .string s, .int .i64 (s.size : Int), .bool (decide (8 < (s.size : Int))), .func (.func gf) #[] lb, .int .i64 (x.val : Int), undef, undef, undef, undef, undef, undef, undef, undef], defers := [] }) ?assign ?body ?done ?stop
  case assign =>
    intro l x W K hK
    simp only [encAt]
    gi_wp2
    exact hK
  case body =>
    rintro l pre x W ⟨⟨hS, hV, hlt⟩, hB⟩ hpre
    have hx := x.isLt
    have hcS := hS.cell
    have hcV := hV.cell
    have hfV := hV.frozen
    have hmx : Try.prog.follows .mixedOrders = true := by kernel_rfl
    have hsm := num_small _ _ _ hlt hpre hs
    have hby : (s[x.val]).toNat < 256 := (s[x.val]).toNat_lt
    have hoj : Hid (bits .or .u64 (IntKind.u64.wrap ((numOf s pre : Int) * 256)) (IntKind.u64.wrap ((s[x.val]).toNat : Int)) = ((numOf s (pre ++ [x]) : Nat) : Int)) := by rw [numOf_snoc]; exact or_join _ _ hsm hby
    have hlt' : numOf s (pre ++ [x]) < 256 ^ (pre ++ [x]).length := by rw [numOf_snoc, List.length_append]; simp only [List.length_cons, List.length_nil, Nat.zero_add, Nat.pow_succ]; omega
    gi_wp2
    gi_region_o
    all_goals
      rw [hoj.out]
      exact ⟨(KeepsOthers.setCell _ _ _).trans (KeepsOthers.drew _), ((Below.refl w.heap.size W).setCell (p := ⟨w.heap.size + 1, 0, none⟩) (by simp) _).drew, ⟨hS.other (by omega) _, hV.set _, hlt'⟩, (hB.setCell (p := ⟨w.heap.size + 1, 0, none⟩) (by simp) _).drew⟩
  case done =>
    rintro D ys W hD rfl ⟨⟨hS, hV, hlt⟩, hB⟩ hK
    have hcV := hV.cell
    gi_wp2
    refine ⟨by simp, .inl ⟨_, _, rfl, run_takeDeferred hK, ?_⟩⟩
    exact ⟨_, results_tmp rfl _ _ _, rfl, hB.trans (belowK_b (w := w) (Nat.le_refl _) W D _ _ (by simp at hD; omega) hK rfl rfl)⟩
  case stop =>
    rintro D c pre W _ _ h _
    exact h.elim

end Go.Proofs.Ytmkfgoacbehhcaa.W
