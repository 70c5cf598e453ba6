/- What is proved here: Load. -/
import Derived.Test.YtolmcbnammhjjaaFF
import Derived.Test.YtolmcbnammhjjaaBitsOf
import Derived.Test.YtolmcbnammhjjaaSmall
import Derived.Deep.RegionHeld3
namespace Go.Proofs.Ytolmcbnammhjjaa
open Go.RowKit
set_option linter.unusedVariables false
theorem results_tmp_cell {fn : Func} {p u : Tmp} {ty : TypeId} (h : fn.results = #[.tmp u, .cell p ty]) (tmps : Array Value) (P : Program) (w : World) :
    (results fn tmps).run P w = ((asAddr (tmps.getD p undef)).run P w).andThen fun a w₁ => ((loadVar ty a).run P w₁).andThen fun v w₂ => .ok (.tuple #[tmps.getD u undef, v]) w₂ := by
  simp only [results, h]
  simp [Sem.run_bind, Result.andThen]
/-- A cell's word. -/
def wordN (cs : List (Nat × Int)) (a : Nat) : Nat := (wordOf cs a).toNat
/-- Words of 64 bits. -/
def Words (cs : List (Nat × Int)) : Prop := ∀ x ∈ cs, 0 ≤ x.2 ∧ x.2 < 18446744073709551616
theorem wordN_lt (cs : List (Nat × Int)) (h : Words cs) (a : Nat) : wordN cs a < 18446744073709551616 := by
  unfold wordN wordOf
  split
  · rename_i x hx
    have := h x (List.mem_of_find?_eq_some hx)
    omega
  · decide
theorem wordOf_eq (cs : List (Nat × Int)) (h : Words cs) (a : Nat) : wordOf cs a = ((wordN cs a : Nat) : Int) := by
  unfold wordN wordOf
  split
  · rename_i x hx
    have := h x (List.mem_of_find?_eq_some hx)
    omega
  · decide
/-- Where a cell begins. -/
def cellOf (a : Nat) : Nat := a - a % 8
theorem cellOf_facts (a : Nat) : cellOf a % 8 = 0 ∧ cellOf a ≤ a ∧ a ≤ cellOf a + 7 := by unfold cellOf; omega
/-- The part of a word that a number of bytes takes, at its place. -/
def lowPart (cs : List (Nat × Int)) (a last : Nat) : Nat := (wordN cs (cellOf a) &&& maskOf (max a (cellOf a) - cellOf a) (min last (cellOf a + 7) - cellOf a)) / 2 ^ (8 * (a - cellOf a))
def highPart (cs : List (Nat × Int)) (a last : Nat) : Nat := (wordN cs (cellOf last) &&& maskOf (max a (cellOf last) - cellOf last) (min last (cellOf last + 7) - cellOf last)) * 2 ^ (8 * (cellOf last - a)) % 18446744073709551616
/-- The number of n bytes. -/
def loadN (cs : List (Nat × Int)) (a n : Nat) : Nat :=
  if cellOf (a + n - 1) = cellOf a then lowPart cs a (a + n - 1) else lowPart cs a (a + n - 1) ||| highPart cs a (a + n - 1)
theorem faultFrom_kind (ms : List (Nat × Int)) (a : Nat) (need : Int) : ∀ (m i : Nat), (faultFrom ms a need i m).1 = 0 → faultFrom ms a need i m = (0, 0) ∧ ∀ j, i ≤ j → j < i + m → faultK ms a j need = 0
  | 0, i, _ => ⟨rfl, fun j h1 h2 => by omega⟩
  | m + 1, i, h => by
    rw [faultFrom] at h ⊢
    split at h
    · rename_i h0
      rw [if_pos h0]
      obtain ⟨e, g⟩ := faultFrom_kind ms a need m (i + 1) h
      refine ⟨e, fun j h1 h2 => ?_⟩
      by_cases ej : j = i
      · subst ej; exact h0
      · exact g j (by omega) (by omega)
    · rename_i h0; exact absurd h h0
theorem faultK_lt (ms : List (Nat × Int)) (a j : Nat) (need : Int) (h : faultK ms a j need = 0) : a + j < 18446744073709551616 := by
  unfold faultK at h
  split at h
  · simp at h
  · split at h
    · simp at h
    · omega
theorem shiftE (a b : Nat) (h1 : b ≤ a) (h2 : a ≤ b + 7) (h3 : a < 18446744073709551616) : (IntKind.u64.wrap (8 * IntKind.u64.wrap ((a : Int) - (b : Int)))).toNat = 8 * (a - b) := by
  simp only [IntKind.wrap_u64]; omega
theorem andShr (x m s : Nat) (hx : x < 18446744073709551616) (hm : m < 18446744073709551616) (hs : s ≤ 64) : bits .and .u64 (x : Int) (m : Int) / 2 ^ min s 64 = (((x &&& m) / 2 ^ s : Nat) : Int) := by
  rw [and64 x m hx hm, Nat.min_eq_left hs, Int.natCast_ediv, Int.natCast_pow]; rfl
theorem andShl (x m s : Nat) (hx : x < 18446744073709551616) (hm : m < 18446744073709551616) (hs : s ≤ 64) : IntKind.u64.wrap (bits .and .u64 (x : Int) (m : Int) * 2 ^ min s 64) = (((x &&& m) * 2 ^ s % 18446744073709551616 : Nat) : Int) := by
  rw [and64 x m hx hm, Nat.min_eq_left hs, IntKind.wrap_u64, Int.natCast_emod, Int.natCast_mul, Int.natCast_pow]; rfl
set_option maxHeartbeats 2000000 in
theorem load20_ok (vm vc : Value) (ms cs : List (Nat × Int)) (a k : Nat) (w : World) (hm : Sl .i64 w vm ms) (hc : Sl .u64 w vc cs) (sm : Srt ms) (sc : Srt cs) (lm : ms.length ≤ 1073741824) (lc : cs.length ≤ 1073741824) (hw : Words cs)
    (ha : a < 18446744073709551616) (k1 : 1 ≤ k) (k8 : k ≤ 8) (hf : (faultFrom ms a 1 0 k).1 = 0) :
    Calls Try.prog 20 #[.agg #[vm, vc], .int .u64 (a : Int), .int .i64 (k : Int)] w fun e w' => e = .returned (.tuple #[.int .u64 ((loadN cs a k : Nat) : Int), .agg #[.int .i64 0, .int .u64 0]]) ∧ Below w.heap.size w w' := by
  obtain ⟨W, hW, hb, hsz, c0, c1, _, _, g0, g1⟩ := box2b w vm vc (.int .i64 0) (.int .u64 0) 25 39
  obtain ⟨hf0, hfj⟩ := faultFrom_kind ms a 1 k 0 hf
  have hlast : a + (k - 1) < 18446744073709551616 := faultK_lt ms a (k - 1) 1 (hfj _ (by omega) (by omega))
  obtain ⟨last, hl⟩ : ∃ last, last = a + k - 1 := ⟨_, rfl⟩
  obtain ⟨x, nm, p, rfl⟩ : ∃ a n p, vm = .slice a n p := by obtain ⟨a, p, h, _⟩ := hm; exact ⟨_, _, _, h⟩
  obtain ⟨x', nc, p', rfl⟩ : ∃ a n p, vc = .slice a n p := by obtain ⟨a, p, h, _⟩ := hc; exact ⟨_, _, _, h⟩
  have K44 : Hid (Calls Try.prog 44 #[.agg #[.slice x nm p, .slice x' nc p'], .int .u64 (a : Int), .int .u64 (k : Int), .int .i64 1] W fun e w' => e = .returned (.agg #[.int .i64 0, .int .u64 0]) ∧ Below W.heap.size W w') := by
    have h := firstFault44 (.slice x nm p) (.slice x' nc p') ms a k 1 W (hm.keep hb) ⟨_, _, _, rfl⟩ sm lm ha k8
    rw [hf0] at h
    exact h
  have K45 : Hid (∀ (b : Nat) w', b < 18446744073709551616 → Calls Try.prog 45 #[.int .u64 (b : Int)] w' fun e w'' => e = .returned (.int .u64 ((cellOf b : Nat) : Int)) ∧ w'' = w') := fun b w' hb' => cellOf45 b hb' w'
  have K46 : Hid (∀ (b : Nat) w', Below W.heap.size W w' → Calls Try.prog 46 #[.agg #[.slice x nm p, .slice x' nc p'], .int .u64 (b : Int)] w' fun e w'' => e = .returned (.int .u64 ((wordN cs b : Nat) : Int)) ∧ Below w'.heap.size w' w'') := fun b w' hb' => by
    have h := word46 (.slice x nm p) (.slice x' nc p') cs b w' ⟨_, _, _, rfl⟩ (hc.keep (below_tr hb hb')) sc lc
    rw [wordOf_eq cs hw] at h
    exact h
  have HL : Hid (last = a + k - 1 ∧ a < 18446744073709551616 ∧ last < 18446744073709551616 ∧ a ≤ last ∧ last < a + 8) := ⟨hl, ha, by omega, by omega, by omega⟩
  have HW : Hid _ := hw
  obtain ⟨low, hlow⟩ : ∃ c, c = cellOf a := ⟨_, rfl⟩
  obtain ⟨high, hhigh⟩ : ∃ c, c = cellOf last := ⟨_, rfl⟩
  have HC : Hid (low = cellOf a ∧ high = cellOf last) := ⟨hlow, hhigh⟩
  have hwl : IntKind.u64.wrap (IntKind.u64.wrap ((a : Int) + (k : Int)) - 1) = (last : Int) := by rw [IntKind.wrap_u64, IntKind.wrap_u64]; omega
  obtain ⟨M1, hM1⟩ : ∃ M, M = maskOf (max a low - low) (min last (low + 7) - low) := ⟨_, rfl⟩
  obtain ⟨M2, hM2⟩ : ∃ M, M = maskOf (max a high - high) (min last (high + 7) - high) := ⟨_, rfl⟩
  have c1' := cellOf_facts a
  have c2' := cellOf_facts last
  rw [← hlow] at c1'
  rw [← hhigh] at c2'
  have K47 : Hid (∀ w', Calls Try.prog 47 #[.int .u64 (low : Int), .int .u64 (a : Int), .int .u64 (last : Int)] w' fun e w'' => e = .returned (.int .u64 (M1 : Int)) ∧ w'' = w') := fun w' => by
    rw [hM1]; exact bitsOf47 low a last w' c1'.1 (by omega) ha (by omega) (by omega) (by omega)
  have K47' : Hid (∀ w', Calls Try.prog 47 #[.int .u64 (high : Int), .int .u64 (a : Int), .int .u64 (last : Int)] w' fun e w'' => e = .returned (.int .u64 (M2 : Int)) ∧ w'' = w') := fun w' => by
    rw [hM2]; exact bitsOf47 high a last w' c2'.1 (by omega) ha (by omega) (by omega) (by omega)
  have HM : Hid (M1 = maskOf (max a low - low) (min last (low + 7) - low) ∧ M2 = maskOf (max a high - high) (min last (high + 7) - high)) := ⟨hM1, hM2⟩
  have HCF : Hid (low % 8 = 0 ∧ low ≤ a ∧ a ≤ low + 7 ∧ high % 8 = 0 ∧ high ≤ last ∧ last ≤ high + 7) := ⟨c1'.1, c1'.2.1, c1'.2.2, c2'.1, c2'.2.1, c2'.2.2⟩
  clear hM1 hM2 c1' c2'
  clear hm hc sm sc hf hfj hf0 hlast hl hw ha hlow hhigh
  go_enter Try.func20, Try.ntmps20
  go_wp2_with fail
  refine K44.out.mono ?_
  rintro e w1 ⟨rfl, hb1⟩
  have e0 := keep_cell hb1 c0
  have e1 := keep_cell hb1 c1
  go_wp2_with fail
  obtain ⟨W3, hW3, hb3, _, m0, m1, _, _⟩ := box2 w1 (.int .i64 0) (.int .u64 0) 39
  have e0 := keep_cell hb3 e0
  have e1 := keep_cell hb3 e1
  rw [hW3]
  refine (K45.out a W3 HL.out.2.1).mono ?_
  rintro e w4 ⟨rfl, h4⟩
  subst h4
  rw [← HC.out.1]
  go_wp2_with fail
  refine (K45.out last w4 HL.out.2.2.1).mono ?_
  rintro e w5 ⟨rfl, h5⟩
  subst h5
  rw [← HC.out.2]
  go_wp2_with fail
  refine (K46.out low w5 (below_tr hb1 hb3)).mono ?_
  rintro e w6 ⟨rfl, hb6⟩
  have e0 := keep_cell hb6 e0
  have e1 := keep_cell hb6 e1
  go_wp2_with fail
  refine (K47.out w6).mono ?_
  rintro e w7 ⟨rfl, h7⟩
  subst h7
  have hbW : Below W.heap.size W w7 := below_tr (below_tr hb1 hb3) hb6
  by_cases hhl : high = low
  · subst hhl
    have G0 : Free w7 ⟨w.heap.size + 1, 0, none⟩ := (by (repeat (first | with_reducible assumption | with_reducible refine Free.drew ?_ | with_reducible refine Free.alloc ?_ _ | with_reducible refine Free.set ?_ _ _ | with_reducible refine Free.keep (by with_reducible assumption) ?_)))
    have G1 : Free w7 ⟨w.heap.size + 1, 1, none⟩ := (by (repeat (first | with_reducible assumption | with_reducible refine Free.drew ?_ | with_reducible refine Free.alloc ?_ _ | with_reducible refine Free.set ?_ _ _ | with_reducible refine Free.keep (by with_reducible assumption) ?_)))
    have q0 := G0.cell
    have q1 := G1.cell
    have q2 := G0.frozen
    have q3 := G1.frozen
    go_wp2
    (try simp only [Exit.inBlock, Exit.then])
    obtain ⟨r0, r1⟩ := res2 w7 (w.heap.size + 1) (.int .i64 0) (.int .u64 0) G0 G1
    refine bodyPost_ret (v := .tuple #[.int .u64 ((loadN cs a k : Nat) : Int), .agg #[.int .i64 0, .int .u64 0]]) ?_ rfl ⟨rfl, (by (repeat (first | with_reducible assumption | with_reducible exact Below.refl _ _ | with_reducible refine Below.drew ?_ | with_reducible refine below_alloc ?_ _ | (with_reducible refine below_set ?_ ?_ _; rotate_left; focus (simp; done)) | with_reducible refine below_tr ?_ (by with_reducible assumption))))⟩
    rw [results_tmp_cell rfl]
    simp [go_sem, r0, r1]
    obtain ⟨f1, f2, f3, f4, f5, f6⟩ := HCF.out
    obtain ⟨l1, l2, l3, l4, l5⟩ := HL.out
    rw [shiftE a high f2 f3 l2, andShr _ _ _ (wordN_lt cs HW.out _) (by rw [HM.out.1]; exact mask_lt _ _) (by omega), loadN, ← l1, ← HC.out.2, if_pos HC.out.1, lowPart, ← HC.out.1, ← HM.out.1]
  · have hne : ((high : Int) != (low : Int)) = true := by simp; omega
    go_wp2_with fail
    refine (K46.out high w7 hbW).mono ?_
    rintro e w8 ⟨rfl, hb8⟩
    have e0 := keep_cell hb8 e0
    have e1 := keep_cell hb8 e1
    have HHL : Hid (¬ high = low) := hhl
    clear hhl
    go_wp2_with fail
    refine (K47'.out w8).mono ?_
    rintro e w9 ⟨rfl, h9⟩
    subst h9
    have G0 : Free w9 ⟨w.heap.size + 1, 0, none⟩ := (by (repeat (first | with_reducible assumption | with_reducible refine Free.drew ?_ | with_reducible refine Free.alloc ?_ _ | with_reducible refine Free.set ?_ _ _ | with_reducible refine Free.keep (by with_reducible assumption) ?_)))
    have G1 : Free w9 ⟨w.heap.size + 1, 1, none⟩ := (by (repeat (first | with_reducible assumption | with_reducible refine Free.drew ?_ | with_reducible refine Free.alloc ?_ _ | with_reducible refine Free.set ?_ _ _ | with_reducible refine Free.keep (by with_reducible assumption) ?_)))
    have q0 := G0.cell
    have q1 := G1.cell
    have q2 := G0.frozen
    have q3 := G1.frozen
    go_wp2
    (try simp only [Exit.inBlock, Exit.then])
    obtain ⟨r0, r1⟩ := res2 w9 (w.heap.size + 1) (.int .i64 0) (.int .u64 0) G0 G1
    refine bodyPost_ret (v := .tuple #[.int .u64 ((loadN cs a k : Nat) : Int), .agg #[.int .i64 0, .int .u64 0]]) ?_ rfl ⟨rfl, (by (repeat (first | with_reducible assumption | with_reducible exact Below.refl _ _ | with_reducible refine Below.drew ?_ | with_reducible refine below_alloc ?_ _ | (with_reducible refine below_set ?_ ?_ _; rotate_left; focus (simp; done)) | with_reducible refine below_tr ?_ (by with_reducible assumption))))⟩
    rw [results_tmp_cell rfl]
    simp [go_sem, r0, r1]
    obtain ⟨f1, f2, f3, f4, f5, f6⟩ := HCF.out
    obtain ⟨l1, l2, l3, l4, l5⟩ := HL.out
    have hhl := HHL.out
    have hgt : a < high ∧ high ≤ a + 7 := by omega
    rw [shiftE a low f2 f3 l2, shiftE high a (by omega) hgt.2 (by omega), andShr _ _ _ (wordN_lt cs HW.out _) (by rw [HM.out.1]; exact mask_lt _ _) (by omega),
      andShl _ _ _ (wordN_lt cs HW.out _) (by rw [HM.out.2]; exact mask_lt _ _) (by omega), or64 _ _ (Nat.lt_of_le_of_lt (Nat.div_le_self _ _) (Nat.lt_of_le_of_lt Nat.and_le_left (wordN_lt cs HW.out _))) (Nat.mod_lt _ (by omega)),
      loadN, ← l1, ← HC.out.2, ← HC.out.1, if_neg hhl, lowPart, highPart, ← HC.out.1, ← HC.out.2, ← HM.out.1, ← HM.out.2]
set_option maxHeartbeats 2000000 in
theorem load20_fault (vm vc : Value) (ms cs : List (Nat × Int)) (a k : Nat) (w : World) (hm : Sl .i64 w vm ms) (hc : Sl .u64 w vc cs) (sm : Srt ms) (lm : ms.length ≤ 1073741824)
    (ha : a < 18446744073709551616) (k1 : 1 ≤ k) (k8 : k ≤ 8) (hf : (faultFrom ms a 1 0 k).1 ≠ 0) :
    Calls Try.prog 20 #[.agg #[vm, vc], .int .u64 (a : Int), .int .i64 (k : Int)] w fun e w' => e = .returned (.tuple #[.int .u64 0, .agg #[.int .i64 (faultFrom ms a 1 0 k).1, .int .u64 ((faultFrom ms a 1 0 k).2 : Int)]]) ∧ Below w.heap.size w w' := by
  obtain ⟨W, hW, hb, hsz, c0, c1, _, _, g0, g1⟩ := box2b w vm vc (.int .i64 0) (.int .u64 0) 25 39
  obtain ⟨x, nm, p, rfl⟩ : ∃ a n p, vm = .slice a n p := by obtain ⟨a, p, h, _⟩ := hm; exact ⟨_, _, _, h⟩
  obtain ⟨x', nc, p', rfl⟩ : ∃ a n p, vc = .slice a n p := by obtain ⟨a, p, h, _⟩ := hc; exact ⟨_, _, _, h⟩
  have K44 : Hid (Calls Try.prog 44 #[.agg #[.slice x nm p, .slice x' nc p'], .int .u64 (a : Int), .int .u64 (k : Int), .int .i64 1] W fun e w' => e = .returned (.agg #[.int .i64 (faultFrom ms a 1 0 k).1, .int .u64 ((faultFrom ms a 1 0 k).2 : Int)]) ∧ Below W.heap.size W w') :=
    firstFault44 (.slice x nm p) (.slice x' nc p') ms a k 1 W (hm.keep hb) ⟨_, _, _, rfl⟩ sm lm ha k8
  generalize (faultFrom ms a 1 0 k).1 = fk at K44 hf ⊢
  generalize (faultFrom ms a 1 0 k).2 = fa at K44 ⊢
  have hne : (fk != 0) = true := by simpa using hf
  clear hm hc sm hf ha
  go_enter Try.func20, Try.ntmps20
  go_wp2_with fail
  refine K44.out.mono ?_
  rintro e w1 ⟨rfl, hb1⟩
  obtain ⟨W3, hW3, hb3, _, m0, m1, _, _⟩ := box2 w1 (.int .i64 fk) (.int .u64 (fa : Int)) 39
  have G0 : Free W3 ⟨w.heap.size + 1, 0, none⟩ := (by (repeat (first | with_reducible assumption | with_reducible refine Free.drew ?_ | with_reducible refine Free.alloc ?_ _ | with_reducible refine Free.set ?_ _ _ | with_reducible refine Free.keep (by with_reducible assumption) ?_)))
  have G1 : Free W3 ⟨w.heap.size + 1, 1, none⟩ := (by (repeat (first | with_reducible assumption | with_reducible refine Free.drew ?_ | with_reducible refine Free.alloc ?_ _ | with_reducible refine Free.set ?_ _ _ | with_reducible refine Free.keep (by with_reducible assumption) ?_)))
  have hlt : w.heap.size + 1 < w1.heap.size := by have := hb1.size; omega
  have HLT : Hid (w.heap.size + 1 < w1.heap.size) := hlt
  clear hlt K44
  have q0 := G0.cell
  have q1 := G1.cell
  have q2 := G0.frozen
  have q3 := G1.frozen
  go_wp2
  go_region_held3 (fun w' => Below w.heap.size w w' ∧ w'.cell? ⟨w1.heap.size, 0, none⟩ = some (.int .i64 fk) ∧ w'.cell? ⟨w1.heap.size, 1, none⟩ = some (.int .u64 (fa : Int)) ∧ w'.cell? ⟨w.heap.size + 1, 0, none⟩ = some (cellAt w' ⟨w.heap.size + 1, 0, none⟩) ∧ w'.cell? ⟨w.heap.size + 1, 1, none⟩ = some (cellAt w' ⟨w.heap.size + 1, 1, none⟩) ∧ w'.frozen? ⟨w.heap.size + 1, 0, none⟩ = false ∧ w'.frozen? ⟨w.heap.size + 1, 1, none⟩ = false)
    (refine ⟨?_, ?_, ?_, ?_, ?_, ?_, ?_⟩ <;> first | (with_reducible refine Free.cell ?_; (repeat (first | with_reducible assumption | with_reducible refine Free.drew ?_ | with_reducible refine Free.alloc ?_ _ | with_reducible refine Free.set ?_ _ _ | with_reducible refine Free.keep (by with_reducible assumption) ?_)); done) | (with_reducible refine Free.frozen ?_; (repeat (first | with_reducible assumption | with_reducible refine Free.drew ?_ | with_reducible refine Free.alloc ?_ _ | with_reducible refine Free.set ?_ _ _ | with_reducible refine Free.keep (by with_reducible assumption) ?_)); done) | ((repeat (first | with_reducible assumption | with_reducible exact Below.refl _ _ | with_reducible refine Below.drew ?_ | with_reducible refine below_alloc ?_ _ | (with_reducible refine below_set ?_ ?_ _; rotate_left; focus (simp; done)) | with_reducible refine below_tr ?_ (by with_reducible assumption))); done) | ((repeat (first | with_reducible assumption | with_reducible refine cell_drew ?_ | (with_reducible refine cell_far ?_ ?_ _; rotate_left; focus (have := HLT.out; simp; omega)))); done)) (fail)
  all_goals (go_wp2; (try simp only [Exit.inBlock, Exit.then]))
  all_goals obtain ⟨r0, r1⟩ := res2 W3 (w.heap.size + 1) (.int .i64 fk) (.int .u64 (fa : Int)) G0 G1
  all_goals have r2 := World.cell?_setCell_same W3 ⟨w.heap.size + 1, 0, none⟩ (.int .i64 fk) q0
  all_goals refine bodyPost_ret (v := .tuple #[.int .u64 0, .agg #[.int .i64 fk, .int .u64 (fa : Int)]]) ?_ rfl ⟨rfl, (by (repeat (first | with_reducible assumption | with_reducible exact Below.refl _ _ | with_reducible refine Below.drew ?_ | with_reducible refine below_alloc ?_ _ | (with_reducible refine below_set ?_ ?_ _; rotate_left; focus (simp; done)) | with_reducible refine below_tr ?_ (by with_reducible assumption))))⟩
  all_goals (rw [results_tmp_cell rfl]; simp [go_sem, r0, r1])
set_option maxHeartbeats 2000000 in
theorem load20_out (x x' : Option Addr) (nm p nc p' : Nat) (a : Nat) (n : Int) (w : World) (hn : n < 1 ∨ 8 < n) :
    Calls Try.prog 20 #[.agg #[.slice x nm p, .slice x' nc p'], .int .u64 (a : Int), .int .i64 n] w fun e w' => e = .returned (.tuple #[.int .u64 0, .agg #[.int .i64 0, .int .u64 0]]) ∧ Below w.heap.size w w' := by
  rcases hn with hn | hn
  · go_enter Try.func20, Try.ntmps20
    go_wp2
    (try simp only [Exit.inBlock, Exit.then])
    refine bodyPost_ret (v := .tuple #[.int .u64 0, .agg #[.int .i64 0, .int .u64 0]]) ?_ rfl ⟨rfl, (by (repeat (first | with_reducible assumption | with_reducible exact Below.refl _ _ | with_reducible refine Below.drew ?_ | with_reducible refine below_alloc ?_ _ | (with_reducible refine below_set ?_ ?_ _; rotate_left; focus (simp; done)) | with_reducible refine below_tr ?_ (by with_reducible assumption))))⟩
    rw [results_tmp_cell rfl]; simp [go_sem]
  · go_enter Try.func20, Try.ntmps20
    go_wp2
    (try simp only [Exit.inBlock, Exit.then])
    refine bodyPost_ret (v := .tuple #[.int .u64 0, .agg #[.int .i64 0, .int .u64 0]]) ?_ rfl ⟨rfl, (by (repeat (first | with_reducible assumption | with_reducible exact Below.refl _ _ | with_reducible refine Below.drew ?_ | with_reducible refine below_alloc ?_ _ | (with_reducible refine below_set ?_ ?_ _; rotate_left; focus (simp; done)) | with_reducible refine below_tr ?_ (by with_reducible assumption))))⟩
    rw [results_tmp_cell rfl]; simp [go_sem]
end Go.Proofs.Ytolmcbnammhjjaa
