import Derived.Test.YtimfipkbddpdmaaGreatDoorMSpan
import Derived.Test.YtimfipkbddpdmaaGreatDoorMHeld
import Derived.Test.YtimfipkbddpdmaaGreatDoorMSl
import Derived.Test.YtimfipkbddpdmaaGreatDoorMBitsOf
import Derived.Deep.RegionHeld3
set_option linter.unusedVariables false
set_option linter.unusedSimpArgs false
set_option maxRecDepth 100000
open Go Go.RowKit
namespace Go.Proofs.YtimfipkbddpdmaaGreatDoor.Gm
def faultK (ms : List (Nat × Int)) (at_ i : Nat) (need : Int) : Int :=
 match ms.find? (fun x => x.1 == ((at_ + i) % 18446744073709551616) / 16384) with
 | none => 1
 | some x => if 18446744073709551616 <= at_ + i then 1 else if bits .and .i64 x.2 need = 0 then 2 else 0
def faultFrom (ms : List (Nat × Int)) (at_ : Nat) (need : Int) : Nat -> Nat -> Int × Nat
 | _, 0 => (0, 0)
 | i, m + 1 => if faultK ms at_ i need = 0 then faultFrom ms at_ need (i + 1) m else (faultK ms at_ i need, (at_ + i) % 18446744073709551616)
theorem cellOf45 (a : Nat) (h : a < 18446744073709551616) (w : World) : Calls Tryz.prog 204 #[.int .u64 a] w fun e w' => e = .returned (.int .u64 ((a - a % 8 : Nat) : Int)) /\ w' = w := by
 go_enter Tryz.func204, Tryz.ntmps204
 go_wp2
 go_ret
 refine ⟨?_, rfl⟩
 simp
 omega
theorem results_tmp_cell {fn : Func} {p u : Tmp} {ty : TypeId} (h : fn.results = #[.tmp u, .cell p ty]) (tmps : Array Value) (P : Program) (w : World) :
  (results fn tmps).run P w = ((asAddr (tmps.getD p undef)).run P w).andThen fun a w₁ => ((loadVar ty a).run P w₁).andThen fun v w₂ => .ok (.tuple #[tmps.getD u undef, v]) w₂ := by
 simp only [results, h]
 simp [Sem.run_bind, Result.andThen]
def wordN (cs : List (Nat × Int)) (a : Nat) : Nat := (wordOf cs a).toNat
def Words (cs : List (Nat × Int)) : Prop := ∀ x ∈ cs, 0 <= x.2 /\ x.2 < 18446744073709551616
theorem wordN_lt (cs : List (Nat × Int)) (h : Words cs) (a : Nat) : wordN cs a < 18446744073709551616 := by
 unfold wordN wordOf
 split
 ·rename_i x hx
  have := h x (List.mem_of_find?_eq_some hx)
  omega
 ·decide
theorem wordOf_eq (cs : List (Nat × Int)) (h : Words cs) (a : Nat) : wordOf cs a = ((wordN cs a : Nat) : Int) := by
 unfold wordN wordOf
 split
 ·rename_i x hx
  have := h x (List.mem_of_find?_eq_some hx)
  omega
 ·decide
def cellOf (a : Nat) : Nat := a - a % 8
theorem cellOf_facts (a : Nat) : cellOf a % 8 = 0 /\ cellOf a <= a /\ a <= cellOf a + 7 := by unfold cellOf; omega
def lowPart (cs : List (Nat × Int)) (a last : Nat) : Nat := (wordN cs (cellOf a) &&& maskOf (max a (cellOf a) - cellOf a) (min last (cellOf a + 7) - cellOf a)) / 2 ^ (8 * (a - cellOf a))
def highPart (cs : List (Nat × Int)) (a last : Nat) : Nat := (wordN cs (cellOf last) &&& maskOf (max a (cellOf last) - cellOf last) (min last (cellOf last + 7) - cellOf last)) * 2 ^ (8 * (cellOf last - a)) % 18446744073709551616
def loadN (cs : List (Nat × Int)) (a n : Nat) : Nat :=
 if cellOf (a + n - 1) = cellOf a then lowPart cs a (a + n - 1) else lowPart cs a (a + n - 1) ||| highPart cs a (a + n - 1)
theorem faultFrom_kind (ms : List (Nat × Int)) (a : Nat) (need : Int) : ∀ (m i : Nat), (faultFrom ms a need i m).1 = 0 -> faultFrom ms a need i m = (0, 0) /\ ∀ j, i <= j -> j < i + m -> faultK ms a j need = 0
 | 0, i, _ => ⟨rfl, fun j h1 h2 => by omega⟩
 | m + 1, i, h => by
  rw [faultFrom] at h |-
  split at h
  ·rename_i h0
   rw [if_pos h0]
   obtain ⟨e, g⟩ := faultFrom_kind ms a need m (i + 1) h
   refine ⟨e, fun j h1 h2 => ?_⟩
   by_cases ej : j = i
   ·subst ej; exact h0
   ·exact g j (by omega) (by omega)
  ·rename_i h0; exact absurd h h0
theorem faultK_lt (ms : List (Nat × Int)) (a j : Nat) (need : Int) (h : faultK ms a j need = 0) : a + j < 18446744073709551616 := by
 unfold faultK at h
 split at h
 ·simp at h
 ·split at h
  ·simp at h
  ·omega
theorem shiftE (a b : Nat) (h1 : b <= a) (h2 : a <= b + 7) (h3 : a < 18446744073709551616) : (IntKind.u64.wrap (8 * IntKind.u64.wrap ((a : Int) - (b : Int)))).toNat = 8 * (a - b) := by
 simp only [IntKind.wrap_u64]; omega
theorem andShr (x m s : Nat) (hx : x < 18446744073709551616) (hm : m < 18446744073709551616) (hs : s <= 64) : bits .and .u64 (x : Int) (m : Int) / 2 ^ min s 64 = (((x &&& m) / 2 ^ s : Nat) : Int) := by
 rw [and64 x m hx hm, Nat.min_eq_left hs, Int.natCast_ediv, Int.natCast_pow]; rfl
theorem andShl (x m s : Nat) (hx : x < 18446744073709551616) (hm : m < 18446744073709551616) (hs : s <= 64) : IntKind.u64.wrap (bits .and .u64 (x : Int) (m : Int) * 2 ^ min s 64) = (((x &&& m) * 2 ^ s % 18446744073709551616 : Nat) : Int) := by
 rw [and64 x m hx hm, Nat.min_eq_left hs, IntKind.wrap_u64, Int.natCast_emod, Int.natCast_mul, Int.natCast_pow]; rfl
def nowN (old mask v : Nat) : Nat := clr old mask ||| (v &&& mask)
def cellIf (a now : Nat) : List (Nat × Int) := if now = 0 then [] else [(a, (now : Int))]
set_option maxHeartbeats 1000000 in
theorem changed49 (cv : Value) (xs : List (Nat × Int)) (a old mask v B : Nat) (w : World) (hown : w.ownsRow B 48 2 cv xs.length (rowOf .u64 xs)) (hB : B <= w.heap.size) (hl : xs.length <= 1073741823)
  (h1 : old < 18446744073709551616) (h2 : mask < 18446744073709551616) (h3 : v < 18446744073709551616) :
  Calls Tryz.prog 235 #[cv, .int .u64 a, .int .u64 old, .int .u64 mask, .int .u64 v] w
   fun e w' => ∃ cv', e = .returned cv' /\ w'.ownsRow B 48 2 cv' (xs ++ cellIf a (nowN old mask v)).length (rowOf .u64 (xs ++ cellIf a (nowN old mask v))) /\ Below B w w' /\ w.heap.size <= w'.heap.size := by
 have e1 : bits .andNot .u64 (old : Int) (mask : Int) = ((clr old mask : Nat) : Int) := andNot64 old mask h1 h2
 have e2 : bits .and .u64 (v : Int) (mask : Int) = ((v &&& mask : Nat) : Int) := and64 v mask h3 h2
 have e3 : bits .or .u64 ((clr old mask : Nat) : Int) ((v &&& mask : Nat) : Int) = ((nowN old mask v : Nat) : Int) := or64 _ _ (Nat.lt_of_le_of_lt Nat.and_le_left h1) (Nat.lt_of_le_of_lt Nat.and_le_right h2)
 generalize nowN old mask v = now at e3 |-
 generalize clr old mask = c at e1 e3
 generalize (v &&& mask) = d at e2 e3
 obtain ⟨i0, hi, hz0, hz1, hz2⟩ := info_parts info58
 by_cases h0 : now = 0
 ·subst h0
  go_enter Tryz.func235, Tryz.ntmps235
  go_wp2
  go_ret
  exact ⟨_, rfl, by simpa [cellIf] using hown, Below.refl _ _, Nat.le_refl _⟩
 ·have hne : ((now : Int) != 0) = true := by simp; omega
  have HI : Hid (Tryz.prog.info? 48 = some i0 /\ i0.zero = some (.agg #[.int .u64 0, .int .u64 0]) /\ i0.size = 2 /\ i0.bytes = 16) := ⟨hi, hz0, hz1, hz2⟩
  have HO : Hid (w.ownsRow B 48 2 cv xs.length (rowOf .u64 xs)) := hown
  have H0 : Hid (¬ now = 0) := h0
  clear hi hz0 hz1 hz2 hown h0
  go_enter Tryz.func235, Tryz.ntmps235
  go_wp2_with (at_builtin; refine wpList_append_own _ rfl (.tmp 21) (.tmp 25) 27 rfl B 48 i0 _ 2 16 Tryz.underlying27 HI.out.1 HI.out.2.1 HI.out.2.2.1 HI.out.2.2.2 rfl (by decide) _ _ _ rfl (own_alloc HO.out _) ⟨w.heap.size, 0, none⟩ 1 1 [.int .u64 a, .int .u64 now] rfl rfl ?c1 ?c2 (by unfold maxLen; omega) (by omega) (by simp; omega) ?_)
  case c1 =>
   intro j u hj
   match j, hj with
   | 0, hj => simp at hj; subst hj; simp [Addr.add]
   | 1, hj => simp at hj; subst hj; simp [Addr.add]
  case c2 => intro u hu; simp at hu; rcases hu with rfl | rfl <;> rfl
  intro cv' w1 hown' hgrow _
  have R1 : w1.ownsRow B 48 2 cv' (xs ++ cellIf a now).length (rowOf .u64 (xs ++ cellIf a now)) := by
   have e : cellIf a now = [(a, (now : Int))] := by rw [cellIf, if_neg H0.out]
   rw [e, rowOf_append]
   simpa [rowOf] using hown'
  have R2 : Below B w w1 := (((Below.refl B w).alloc hB _).grown hgrow (by simp; omega) (own_ge HO.out))
  have R3 := R2.size
  clear hown' hgrow
  go_wp2
  go_ret
  exact ⟨_, rfl, R1, R2, R3⟩
set_option maxHeartbeats 4000000 in
theorem exchanged51 (vm vc vn : Value) (ms cs ns : List (Nat × Int)) (f t : Nat) (w : World) (hm : Sl .i64 w vm ms) (hc : Sl .u64 w vc cs) (hn : Sl .u64 w vn ns) (lm : ms.length <= 1073741824) (lc : (cs.take f ++ ns ++ cs.drop t).length <= 1073741824) (hf : f <= cs.length) (ht : t <= cs.length) (lcs : cs.length <= 1073741824) :
  Calls Tryz.prog 236 #[.agg #[vm, vc], .int .i64 f, .int .i64 t, vn] w fun e w' => ∃ vm' vc', e = .returned (.agg #[vm', vc']) /\ w'.ownsRow w.heap.size 86 2 vm' ms.length (rowOf .i64 ms) /\ w'.ownsRow w.heap.size 48 2 vc' (cs.take f ++ ns ++ cs.drop t).length (rowOf .u64 (cs.take f ++ ns ++ cs.drop t)) /\ Below w.heap.size w w' := by
 obtain ⟨W, hW, hb, hsz, c0, c1, _, _, g0, g1⟩ := box2b w vm vc (.slice none 0 0) (.slice none 0 0) 29 29
 obtain ⟨v1, e1, s1, a1, n1, p1, rfl⟩ := hc.to23 f hf
 obtain ⟨v2, e2, s2, a2, n2, p2, rfl⟩ := hc.from23 t ht
 obtain ⟨an, nn, pn, rfl⟩ : ∃ a n p, vn = .slice a n p := by obtain ⟨a, p, h, _⟩ := hn; exact ⟨_, _, _, h⟩
 have K39 : Hid (∀ b w1, Below W.heap.size W w1 -> w1.cell? ⟨b, 0, none⟩ = some vm -> Calls Tryz.prog 62 #[.slice (some ⟨b, 0, none⟩) 1 1] w1 fun e w' => ∃ a n p, e = .returned (.slice a n p) /\ w'.ownsRow (w.heap.size + 2) 86 2 (.slice a n p) ms.length (rowOf .i64 ms) /\ Below w1.heap.size w1 w') := fun b w1 hb1 hc1 =>
  (cat39_1 b vm ms w1 hc1 (hm.keep (below_tr hb hb1)) lm).mono (by rintro e w' ⟨v, rfl, ho, hB⟩; obtain ⟨a, n, p, rfl⟩ := own_shape ho; exact ⟨a, n, p, rfl, own_base ho (by have := hb1.size; omega), hB⟩)
 have K40 : Hid (∀ b w1, Below W.heap.size W w1 -> w1.cell? ⟨b, 0, none⟩ = some (.slice a1 n1 p1) -> w1.cell? ⟨b, 1, none⟩ = some (.slice an nn pn) -> w1.cell? ⟨b, 2, none⟩ = some (.slice a2 n2 p2) -> Calls Tryz.prog 63 #[.slice (some ⟨b, 0, none⟩) 3 3] w1 fun e w' => ∃ a n p, e = .returned (.slice a n p) /\ w'.ownsRow (w.heap.size + 2) 48 2 (.slice a n p) (cs.take f ++ ns ++ cs.drop t).length (rowOf .u64 (cs.take f ++ ns ++ cs.drop t)) /\ Below w1.heap.size w1 w') := fun b w1 hb1 hc1 hc2 hc3 =>
  (cat40_3 b _ _ _ _ _ _ w1 hc1 hc2 hc3 (s1.keep (below_tr hb hb1)) (hn.keep (below_tr hb hb1)) (s2.keep (below_tr hb hb1)) lc).mono (by rintro e w' ⟨v, rfl, ho, hB⟩; obtain ⟨a, n, p, rfl⟩ := own_shape ho; exact ⟨a, n, p, rfl, own_base ho (by have := hb1.size; omega), hB⟩)
 obtain ⟨am, nm, pm, rfl⟩ : ∃ a n p, vm = .slice a n p := by obtain ⟨a, p, h, _⟩ := hm; exact ⟨_, _, _, h⟩
 obtain ⟨ac, nc, pc, rfl⟩ : ∃ a n p, vc = .slice a n p := by obtain ⟨a, p, h, _⟩ := hc; exact ⟨_, _, _, h⟩
 generalize cs.take f ++ ns ++ cs.drop t = zs at K40 lc |-
 clear hm hc hn s1 s2 lc hf ht
 go_enter Tryz.func236, Tryz.ntmps236
 go_wp2
 go_region_held3 (fun w' => Below w.heap.size w w' /\ w'.cell? ⟨w.heap.size, 0, none⟩ = some (.slice am nm pm) /\ w'.cell? ⟨w.heap.size, 1, none⟩ = some (.slice ac nc pc) /\ w'.cell? ⟨w.heap.size + 1, 0, none⟩ = some (cellAt w' ⟨w.heap.size + 1, 0, none⟩) /\ w'.cell? ⟨w.heap.size + 1, 1, none⟩ = some (cellAt w' ⟨w.heap.size + 1, 1, none⟩) /\ w'.frozen? ⟨w.heap.size + 1, 0, none⟩ = false /\ w'.frozen? ⟨w.heap.size + 1, 1, none⟩ = false)
  (refine ⟨?_, ?_, ?_, ?_, ?_, ?_, ?_⟩ <;> first | (with_reducible refine Free.cell ?_; exact freeA) | (with_reducible refine Free.frozen ?_; exact freeA) | exact belA | exact cellA)
  (first | (go_at_call 62; refine (K39.out _ _ belA cellA).mono ?_; rintro e w' ⟨b1, k1, q1, rfl, ho1, hB1⟩) | (go_at_call 63; refine (K40.out _ _ belA cellA cellA cellA).mono ?_; rintro e w' ⟨b2, k2, q2, rfl, ho2, hB2⟩))
 all_goals (go_wp2; (try simp only [Exit.inBlock, Exit.then]))
 all_goals have r := res2 w' (w.heap.size + 1) (.slice b1 k1 q1) (.slice b2 k2 q2) freeA freeA
 all_goals obtain ⟨r0, r1⟩ := r
 all_goals refine bodyPost_ret (v := .agg #[.slice b1 k1 q1, .slice b2 k2 q2]) ?_ rfl ⟨_, _, rfl, own_base (base := w.heap.size + 2) ownA (by omega), own_base (base := w.heap.size + 2) ownA (by omega), belA⟩
 all_goals (rw [results_cell1 rfl]; simp [go_sem, r0, r1])
set_option maxHeartbeats 2000000 in
theorem copied37 (vm vc : Value) (ms cs : List (Nat × Int)) (w : World) (hm : Sl .i64 w vm ms) (hc : Sl .u64 w vc cs) (lm : ms.length <= 1073741824) (lc : cs.length <= 1073741824) :
  Calls Tryz.prog 45 #[.agg #[vm, vc]] w fun e w' => ∃ vm' vc', e = .returned (.agg #[vm', vc']) /\ w'.ownsRow w.heap.size 86 2 vm' ms.length (rowOf .i64 ms) /\ w'.ownsRow w.heap.size 48 2 vc' cs.length (rowOf .u64 cs) /\ Below w.heap.size w w' := by
 obtain ⟨W, hW, hb, hsz, c0, c1, _, _, g0, g1⟩ := box2b w vm vc (.slice none 0 0) (.slice none 0 0) 29 29
 have K39 : Hid (∀ b w1, Below W.heap.size W w1 -> w1.cell? ⟨b, 0, none⟩ = some vm -> Calls Tryz.prog 62 #[.slice (some ⟨b, 0, none⟩) 1 1] w1 fun e w' => ∃ a n p, e = .returned (.slice a n p) /\ w'.ownsRow (w.heap.size + 2) 86 2 (.slice a n p) ms.length (rowOf .i64 ms) /\ Below w1.heap.size w1 w') := fun b w1 hb1 hc1 =>
  (cat39_1 b vm ms w1 hc1 (hm.keep (below_tr hb hb1)) lm).mono (by rintro e w' ⟨v, rfl, ho, hB⟩; obtain ⟨a, n, p, rfl⟩ := own_shape ho; exact ⟨a, n, p, rfl, own_base ho (by have := hb1.size; omega), hB⟩)
 have K40 : Hid (∀ b w1, Below W.heap.size W w1 -> w1.cell? ⟨b, 0, none⟩ = some vc -> Calls Tryz.prog 63 #[.slice (some ⟨b, 0, none⟩) 1 1] w1 fun e w' => ∃ a n p, e = .returned (.slice a n p) /\ w'.ownsRow (w.heap.size + 2) 48 2 (.slice a n p) cs.length (rowOf .u64 cs) /\ Below w1.heap.size w1 w') := fun b w1 hb1 hc1 =>
  (cat40_1 b vc cs w1 hc1 (hc.keep (below_tr hb hb1)) lc).mono (by rintro e w' ⟨v, rfl, ho, hB⟩; obtain ⟨a, n, p, rfl⟩ := own_shape ho; exact ⟨a, n, p, rfl, own_base ho (by have := hb1.size; omega), hB⟩)
 obtain ⟨am, nm, pm, rfl⟩ : ∃ a n p, vm = .slice a n p := by obtain ⟨a, p, h, _⟩ := hm; exact ⟨_, _, _, h⟩
 obtain ⟨ac, nc, pc, rfl⟩ : ∃ a n p, vc = .slice a n p := by obtain ⟨a, p, h, _⟩ := hc; exact ⟨_, _, _, h⟩
 clear hm hc
 go_enter Tryz.func45, Tryz.ntmps45
 go_wp2
 go_region_held3 (fun w' => Below w.heap.size w w' /\ w'.cell? ⟨w.heap.size, 0, none⟩ = some (.slice am nm pm) /\ w'.cell? ⟨w.heap.size, 1, none⟩ = some (.slice ac nc pc) /\ w'.cell? ⟨w.heap.size + 1, 0, none⟩ = some (cellAt w' ⟨w.heap.size + 1, 0, none⟩) /\ w'.cell? ⟨w.heap.size + 1, 1, none⟩ = some (cellAt w' ⟨w.heap.size + 1, 1, none⟩) /\ w'.frozen? ⟨w.heap.size + 1, 0, none⟩ = false /\ w'.frozen? ⟨w.heap.size + 1, 1, none⟩ = false)
  (refine ⟨?_, ?_, ?_, ?_, ?_, ?_, ?_⟩ <;> first | (with_reducible refine Free.cell ?_; exact freeA) | (with_reducible refine Free.frozen ?_; exact freeA) | exact belA | exact cellA)
  (first | (go_at_call 62; refine (K39.out _ _ belA cellA).mono ?_; rintro e w' ⟨a1, n1, p1, rfl, ho1, hB1⟩) | (go_at_call 63; refine (K40.out _ _ belA cellA).mono ?_; rintro e w' ⟨a2, n2, p2, rfl, ho2, hB2⟩))
 all_goals (go_wp2; (try simp only [Exit.inBlock, Exit.then]))
 all_goals have r := res2 w' (w.heap.size + 1) (.slice a1 n1 p1) (.slice a2 n2 p2) freeA freeA
 all_goals obtain ⟨r0, r1⟩ := r
 all_goals refine bodyPost_ret (v := .agg #[.slice a1 n1 p1, .slice a2 n2 p2]) ?_ rfl ⟨_, _, rfl, own_base (base := w.heap.size + 2) ownA (by omega), own_base (base := w.heap.size + 2) ownA (by omega), belA⟩
 all_goals (rw [results_cell1 rfl]; simp [go_sem, r0, r1])
def OwnH (B : Nat) (w : World) (vm vc : Value) (ms cs : List (Nat × Int)) : Prop := w.ownsRow B 86 2 vm ms.length (rowOf .i64 ms) /\ w.ownsRow B 48 2 vc cs.length (rowOf .u64 cs)
theorem OwnH.m {B : Nat} {w : World} {vm vc : Value} {ms cs : List (Nat × Int)} (h : OwnH B w vm vc ms cs) : Sl .i64 w vm ms := own_sl h.1
theorem OwnH.c {B : Nat} {w : World} {vm vc : Value} {ms cs : List (Nat × Int)} (h : OwnH B w vm vc ms cs) : Sl .u64 w vc cs := own_sl h.2
theorem OwnH.shape {B : Nat} {w : World} {vm vc : Value} {ms cs : List (Nat × Int)} (h : OwnH B w vm vc ms cs) : ∃ a n p a' n' p', vm = .slice a n p /\ vc = .slice a' n' p' := by
 obtain ⟨a, n, p, rfl⟩ := own_shape h.1
 obtain ⟨a', n', p', rfl⟩ := own_shape h.2
 exact ⟨_, _, _, _, _, _, rfl, rfl⟩
theorem OwnH.keep {B : Nat} {w w' : World} {vm vc : Value} {ms cs : List (Nat × Int)} (h : OwnH B w vm vc ms cs) (hb : Below w.heap.size w w') : OwnH B w' vm vc ms cs := ⟨own_keep h.1 hb, own_keep h.2 hb⟩
theorem OwnH.base {B B' : Nat} {w : World} {vm vc : Value} {ms cs : List (Nat × Int)} (h : OwnH B w vm vc ms cs) (hb : B' <= B) : OwnH B' w vm vc ms cs := ⟨own_base h.1 hb, own_base h.2 hb⟩
theorem res2_own {w : World} {n B : Nat} {x y v : Value} {m : Nat} {xs : List Value} {base e : Nat} (h : w.ownsRow base e 2 v m xs) (hn : n < base) (hB : B <= base) : ((w.setCell ⟨n, 0, none⟩ x).setCell ⟨n, 1, none⟩ y).ownsRow B e 2 v m xs :=
 own_base (ownsRow_setCell_below (ownsRow_setCell_below h (by simpa using hn) _) (by simpa using hn) _) hB
theorem res4_own {w : World} {n m B : Nat} {x y u t v : Value} {j : Nat} {xs : List Value} {base e : Nat} (h : w.ownsRow base e 2 v j xs) (hn : n < base) (hm : m < base) (hB : B <= base) :
  ((((w.setCell ⟨n, 0, none⟩ x).setCell ⟨n, 1, none⟩ y).setCell ⟨m, 0, none⟩ u).setCell ⟨m, 1, none⟩ t).ownsRow B e 2 v j xs :=
 res2_own (res2_own h hn (Nat.le_refl _)) hm hB
theorem parts_take (xs : List (Nat × Int)) (h : Srt xs) (a b : Nat) (hab : a <= b) : xs.take (lo xs a).length = lo xs a := by
 have e := congrArg (List.take (lo xs a).length) (parts xs h a b hab)
 rw [List.append_assoc, List.take_left] at e
 exact e
theorem parts_drop (xs : List (Nat × Int)) (h : Srt xs) (a b : Nat) (hab : a <= b) : xs.drop ((lo xs a).length + (mid xs a b).length) = hi xs b := by
 have e := congrArg (List.drop ((lo xs a).length + (mid xs a b).length)) (parts xs h a b hab)
 rw [<- List.length_append, List.drop_left] at e
 rw [<- List.length_append]
 exact e
theorem parts_len (xs : List (Nat × Int)) (h : Srt xs) (a b : Nat) (hab : a <= b) : xs.length = (lo xs a).length + (mid xs a b).length + (hi xs b).length := by
 have e := congrArg List.length (parts xs h a b hab)
 rw [List.length_append, List.length_append] at e
 exact e
theorem results_cells {fn : Func} {p q : Tmp} {ty t2 : TypeId} (h : fn.results = #[.cell p ty, .cell q t2]) (tmps : Array Value) (P : Program) (w : World) :
  (results fn tmps).run P w = ((asAddr (tmps.getD p undef)).run P w).andThen fun a w₁ => ((loadVar ty a).run P w₁).andThen fun v w₂ => ((asAddr (tmps.getD q undef)).run P w₂).andThen fun b w₃ => ((loadVar t2 b).run P w₃).andThen fun u w₄ => .ok (.tuple #[v, u]) w₄ := by
 simp only [results, h]
 simp [Sem.run_bind, Result.andThen]
theorem box2c (w : World) (x0 x1 y0 y1 z0 z1 : Value) (t s r : Nat) : ∃ W, ((w.alloc (.cells #[x0, x1] t)).alloc (.cells #[y0, y1] s)).alloc (.cells #[z0, z1] r) = W /\ Below w.heap.size w W /\ W.heap.size = w.heap.size + 3 /\
  W.cell? ⟨w.heap.size, 0, none⟩ = some x0 /\ W.cell? ⟨w.heap.size, 1, none⟩ = some x1 /\ Free W ⟨w.heap.size + 1, 0, none⟩ /\ Free W ⟨w.heap.size + 1, 1, none⟩ /\ Free W ⟨w.heap.size + 1 + 1, 0, none⟩ /\ Free W ⟨w.heap.size + 1 + 1, 1, none⟩ := by
 obtain ⟨W, rfl, b1, s1, c0, c1, _, _, f0, f1⟩ := box2b w x0 x1 y0 y1 t s
 obtain ⟨W', rfl, b2, s2, d0, d1, g0, g1⟩ := box2 ((w.alloc (.cells #[x0, x1] t)).alloc (.cells #[y0, y1] s)) z0 z1 r
 rw [s1] at d0 d1 g0 g1 s2
 exact ⟨_, rfl, below_tr b1 b2, s2, keep_cell b2 c0, keep_cell b2 c1, f0.keep b2, f1.keep b2, ⟨⟨_, d0⟩, g0⟩, ⟨⟨_, d1⟩, g1⟩⟩
theorem res4 (w : World) (n m : Nat) (x y u v : Value) (hnm : n ≠ m) (h0 : Free w ⟨n, 0, none⟩) (h1 : Free w ⟨n, 1, none⟩) (h2 : Free w ⟨m, 0, none⟩) (h3 : Free w ⟨m, 1, none⟩) :
  ((((w.setCell ⟨n, 0, none⟩ x).setCell ⟨n, 1, none⟩ y).setCell ⟨m, 0, none⟩ u).setCell ⟨m, 1, none⟩ v).cell? ⟨n, 0, none⟩ = some x /\
  ((((w.setCell ⟨n, 0, none⟩ x).setCell ⟨n, 1, none⟩ y).setCell ⟨m, 0, none⟩ u).setCell ⟨m, 1, none⟩ v).cell? ⟨n, 1, none⟩ = some y /\
  ((((w.setCell ⟨n, 0, none⟩ x).setCell ⟨n, 1, none⟩ y).setCell ⟨m, 0, none⟩ u).setCell ⟨m, 1, none⟩ v).cell? ⟨m, 0, none⟩ = some u /\
  ((((w.setCell ⟨n, 0, none⟩ x).setCell ⟨n, 1, none⟩ y).setCell ⟨m, 0, none⟩ u).setCell ⟨m, 1, none⟩ v).cell? ⟨m, 1, none⟩ = some v := by
 obtain ⟨a0, a1⟩ := res2 w n x y h0 h1
 obtain ⟨a2, a3⟩ := res2 ((w.setCell ⟨n, 0, none⟩ x).setCell ⟨n, 1, none⟩ y) m u v ((h2.set _ _).set _ _) ((h3.set _ _).set _ _)
 exact ⟨cell_far (cell_far a0 (by simp; omega) _) (by simp; omega) _, cell_far (cell_far a1 (by simp; omega) _) (by simp; omega) _, a2, a3⟩
def putCells (cs : List (Nat × Int)) (a last v : Nat) : List (Nat × Int) :=
 cellIf (cellOf a) (nowN (wordN cs (cellOf a)) (maskOf (max a (cellOf a) - cellOf a) (min last (cellOf a + 7) - cellOf a)) (v * 2 ^ (8 * (a - cellOf a)) % 18446744073709551616)) ++
 (if cellOf last = cellOf a then [] else cellIf (cellOf last) (nowN (wordN cs (cellOf last)) (maskOf (max a (cellOf last) - cellOf last) (min last (cellOf last + 7) - cellOf last)) (v / 2 ^ (8 * (cellOf last - a)))))
def storeN (cs : List (Nat × Int)) (a k v : Nat) : List (Nat × Int) := lo cs (cellOf a) ++ putCells cs a (a + k - 1) v ++ hi cs (cellOf (a + k - 1))
theorem shl64 (v s : Nat) (hs : s <= 64) : IntKind.u64.wrap ((v : Int) * 2 ^ min s 64) = ((v * 2 ^ s % 18446744073709551616 : Nat) : Int) := by
 rw [Nat.min_eq_left hs, IntKind.wrap_u64, Int.natCast_emod, Int.natCast_mul, Int.natCast_pow]; rfl
theorem shr64 (v s : Nat) (hs : s <= 64) : (v : Int) / 2 ^ min s 64 = ((v / 2 ^ s : Nat) : Int) := by
 rw [Nat.min_eq_left hs, Int.natCast_ediv, Int.natCast_pow]; rfl
theorem cellIf_len (a b : Nat) : (cellIf a b).length <= 1 := by unfold cellIf; split <;> simp
theorem cut_mid23 (ao : Option Addr) (n cap f t : Nat) (hft : f <= t) (ht : t <= n) (hn : n <= cap) (hcap : cap <= 9223372036854775807) (h0 : ao = none -> cap = 0) (w : World) :
  (Instr.slice 27 (.slice ao n cap) (some (.int .i64 f)) (some (.int .i64 t)) none).run Tryz.prog w = .ok (.slice (if cap = f then ao else ao.map (fun a => a.add (f * 2))) (t - f) (cap - f)) w := by
 cases ao with
 | none =>
  obtain rfl := h0 rfl
  obtain rfl : n = 0 := by omega
  obtain rfl : t = 0 := by omega
  obtain rfl : f = 0 := by omega
  simp [Instr.slice, go_sem]
 | some a =>
  simp [Instr.slice, go_sem]
  rw [if_pos (by omega), if_pos hft]
theorem Sl.mid23 {k : IntKind} {w : World} {v : Value} {xs : List (Nat × Int)} (h : Sl k w v xs) (f t : Nat) (hft : f <= t) (ht : t <= xs.length) :
  ∃ v', (∀ w', (Instr.slice 27 v (some (.int .i64 f)) (some (.int .i64 t)) none).run Tryz.prog w' = .ok v' w') /\ Sl k w v' ((xs.take t).drop f) := by
 obtain ⟨ao, cap, rfl, h1, h2, h3, h4⟩ := h
 refine ⟨_, fun w' => cut_mid23 ao _ cap f t hft ht h1 h2 h3 w', ⟨(if cap = f then ao else ao.map (fun a => a.add (f * 2))), cap - f, by simp [Nat.min_eq_left ht], by simp; omega, by omega, ?_, fun i hi => ?_⟩⟩
 ·intro h
  split at h
  ·omega
  ·simp at h; have := h3 h; omega
 ·simp at hi
  obtain ⟨b, o, e, c0, c1⟩ := h4 (f + i) (by omega)
  refine ⟨b, o + f * 2, ?_, ?_, ?_⟩
  ·rw [if_neg (by omega), e]; simp [Addr.add]
  ·rw [show o + f * 2 + i * 2 = o + (f + i) * 2 by omega]; simpa using c0
  ·rw [show o + f * 2 + i * 2 = o + (f + i) * 2 by omega]; simpa using c1
theorem parts_mid (xs : List (Nat × Int)) (h : Srt xs) (a b : Nat) (hab : a <= b) : (xs.take ((lo xs a).length + (mid xs a b).length)).drop (lo xs a).length = mid xs a b := by
 have e := congrArg (List.take ((lo xs a).length + (mid xs a b).length)) (parts xs h a b hab)
 rw [<- List.length_append, List.take_left] at e
 rw [<- List.length_append, e, List.drop_left]
end Go.Proofs.YtimfipkbddpdmaaGreatDoor.Gm
