import Derived.Test.YtimfipkbddpdmaaGreatDoorChecked
import Derived.WalkKit
import Derived.Below
import Derived.Deep.RegionHeld3
import Derived.LoopTactic
set_option linter.unusedVariables false
set_option linter.unusedSimpArgs false
set_option maxRecDepth 100000
open Go Go.RowKit
namespace Go.Proofs.YtimfipkbddpdmaaGreatDoor.Gm
def Sl (k : IntKind) (w : World) (v : Value) (xs : List (Nat × Int)) : Prop :=
 ∃ ao cap, v = .slice ao xs.length cap /\ xs.length <= cap /\ cap <= 9223372036854775807 /\ (ao = none -> cap = 0) /\
  ∀ i (h : i < xs.length), ∃ b o, ao = some ⟨b, o, none⟩ /\ w.cell? ⟨b, o + i * 2, none⟩ = some (.int .u64 (xs[i].1 : Int)) /\ w.cell? ⟨b, o + i * 2 + 1, none⟩ = some (.int k xs[i].2)
theorem keep_cell {w w' : World} (h : Below w.heap.size w w') {a : Addr} {v : Value} (hc : w.cell? a = some v) : w'.cell? a = some v :=
 (h.cell (World.block_lt_of_cell? w a hc)).trans hc
theorem Sl.keep {k : IntKind} {w w' : World} {v : Value} {xs : List (Nat × Int)} (h : Sl k w v xs) (hb : Below w.heap.size w w') : Sl k w' v xs := by
 obtain ⟨ao, cap, rfl, h1, h2, h3, h4⟩ := h
 refine ⟨ao, cap, rfl, h1, h2, h3, fun i hi => ?_⟩
 obtain ⟨b, o, e, c0, c1⟩ := h4 i hi
 exact ⟨b, o, e, keep_cell hb c0, keep_cell hb c1⟩
theorem below_tr {w w1 w2 : World} (h : Below w.heap.size w w1) (h' : Below w1.heap.size w1 w2) : Below w.heap.size w w2 := h.trans (h'.mono h.size)
theorem box2 (w : World) (x0 x1 : Value) (t : Nat) : ∃ W, w.alloc (.cells #[x0, x1] t) = W /\ Below w.heap.size w W /\ W.heap.size = w.heap.size + 1 /\
  W.cell? ⟨w.heap.size, 0, none⟩ = some x0 /\ W.cell? ⟨w.heap.size, 1, none⟩ = some x1 /\ W.frozen? ⟨w.heap.size, 0, none⟩ = false /\ W.frozen? ⟨w.heap.size, 1, none⟩ = false := by
 refine ⟨_, rfl, (Below.refl _ _).alloc (Nat.le_refl _) _, by simp, ?_, ?_, ?_, ?_⟩
 ·rw [World.cell?_alloc_at _ _ _ _ (by simp)]; rfl
 ·rw [World.cell?_alloc_at _ _ _ _ (by simp)]; rfl
 ·simp
 ·simp
theorem keep_frozen {w w' : World} (h : Below w.heap.size w w') {a : Addr} (hc : a.block < w.heap.size) (hf : w.frozen? a = false) : w'.frozen? a = false :=
 (h.frozen hc).trans hf
theorem pageOf_any (p : Nat) (r : Int) (w : World) :
  Calls Tryz.prog 215 #[.agg #[.int .u64 p, .int .i64 r]] w fun e w' => e = .returned (.int .u64 p) /\ Below w.heap.size w w' := by
 go_enter Tryz.func215, Tryz.ntmps215
 go_wp2
 go_ret
 exact ⟨rfl, by exact (Below.refl _ _).alloc (Nat.le_refl _) _⟩
theorem atOf_any (p : Nat) (r : Int) (w : World) :
  Calls Tryz.prog 217 #[.agg #[.int .u64 p, .int .u64 r]] w fun e w' => e = .returned (.int .u64 p) /\ Below w.heap.size w w' := by
 go_enter Tryz.func217, Tryz.ntmps217
 go_wp2
 go_ret
 exact ⟨rfl, by exact (Below.refl _ _).alloc (Nat.le_refl _) _⟩
set_option maxHeartbeats 1000000 in
theorem clo56 (pf pl pt : Addr) (b o n cap i x first : Nat) (r : Int) (w : World) (hi : i < n) (hn : n <= 9223372036854775807)
  (hf : w.cell? pf = some (.func (.func 215) #[] #[])) (hl : w.cell? pl = some (.slice (some ⟨b, o, none⟩) n cap)) (ht : w.cell? pt = some (.int .u64 first))
  (h0 : w.cell? ⟨b, o + i * 2, none⟩ = some (.int .u64 x)) (h1 : w.cell? ⟨b, o + i * 2 + 1, none⟩ = some (.int .i64 r)) :
  Calls Tryz.prog 228 #[.int .i64 i, .pointer (some pf), .pointer (some pl), .pointer (some pt)] w fun e w' => e = .returned (.bool (decide (first <= x))) /\ Below w.heap.size w w' := by
 go_enter Tryz.func228, Tryz.ntmps228
 go_wp2
 go_region_held3 (fun w' => w'.cell? pf = some (.func (.func 215) #[] #[]) /\ w'.cell? pl = some (.slice (some ⟨b, o, none⟩) n cap) /\ w'.cell? pt = some (.int .u64 first) /\ w'.cell? ⟨b, o + i * 2, none⟩ = some (.int .u64 x) /\ w'.cell? ⟨b, o + i * 2 + 1, none⟩ = some (.int .i64 r)) (first | go_keep | (refine ⟨?_, ?_, ?_, ?_, ?_⟩ <;> exact keep_cell (by assumption) (by simp [*]))) ((go_at_call 215; refine (pageOf_any _ _ _).mono ?_; rintro e w' ⟨rfl, bel⟩))
 all_goals (go_wp2; go_ret)
 refine ⟨by simp, below_tr (Below.refl _ _).drew (by assumption)⟩
set_option maxHeartbeats 1000000 in
theorem clo57 (pf pl pt : Addr) (b o n cap i x first : Nat) (r : Int) (w : World) (hi : i < n) (hn : n <= 9223372036854775807)
  (hf : w.cell? pf = some (.func (.func 215) #[] #[])) (hl : w.cell? pl = some (.slice (some ⟨b, o, none⟩) n cap)) (ht : w.cell? pt = some (.int .u64 first))
  (h0 : w.cell? ⟨b, o + i * 2, none⟩ = some (.int .u64 x)) (h1 : w.cell? ⟨b, o + i * 2 + 1, none⟩ = some (.int .i64 r)) :
  Calls Tryz.prog 229 #[.int .i64 i, .pointer (some pf), .pointer (some pl), .pointer (some pt)] w fun e w' => e = .returned (.bool (decide (first < x))) /\ Below w.heap.size w w' := by
 go_enter Tryz.func229, Tryz.ntmps229
 go_wp2
 go_region_held3 (fun w' => w'.cell? pf = some (.func (.func 215) #[] #[]) /\ w'.cell? pl = some (.slice (some ⟨b, o, none⟩) n cap) /\ w'.cell? pt = some (.int .u64 first) /\ w'.cell? ⟨b, o + i * 2, none⟩ = some (.int .u64 x) /\ w'.cell? ⟨b, o + i * 2 + 1, none⟩ = some (.int .i64 r)) (first | go_keep | (refine ⟨?_, ?_, ?_, ?_, ?_⟩ <;> exact keep_cell (by assumption) (by simp [*]))) ((go_at_call 215; refine (pageOf_any _ _ _).mono ?_; rintro e w' ⟨rfl, bel⟩))
 all_goals (go_wp2; go_ret)
 refine ⟨by simp, below_tr (Below.refl _ _).drew (by assumption)⟩
set_option maxHeartbeats 1000000 in
theorem clo62 (pf pl pt : Addr) (b o n cap i x first : Nat) (r : Int) (w : World) (hi : i < n) (hn : n <= 9223372036854775807)
  (hf : w.cell? pf = some (.func (.func 217) #[] #[])) (hl : w.cell? pl = some (.slice (some ⟨b, o, none⟩) n cap)) (ht : w.cell? pt = some (.int .u64 first))
  (h0 : w.cell? ⟨b, o + i * 2, none⟩ = some (.int .u64 x)) (h1 : w.cell? ⟨b, o + i * 2 + 1, none⟩ = some (.int .u64 r)) :
  Calls Tryz.prog 230 #[.int .i64 i, .pointer (some pf), .pointer (some pl), .pointer (some pt)] w fun e w' => e = .returned (.bool (decide (first <= x))) /\ Below w.heap.size w w' := by
 go_enter Tryz.func230, Tryz.ntmps230
 go_wp2
 go_region_held3 (fun w' => w'.cell? pf = some (.func (.func 217) #[] #[]) /\ w'.cell? pl = some (.slice (some ⟨b, o, none⟩) n cap) /\ w'.cell? pt = some (.int .u64 first) /\ w'.cell? ⟨b, o + i * 2, none⟩ = some (.int .u64 x) /\ w'.cell? ⟨b, o + i * 2 + 1, none⟩ = some (.int .u64 r)) (first | go_keep | (refine ⟨?_, ?_, ?_, ?_, ?_⟩ <;> exact keep_cell (by assumption) (by simp [*]))) ((go_at_call 217; refine (atOf_any _ _ _).mono ?_; rintro e w' ⟨rfl, bel⟩))
 all_goals (go_wp2; go_ret)
 refine ⟨by simp, below_tr (Below.refl _ _).drew (by assumption)⟩
set_option maxHeartbeats 1000000 in
theorem clo63 (pf pl pt : Addr) (b o n cap i x first : Nat) (r : Int) (w : World) (hi : i < n) (hn : n <= 9223372036854775807)
  (hf : w.cell? pf = some (.func (.func 217) #[] #[])) (hl : w.cell? pl = some (.slice (some ⟨b, o, none⟩) n cap)) (ht : w.cell? pt = some (.int .u64 first))
  (h0 : w.cell? ⟨b, o + i * 2, none⟩ = some (.int .u64 x)) (h1 : w.cell? ⟨b, o + i * 2 + 1, none⟩ = some (.int .u64 r)) :
  Calls Tryz.prog 231 #[.int .i64 i, .pointer (some pf), .pointer (some pl), .pointer (some pt)] w fun e w' => e = .returned (.bool (decide (first < x))) /\ Below w.heap.size w w' := by
 go_enter Tryz.func231, Tryz.ntmps231
 go_wp2
 go_region_held3 (fun w' => w'.cell? pf = some (.func (.func 217) #[] #[]) /\ w'.cell? pl = some (.slice (some ⟨b, o, none⟩) n cap) /\ w'.cell? pt = some (.int .u64 first) /\ w'.cell? ⟨b, o + i * 2, none⟩ = some (.int .u64 x) /\ w'.cell? ⟨b, o + i * 2 + 1, none⟩ = some (.int .u64 r)) (first | go_keep | (refine ⟨?_, ?_, ?_, ?_, ?_⟩ <;> exact keep_cell (by assumption) (by simp [*]))) ((go_at_call 217; refine (atOf_any _ _ _).mono ?_; rintro e w' ⟨rfl, bel⟩))
 all_goals (go_wp2; go_ret)
 refine ⟨by simp, below_tr (Below.refl _ _).drew (by assumption)⟩
set_option maxHeartbeats 1000000 in
theorem search_any (g : Nat) (c1 c2 c3 : Value) (n m : Nat) (p : Nat -> Bool) (w : World) (hn : n <= 4611686018427387904) (hm : m <= n)
  (hlo : ∀ i, i < m -> p i = false) (hhi : ∀ i, m <= i -> i < n -> p i = true)
  (eg : ∀ args w, (callFunc g args).run Tryz.prog w = .ok (.enter g args) w)
  (hf : ∀ w1 (i : Nat), Below w.heap.size w w1 -> i < n -> Calls Tryz.prog g #[.int .i64 i, c1, c2, c3] w1 fun e w' => e = .returned (.bool (p i)) /\ Below w1.heap.size w1 w') :
  Calls Tryz.prog 227 #[.int .i64 n, .func (.func g) #[] #[c1, c2, c3]] w fun e w' => e = .returned (.int .i64 m) /\ Below w.heap.size w w' := by
 have HF : Hid _ := hf
 have HL : Hid _ := hlo
 have HH : Hid _ := hhi
 clear hf hlo hhi
 go_enter Tryz.func227, Tryz.ntmps227
 go_wp2
 go_loopw [5, 6] (fun a b wr => ∃ i j : Nat, a = .int .i64 i /\ b = .int .i64 j /\ i <= m /\ m <= j /\ j <= n /\ Below w.heap.size w wr)
  (fun a b _ => (intOf b).toNat - (intOf a).toNat)
 case atStart => exact ⟨0, n, rfl, rfl, Nat.zero_le _, hm, Nat.le_refl _, Below.refl _ _⟩
 case round =>
  obtain ⟨i, j, rfl, rfl, h1, h2, h3, hb⟩ := hrel
  by_cases hij : i < j
  ·go_wp2_with fail
   rw [show ((i : Int) + (j : Int)) / 2 = (((i + j) / 2 : Nat) : Int) by omega]
   obtain ⟨h, hh⟩ : ∃ h, h = (i + j) / 2 := ⟨_, rfl⟩
   rw [<- hh]
   have g1 : i <= h := by omega
   have g2 : h < j := by omega
   clear hh
   refine (HF.out wr h hb (by omega)).mono ?_
   rintro e w1 ⟨rfl, hb1⟩
   by_cases hp : h < m
   ·rw [HL.out h hp]
    go_wp2
    go_roundw
    case rel => exact ⟨h + 1, j, by go_num, rfl, by omega, h2, h3, below_tr hb hb1⟩
    case measure => simp [intOf]; omega
   ·rw [HH.out h (by omega) (by omega)]
    go_wp2
    go_roundw
    case rel => exact ⟨i, h, rfl, rfl, h1, by omega, by omega, below_tr hb hb1⟩
    case measure => simp [intOf]; omega
  ·go_wp2
   go_ret
   obtain rfl : i = m := by omega
   exact ⟨rfl, hb⟩
theorem cut_from22 (ao : Option Addr) (n cap f : Nat) (hf : f <= n) (hn : n <= cap) (hcap : cap <= 9223372036854775807) (h0 : ao = none -> cap = 0) (w : World) :
  (Instr.slice 26 (.slice ao n cap) (some (.int .i64 f)) none none).run Tryz.prog w = .ok (.slice (if cap = f then ao else ao.map (fun a => a.add (f * 2))) (n - f) (cap - f)) w := by
 cases ao with
 | none =>
  obtain rfl := h0 rfl
  obtain rfl : n = 0 := by omega
  obtain rfl : f = 0 := by omega
  simp [Instr.slice, go_sem]
 | some a =>
  simp [Instr.slice, go_sem]
  intro h; omega
theorem cut_to23 (ao : Option Addr) (n cap f : Nat) (hf : f <= n) (hn : n <= cap) (hcap : cap <= 9223372036854775807) (h0 : ao = none -> cap = 0) (w : World) :
  (Instr.slice 27 (.slice ao n cap) none (some (.int .i64 f)) none).run Tryz.prog w = .ok (.slice ao f cap) w := by
 cases ao with
 | none =>
  obtain rfl := h0 rfl
  obtain rfl : n = 0 := by omega
  obtain rfl : f = 0 := by omega
  simp [Instr.slice, go_sem]
 | some a =>
  simp [Instr.slice, go_sem]
  intro h; omega
theorem cut_from23 (ao : Option Addr) (n cap f : Nat) (hf : f <= n) (hn : n <= cap) (hcap : cap <= 9223372036854775807) (h0 : ao = none -> cap = 0) (w : World) :
  (Instr.slice 27 (.slice ao n cap) (some (.int .i64 f)) none none).run Tryz.prog w = .ok (.slice (if cap = f then ao else ao.map (fun a => a.add (f * 2))) (n - f) (cap - f)) w := by
 cases ao with
 | none =>
  obtain rfl := h0 rfl
  obtain rfl : n = 0 := by omega
  obtain rfl : f = 0 := by omega
  simp [Instr.slice, go_sem]
 | some a =>
  simp [Instr.slice, go_sem]
  intro h; omega
theorem Sl.to23 {k : IntKind} {w : World} {v : Value} {xs : List (Nat × Int)} (h : Sl k w v xs) (f : Nat) (hf : f <= xs.length) :
  ∃ v', (∀ w', (Instr.slice 27 v none (some (.int .i64 f)) none).run Tryz.prog w' = .ok v' w') /\ Sl k w v' (xs.take f) /\ ∃ ao n cap, v' = .slice ao n cap := by
 obtain ⟨ao, cap, rfl, h1, h2, h3, h4⟩ := h
 refine ⟨.slice ao f cap, fun w' => cut_to23 ao _ cap f hf h1 h2 h3 w', ⟨ao, cap, by simp [Nat.min_eq_left hf], by simp; omega, h2, h3, fun i hi => ?_⟩, _, _, _, rfl⟩
 simp at hi
 obtain ⟨b, o, e, c0, c1⟩ := h4 i (by omega)
 exact ⟨b, o, e, by simpa using c0, by simpa using c1⟩
theorem Sl.from23 {k : IntKind} {w : World} {v : Value} {xs : List (Nat × Int)} (h : Sl k w v xs) (f : Nat) (hf : f <= xs.length) :
  ∃ v', (∀ w', (Instr.slice 27 v (some (.int .i64 f)) none none).run Tryz.prog w' = .ok v' w') /\ Sl k w v' (xs.drop f) /\ ∃ ao n cap, v' = .slice ao n cap := by
 obtain ⟨ao, cap, rfl, h1, h2, h3, h4⟩ := h
 refine ⟨_, fun w' => cut_from23 ao _ cap f hf h1 h2 h3 w', ⟨(if cap = f then ao else ao.map (fun a => a.add (f * 2))), cap - f, by simp, by simp; omega, by omega, ?_, fun i hi => ?_⟩, _, _, _, rfl⟩
 ·intro h
  split at h
  ·omega
  ·simp at h; have := h3 h; omega
 ·simp at hi
  obtain ⟨b, o, e, c0, c1⟩ := h4 (f + i) (by omega)
  refine ⟨b, o + f * 2, ?_, ?_, ?_⟩
  ·rw [if_neg (by omega), e]; simp [Addr.add]
  ·rw [show o + f * 2 + i * 2 = o + (f + i) * 2 by omega]; simpa using c0
  ·rw [show o + f * 2 + i * 2 = o + (f + i) * 2 by omega]; simpa using c1
end Go.Proofs.YtimfipkbddpdmaaGreatDoor.Gm
