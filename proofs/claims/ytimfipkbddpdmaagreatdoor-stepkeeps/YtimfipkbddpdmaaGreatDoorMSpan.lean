import Derived.Test.YtimfipkbddpdmaaGreatDoorMSl
import Derived.Laws.ResultCell
import Derived.LoopTactic
set_option linter.unusedVariables false
set_option linter.unusedSimpArgs false
set_option maxRecDepth 100000
open Go Go.RowKit
namespace Go.Proofs.YtimfipkbddpdmaaGreatDoor.Gm
theorem boxes4 (w : World) (x0 x1 x2 x3 : Value) (t0 t1 t2 t3 : Nat) : ∃ W, ((((w.alloc (.cells #[x0] t0)).alloc (.cells #[x1] t1)).alloc (.cells #[x2] t2)).alloc (.cells #[x3] t3)) = W /\ Below w.heap.size w W /\
  W.cell? ⟨w.heap.size, 0, none⟩ = some x0 /\ W.cell? ⟨w.heap.size + 1, 0, none⟩ = some x1 /\ W.cell? ⟨w.heap.size + 1 + 1, 0, none⟩ = some x2 /\ W.cell? ⟨w.heap.size + 1 + 1 + 1, 0, none⟩ = some x3 := by
 refine ⟨_, rfl, ?_, ?_, ?_, ?_, ?_⟩
 ·exact ((((Below.refl _ _).alloc (by simp) _).alloc (by simp) _).alloc (by first | (simp; done) | (simp; omega)) _).alloc (by first | (simp; done) | (simp; omega)) _
 ·rw [World.cell?_alloc_lt _ _ _ (by first | (simp; done) | (simp; omega)), World.cell?_alloc_lt _ _ _ (by first | (simp; done) | (simp; omega)), World.cell?_alloc_lt _ _ _ (by simp), World.cell?_alloc_at _ _ _ _ (by simp)]; rfl
 ·rw [World.cell?_alloc_lt _ _ _ (by first | (simp; done) | (simp; omega)), World.cell?_alloc_lt _ _ _ (by simp), World.cell?_alloc_at _ _ _ _ (by simp)]; rfl
 ·rw [World.cell?_alloc_lt _ _ _ (by simp), World.cell?_alloc_at _ _ _ _ (by simp)]; rfl
 ·rw [World.cell?_alloc_at _ _ _ _ (by simp)]; rfl
theorem box1 (w : World) (x : Value) (t : Nat) : ∃ W, w.alloc (.cells #[x] t) = W /\ Below w.heap.size w W /\ W.cell? ⟨w.heap.size, 0, none⟩ = some x := by
 refine ⟨_, rfl, (Below.refl _ _).alloc (Nat.le_refl _) _, ?_⟩
 rw [World.cell?_alloc_at _ _ _ _ (by simp)]; rfl
theorem getD_left {α : Type} (A C : List α) (i : Nat) (h : i < A.length) (d : α) : (A ++ C).getD i d ∈ A := by
 rw [List.getD_eq_getElem?_getD, List.getElem?_append_left h, List.getElem?_eq_getElem h]
 exact List.getElem_mem _
theorem getD_right {α : Type} (A C : List α) (i : Nat) (h : A.length <= i) (h2 : i < A.length + C.length) (d : α) : (A ++ C).getD i d ∈ C := by
 rw [List.getD_eq_getElem?_getD, List.getElem?_append_right h, List.getElem?_eq_getElem (by omega)]
 exact List.getElem_mem _
set_option maxHeartbeats 1000000 in
theorem span38_some (b o n cap f t : Nat) (key : Nat -> Nat) (val : Nat -> Int) (first last : Nat) (w : World)
  (hn : n <= 1073741824) (hc : n <= cap) (hcap : cap <= 9223372036854775807) (hft : f <= t) (htn : t <= n)
  (k1 : ∀ i, i < f -> key i < first) (k2 : ∀ i, f <= i -> i < n -> first <= key i) (k3 : ∀ i, f <= i -> i < t -> key i <= last) (k4 : ∀ i, t <= i -> i < n -> last < key i)
  (hcells : ∀ i, i < n -> w.cell? ⟨b, o + i * 2, none⟩ = some (.int .u64 (key i : Int)) /\ w.cell? ⟨b, o + i * 2 + 1, none⟩ = some (.int .i64 (val i))) :
  Calls Tryz.prog 221 #[.slice (some ⟨b, o, none⟩) n cap, .func (.func 215) #[] #[], .int .u64 first, .int .u64 last] w
   fun e w' => e = .returned (.tuple #[.int .i64 f, .int .i64 t]) /\ Below w.heap.size w w' := by
 have HC : Hid _ := hcells
 have K : Hid ((∀ i, i < f -> key i < first) /\ (∀ i, f <= i -> i < n -> first <= key i) /\ (∀ i, f <= i -> i < t -> key i <= last) /\ (∀ i, t <= i -> i < n -> last < key i)) := ⟨k1, k2, k3, k4⟩
 clear hcells k1 k2 k3 k4
 go_enter Tryz.func221, Tryz.ntmps221
 go_wp2_with fail
 obtain ⟨W, hW, hB, c0, c1, c2, c3⟩ := boxes4 w (.slice (some ⟨b, o, none⟩) n cap) (.func (.func 215) #[] #[]) (.int .u64 first) (.int .u64 last) 26 230 30 30
 rw [hW]
 refine (search_any 228 _ _ _ n f (fun i => decide (first <= key i)) W (by omega) (by omega) (fun i hi => by simpa using K.out.1 i hi) (fun i h1 h2 => by simpa using K.out.2.1 i h1 h2)
  (fun _ _ => by rfl) (fun w1 i hb hi => ?_)).mono ?_
 ·have D := HC.out i hi
  exact clo56 _ _ _ b o n cap i (key i) first (val i) w1 hi (by omega) (keep_cell hb c1) (keep_cell hb c0) (keep_cell hb c2) (keep_cell (below_tr hB hb) D.1) (keep_cell (below_tr hB hb) D.2)
 rintro e w1 ⟨rfl, hb⟩
 have d0 := keep_cell hb c0
 have d1 := keep_cell hb c1
 have d3 := keep_cell hb c3
 have hBb := below_tr hB hb
 clear hW c0 c1 c2 c3 hB hb
 by_cases hfc : f < cap
 ·go_wp2_with fail
  obtain ⟨W2, hW2, hB2, c0⟩ := box1 w1 (.slice (some ⟨b, o + f * 2, none⟩) (n - f) (cap - f)) 26
  rw [hW2]
  refine (search_any 229 _ _ _ (n - f) (t - f) (fun i => decide (last < key (f + i))) W2 (by omega) (by omega) (fun i hi => by simpa using K.out.2.2.1 (f + i) (by omega) (by omega)) (fun i h1 h2 => by simpa using K.out.2.2.2 (f + i) (by omega) (by omega))
   (fun _ _ => by rfl) (fun w3 i hb hi => ?_)).mono ?_
  ·have D := HC.out (f + i) (by omega)
   have bb := below_tr hBb (below_tr hB2 hb)
   have e : o + (f + i) * 2 = o + f * 2 + i * 2 := by omega
   rw [e] at D
   exact clo57 _ _ _ b (o + f * 2) (n - f) (cap - f) i (key (f + i)) last (val (f + i)) w3 hi (by omega) (keep_cell (below_tr hB2 hb) d1) (keep_cell hb c0) (keep_cell (below_tr hB2 hb) d3) (keep_cell bb D.1) (keep_cell bb D.2)
  rintro e w3 ⟨rfl, hb⟩
  go_wp2
  go_ret2
  exact ⟨by rw [show (f : Int) + ((t - f : Nat) : Int) = (t : Int) by omega]; rfl, below_tr hBb (below_tr hB2 hb)⟩
 ·obtain rfl : f = cap := by omega
  obtain rfl : n = f := by omega
  obtain rfl : t = n := by omega
  go_wp2_with fail
  obtain ⟨W2, hW2, hB2, c0⟩ := box1 w1 (.slice (some ⟨b, o, none⟩) 0 0) 26
  rw [hW2]
  refine (search_any 229 _ _ _ 0 0 (fun i => false) W2 (by omega) (by omega) (fun i hi => by omega) (fun i h1 h2 => by omega)
   (fun _ _ => by rfl) (fun w3 i hb hi => by omega)).mono ?_
  rintro e w3 ⟨rfl, hb⟩
  go_wp2
  go_ret2
  exact ⟨by simp, below_tr hBb (below_tr hB2 hb)⟩
set_option maxHeartbeats 1000000 in
theorem span38_none (ao : Option Addr) (cap : Nat) (first last : Nat) (w : World) (hcap : cap <= 9223372036854775807) (hao : ao = none -> cap = 0) :
  Calls Tryz.prog 221 #[.slice ao 0 cap, .func (.func 215) #[] #[], .int .u64 first, .int .u64 last] w
   fun e w' => e = .returned (.tuple #[.int .i64 0, .int .i64 0]) /\ Below w.heap.size w w' := by
 have HA : Hid _ := hao
 clear hao
 go_enter Tryz.func221, Tryz.ntmps221
 go_wp2_with fail
 obtain ⟨W, hW, hB, c0, c1, c2, c3⟩ := boxes4 w (.slice ao 0 cap) (.func (.func 215) #[] #[]) (.int .u64 first) (.int .u64 last) 26 230 30 30
 rw [hW]
 refine (search_any 228 _ _ _ 0 0 (fun i => false) W (by omega) (by omega) (fun i hi => by omega) (fun i h1 h2 => by omega)
  (fun _ _ => by rfl) (fun w1 i hb hi => by omega)).mono ?_
 rintro e w1 ⟨rfl, hb⟩
 have d0 := keep_cell hb c0
 have d1 := keep_cell hb c1
 have d3 := keep_cell hb c3
 have hBb := below_tr hB hb
 clear hW c0 c1 c2 c3 hB hb
 obtain ⟨ad, cp, hsl⟩ : ∃ ad cp, ∀ w, (Instr.slice 26 (.slice ao 0 cap) (some (.int .i64 0)) none none).run Tryz.prog w = .ok (.slice ad 0 cp) w := by
  exact ⟨_, _, fun w => cut_from22 ao 0 cap 0 (by omega) (by omega) hcap HA.out w⟩
 go_wp2_with fail
 obtain ⟨W2, hW2, hB2, c0⟩ := box1 w1 (.slice ad 0 cp) 26
 rw [hW2]
 refine (search_any 229 _ _ _ 0 0 (fun i => false) W2 (by omega) (by omega) (fun i hi => by omega) (fun i h1 h2 => by omega)
  (fun _ _ => by rfl) (fun w3 i hb hi => by omega)).mono ?_
 rintro e w3 ⟨rfl, hb⟩
 go_wp2
 go_ret2
 exact ⟨by simp, below_tr hBb (below_tr hB2 hb)⟩
theorem span38 (v : Value) (A B C : List (Nat × Int)) (first last : Nat) (w : World) (hS : Sl .i64 w v (A ++ B ++ C)) (hn : (A ++ B ++ C).length <= 1073741824)
  (hA : ∀ x ∈ A, x.1 < first) (hB : ∀ x ∈ B, first <= x.1 /\ x.1 <= last) (hC : ∀ x ∈ C, first <= x.1 /\ last < x.1) :
  Calls Tryz.prog 221 #[v, .func (.func 215) #[] #[], .int .u64 first, .int .u64 last] w
   fun e w' => e = .returned (.tuple #[.int .i64 A.length, .int .i64 ((A.length + B.length : Nat) : Int)]) /\ Below w.heap.size w w' := by
 obtain ⟨ao, cap, rfl, h1, h2, h3, h4⟩ := hS
 obtain ⟨xs, hxs⟩ : ∃ xs, xs = A ++ B ++ C := ⟨_, rfl⟩
 have hl : xs.length = A.length + B.length + C.length := by rw [hxs]; simp; omega
 rw [<- hxs] at h1 hn h4 |-
 by_cases h0 : xs.length = 0
 ·have a0 : A = [] := List.eq_nil_of_length_eq_zero (by omega)
  have b0 : B = [] := List.eq_nil_of_length_eq_zero (by omega)
  rw [h0, a0, b0]
  exact span38_none ao cap first last w h2 h3
 ·obtain ⟨b, o, rfl, _, _⟩ := h4 0 (by omega)
  have key : ∀ i (h : i < xs.length), xs.getD i (0, 0) = xs[i] := fun i h => by simp [h]
  refine span38_some b o xs.length cap A.length (A.length + B.length) (fun i => (xs.getD i (0, 0)).1) (fun i => (xs.getD i (0, 0)).2) first last w hn h1 h2 (by omega) (by omega) (fun i hi => ?_) (fun i hi hj => ?_) (fun i hi hj => ?_) (fun i hi hj => ?_) (fun i hi => ?_)
  ·refine hA _ ?_
   rw [hxs, List.append_assoc]; exact getD_left _ _ _ hi _
  ·have hm : xs.getD i (0, 0) ∈ B ++ C := by
    rw [hxs, List.append_assoc]; exact getD_right _ _ _ hi (by simp; omega) _
   rcases List.mem_append.1 hm with h | h
   ·exact (hB _ h).1
   ·exact (hC _ h).1
  ·have hm : xs.getD i (0, 0) ∈ B := by
    have h5 := getD_left (A ++ B) C i (by simp; omega) (0, 0)
    rw [<- hxs] at h5
    have h6 := getD_right A (B ++ C) i hi (by simp; omega) (0, 0)
    rw [<- List.append_assoc, <- hxs] at h6
    rcases List.mem_append.1 h5 with h | h
    ·rcases List.mem_append.1 h6 with h6 | h6
     ·exact h6
     ·exact absurd (hA _ h) (Nat.not_lt.2 (hC _ h6).1)
    ·exact h
   exact (hB _ hm).2
  ·have hm : xs.getD i (0, 0) ∈ C := by
    rw [hxs]; exact getD_right _ _ _ (by simp; omega) (by simp; omega) _
   exact (hC _ hm).2
  ·obtain ⟨b', o', e, c0, c1⟩ := h4 i hi
   simp only [Option.some.injEq, Addr.mk.injEq, and_true] at e
   obtain ⟨rfl, rfl⟩ := e
   rw [key i hi]
   exact ⟨c0, c1⟩
set_option maxHeartbeats 1000000 in
theorem span50_some (b o n cap f t : Nat) (key : Nat -> Nat) (val : Nat -> Int) (first last : Nat) (w : World)
  (hn : n <= 1073741824) (hc : n <= cap) (hcap : cap <= 9223372036854775807) (hft : f <= t) (htn : t <= n)
  (k1 : ∀ i, i < f -> key i < first) (k2 : ∀ i, f <= i -> i < n -> first <= key i) (k3 : ∀ i, f <= i -> i < t -> key i <= last) (k4 : ∀ i, t <= i -> i < n -> last < key i)
  (hcells : ∀ i, i < n -> w.cell? ⟨b, o + i * 2, none⟩ = some (.int .u64 (key i : Int)) /\ w.cell? ⟨b, o + i * 2 + 1, none⟩ = some (.int .u64 (val i))) :
  Calls Tryz.prog 222 #[.slice (some ⟨b, o, none⟩) n cap, .func (.func 217) #[] #[], .int .u64 first, .int .u64 last] w
   fun e w' => e = .returned (.tuple #[.int .i64 f, .int .i64 t]) /\ Below w.heap.size w w' := by
 have HC : Hid _ := hcells
 have K : Hid ((∀ i, i < f -> key i < first) /\ (∀ i, f <= i -> i < n -> first <= key i) /\ (∀ i, f <= i -> i < t -> key i <= last) /\ (∀ i, t <= i -> i < n -> last < key i)) := ⟨k1, k2, k3, k4⟩
 clear hcells k1 k2 k3 k4
 go_enter Tryz.func222, Tryz.ntmps222
 go_wp2_with fail
 obtain ⟨W, hW, hB, c0, c1, c2, c3⟩ := boxes4 w (.slice (some ⟨b, o, none⟩) n cap) (.func (.func 217) #[] #[]) (.int .u64 first) (.int .u64 last) 27 233 30 30
 rw [hW]
 refine (search_any 230 _ _ _ n f (fun i => decide (first <= key i)) W (by omega) (by omega) (fun i hi => by simpa using K.out.1 i hi) (fun i h1 h2 => by simpa using K.out.2.1 i h1 h2)
  (fun _ _ => by rfl) (fun w1 i hb hi => ?_)).mono ?_
 ·have D := HC.out i hi
  exact clo62 _ _ _ b o n cap i (key i) first (val i) w1 hi (by omega) (keep_cell hb c1) (keep_cell hb c0) (keep_cell hb c2) (keep_cell (below_tr hB hb) D.1) (keep_cell (below_tr hB hb) D.2)
 rintro e w1 ⟨rfl, hb⟩
 have d0 := keep_cell hb c0
 have d1 := keep_cell hb c1
 have d3 := keep_cell hb c3
 have hBb := below_tr hB hb
 clear hW c0 c1 c2 c3 hB hb
 by_cases hfc : f < cap
 ·go_wp2_with fail
  obtain ⟨W2, hW2, hB2, c0⟩ := box1 w1 (.slice (some ⟨b, o + f * 2, none⟩) (n - f) (cap - f)) 27
  rw [hW2]
  refine (search_any 231 _ _ _ (n - f) (t - f) (fun i => decide (last < key (f + i))) W2 (by omega) (by omega) (fun i hi => by simpa using K.out.2.2.1 (f + i) (by omega) (by omega)) (fun i h1 h2 => by simpa using K.out.2.2.2 (f + i) (by omega) (by omega))
   (fun _ _ => by rfl) (fun w3 i hb hi => ?_)).mono ?_
  ·have D := HC.out (f + i) (by omega)
   have bb := below_tr hBb (below_tr hB2 hb)
   have e : o + (f + i) * 2 = o + f * 2 + i * 2 := by omega
   rw [e] at D
   exact clo63 _ _ _ b (o + f * 2) (n - f) (cap - f) i (key (f + i)) last (val (f + i)) w3 hi (by omega) (keep_cell (below_tr hB2 hb) d1) (keep_cell hb c0) (keep_cell (below_tr hB2 hb) d3) (keep_cell bb D.1) (keep_cell bb D.2)
  rintro e w3 ⟨rfl, hb⟩
  go_wp2
  go_ret2
  exact ⟨by rw [show (f : Int) + ((t - f : Nat) : Int) = (t : Int) by omega]; rfl, below_tr hBb (below_tr hB2 hb)⟩
 ·obtain rfl : f = cap := by omega
  obtain rfl : n = f := by omega
  obtain rfl : t = n := by omega
  go_wp2_with fail
  obtain ⟨W2, hW2, hB2, c0⟩ := box1 w1 (.slice (some ⟨b, o, none⟩) 0 0) 27
  rw [hW2]
  refine (search_any 231 _ _ _ 0 0 (fun i => false) W2 (by omega) (by omega) (fun i hi => by omega) (fun i h1 h2 => by omega)
   (fun _ _ => by rfl) (fun w3 i hb hi => by omega)).mono ?_
  rintro e w3 ⟨rfl, hb⟩
  go_wp2
  go_ret2
  exact ⟨by simp, below_tr hBb (below_tr hB2 hb)⟩
set_option maxHeartbeats 1000000 in
theorem span50_none (ao : Option Addr) (cap : Nat) (first last : Nat) (w : World) (hcap : cap <= 9223372036854775807) (hao : ao = none -> cap = 0) :
  Calls Tryz.prog 222 #[.slice ao 0 cap, .func (.func 217) #[] #[], .int .u64 first, .int .u64 last] w
   fun e w' => e = .returned (.tuple #[.int .i64 0, .int .i64 0]) /\ Below w.heap.size w w' := by
 have HA : Hid _ := hao
 clear hao
 go_enter Tryz.func222, Tryz.ntmps222
 go_wp2_with fail
 obtain ⟨W, hW, hB, c0, c1, c2, c3⟩ := boxes4 w (.slice ao 0 cap) (.func (.func 217) #[] #[]) (.int .u64 first) (.int .u64 last) 27 233 30 30
 rw [hW]
 refine (search_any 230 _ _ _ 0 0 (fun i => false) W (by omega) (by omega) (fun i hi => by omega) (fun i h1 h2 => by omega)
  (fun _ _ => by rfl) (fun w1 i hb hi => by omega)).mono ?_
 rintro e w1 ⟨rfl, hb⟩
 have d0 := keep_cell hb c0
 have d1 := keep_cell hb c1
 have d3 := keep_cell hb c3
 have hBb := below_tr hB hb
 clear hW c0 c1 c2 c3 hB hb
 obtain ⟨ad, cp, hsl⟩ : ∃ ad cp, ∀ w, (Instr.slice 27 (.slice ao 0 cap) (some (.int .i64 0)) none none).run Tryz.prog w = .ok (.slice ad 0 cp) w := by
  exact ⟨_, _, fun w => cut_from23 ao 0 cap 0 (by omega) (by omega) hcap HA.out w⟩
 go_wp2_with fail
 obtain ⟨W2, hW2, hB2, c0⟩ := box1 w1 (.slice ad 0 cp) 27
 rw [hW2]
 refine (search_any 231 _ _ _ 0 0 (fun i => false) W2 (by omega) (by omega) (fun i hi => by omega) (fun i h1 h2 => by omega)
  (fun _ _ => by rfl) (fun w3 i hb hi => by omega)).mono ?_
 rintro e w3 ⟨rfl, hb⟩
 go_wp2
 go_ret2
 exact ⟨by simp, below_tr hBb (below_tr hB2 hb)⟩
theorem span50 (v : Value) (A B C : List (Nat × Int)) (first last : Nat) (w : World) (hS : Sl .u64 w v (A ++ B ++ C)) (hn : (A ++ B ++ C).length <= 1073741824)
  (hA : ∀ x ∈ A, x.1 < first) (hB : ∀ x ∈ B, first <= x.1 /\ x.1 <= last) (hC : ∀ x ∈ C, first <= x.1 /\ last < x.1) :
  Calls Tryz.prog 222 #[v, .func (.func 217) #[] #[], .int .u64 first, .int .u64 last] w
   fun e w' => e = .returned (.tuple #[.int .i64 A.length, .int .i64 ((A.length + B.length : Nat) : Int)]) /\ Below w.heap.size w w' := by
 obtain ⟨ao, cap, rfl, h1, h2, h3, h4⟩ := hS
 obtain ⟨xs, hxs⟩ : ∃ xs, xs = A ++ B ++ C := ⟨_, rfl⟩
 have hl : xs.length = A.length + B.length + C.length := by rw [hxs]; simp; omega
 rw [<- hxs] at h1 hn h4 |-
 by_cases h0 : xs.length = 0
 ·have a0 : A = [] := List.eq_nil_of_length_eq_zero (by omega)
  have b0 : B = [] := List.eq_nil_of_length_eq_zero (by omega)
  rw [h0, a0, b0]
  exact span50_none ao cap first last w h2 h3
 ·obtain ⟨b, o, rfl, _, _⟩ := h4 0 (by omega)
  have key : ∀ i (h : i < xs.length), xs.getD i (0, 0) = xs[i] := fun i h => by simp [h]
  refine span50_some b o xs.length cap A.length (A.length + B.length) (fun i => (xs.getD i (0, 0)).1) (fun i => (xs.getD i (0, 0)).2) first last w hn h1 h2 (by omega) (by omega) (fun i hi => ?_) (fun i hi hj => ?_) (fun i hi hj => ?_) (fun i hi hj => ?_) (fun i hi => ?_)
  ·refine hA _ ?_
   rw [hxs, List.append_assoc]; exact getD_left _ _ _ hi _
  ·have hm : xs.getD i (0, 0) ∈ B ++ C := by
    rw [hxs, List.append_assoc]; exact getD_right _ _ _ hi (by simp; omega) _
   rcases List.mem_append.1 hm with h | h
   ·exact (hB _ h).1
   ·exact (hC _ h).1
  ·have hm : xs.getD i (0, 0) ∈ B := by
    have h5 := getD_left (A ++ B) C i (by simp; omega) (0, 0)
    rw [<- hxs] at h5
    have h6 := getD_right A (B ++ C) i hi (by simp; omega) (0, 0)
    rw [<- List.append_assoc, <- hxs] at h6
    rcases List.mem_append.1 h5 with h | h
    ·rcases List.mem_append.1 h6 with h6 | h6
     ·exact h6
     ·exact absurd (hA _ h) (Nat.not_lt.2 (hC _ h6).1)
    ·exact h
   exact (hB _ hm).2
  ·have hm : xs.getD i (0, 0) ∈ C := by
    rw [hxs]; exact getD_right _ _ _ (by simp; omega) (by simp; omega) _
   exact (hC _ hm).2
  ·obtain ⟨b', o', e, c0, c1⟩ := h4 i hi
   simp only [Option.some.injEq, Addr.mk.injEq, and_true] at e
   obtain ⟨rfl, rfl⟩ := e
   rw [key i hi]
   exact ⟨c0, c1⟩
theorem sl_at {k : IntKind} {w : World} {v : Value} {A B C : List (Nat × Int)} {x : Nat × Int} (h : Sl k w v (A ++ (x :: B) ++ C)) :
  ∃ b o n cap, v = .slice (some ⟨b, o, none⟩) n cap /\ A.length < n /\ n <= cap /\ cap <= 9223372036854775807 /\ w.cell? ⟨b, o + A.length * 2, none⟩ = some (.int .u64 x.1) /\ w.cell? ⟨b, o + A.length * 2 + 1, none⟩ = some (.int k x.2) := by
 obtain ⟨ao, cap, rfl, h1, h2, h3, h4⟩ := h
 obtain ⟨b, o, rfl, c0, c1⟩ := h4 A.length (by simp)
 refine ⟨b, o, _, cap, rfl, by simp, h1, h2, ?_, ?_⟩
 ·simpa using c0
 ·simpa using c1
set_option maxHeartbeats 1000000 in
theorem found32 (v : Value) (A B C : List (Nat × Int)) (at_ : Nat) (w : World) (hS : Sl .i64 w v (A ++ B ++ C)) (hn : (A ++ B ++ C).length <= 1073741824)
  (hA : ∀ x ∈ A, x.1 < at_) (hB : ∀ x ∈ B, at_ <= x.1 /\ x.1 <= at_) (hC : ∀ x ∈ C, at_ <= x.1 /\ at_ < x.1) :
  Calls Tryz.prog 214 #[v, .func (.func 215) #[] #[], .int .u64 at_] w
   fun e w' => e = .returned (.tuple #[.agg #[.int .u64 ((B.headD (0, 0)).1 : Int), .int .i64 (B.headD (0, 0)).2], .bool (!B.isEmpty)]) /\ Below w.heap.size w w' := by
 have HS : Hid (∀ w', Below w.heap.size w w' -> Sl .i64 w' v (A ++ B ++ C)) := fun w' hb => hS.keep hb
 have K : Hid (∀ w, Sl .i64 w v (A ++ B ++ C) -> Calls Tryz.prog 221 #[v, .func (.func 215) #[] #[], .int .u64 at_, .int .u64 at_] w
   fun e w' => e = .returned (.tuple #[.int .i64 A.length, .int .i64 ((A.length + B.length : Nat) : Int)]) /\ Below w.heap.size w w') := fun w h => span38 v A B C at_ at_ w h hn hA hB hC
 have hl : A.length + B.length <= 1073741824 := by simp at hn; omega
 clear hA hB hC hn
 obtain ⟨W, hW, hb, hsz, cA, cB, fA, fB⟩ := box2 w (.int .u64 0) (.int .i64 0) 86
 have KW := K.out W (HS.out W hb)
 clear K
 cases B with
 | nil =>
  clear hS
  go_enter Tryz.func214, Tryz.ntmps214
  go_wp2_with fail
  refine KW.mono ?_
  rintro e w1 ⟨rfl, hb1⟩
  have dA := keep_cell hb1 cA
  have dB := keep_cell hb1 cB
  have gA := keep_frozen hb1 (by simp [hsz]) fA
  have gB := keep_frozen hb1 (by simp [hsz]) fB
  have hbb := below_tr hb hb1
  clear hW cA cB fA fB KW hb hb1
  go_wp2
  (try simp only [Exit.inBlock, Exit.then])
  refine bodyPost_ret (v := .tuple #[.agg #[.int .u64 0, .int .i64 0], .bool false]) ?_ rfl ⟨by simp, ?_⟩
  ·rw [results_cell_tmp rfl]
   go_simp
  exact (hbb.setCell (Nat.le_refl _) _).setCell (Nat.le_refl _) _
 | cons x B =>
  obtain ⟨b, o, n, cap, rfl, hln, hnc, hcap, c0, c1⟩ := sl_at hS
  clear hS
  go_enter Tryz.func214, Tryz.ntmps214
  go_wp2_with fail
  refine KW.mono ?_
  rintro e w1 ⟨rfl, hb1⟩
  have dA := keep_cell hb1 cA
  have dB := keep_cell hb1 cB
  have gA := keep_frozen hb1 (by simp [hsz]) fA
  have gB := keep_frozen hb1 (by simp [hsz]) fB
  have hbb := below_tr hb hb1
  have d0 := keep_cell hbb c0
  have d1 := keep_cell hbb c1
  clear hW cA cB fA fB KW hb hb1 c0 c1 HS
  go_wp2
  (try simp only [Exit.inBlock, Exit.then])
  refine bodyPost_ret (v := .tuple #[.agg #[.int .u64 x.1, .int .i64 x.2], .bool true]) ?_ rfl ⟨by simp, ?_⟩
  ·rw [results_cell_tmp rfl]
   go_simp
  exact (hbb.setCell (Nat.le_refl _) _).setCell (Nat.le_refl _) _
def placeOf (xs : List (Nat × Int)) (p : Nat) : Int := match xs.findIdx? (fun x => x.1 == p) with | some i => (i : Int) | none => -1
theorem placeOf_some (xs : List (Nat × Int)) (p k : Nat) (h : k < xs.length) (e : xs[k].1 = p) (hn : ∀ j (hj : j < k), xs[j].1 ≠ p) : placeOf xs p = (k : Int) := by
 have : xs.findIdx? (fun x => x.1 == p) = some k := by
  rw [List.findIdx?_eq_some_iff_getElem]
  exact ⟨h, by simpa using e, fun j hj => by simpa using hn j hj⟩
 rw [placeOf, this]
theorem placeOf_none (xs : List (Nat × Int)) (p : Nat) (hn : ∀ j (hj : j < xs.length), xs[j].1 ≠ p) : placeOf xs p = -1 := by
 have : xs.findIdx? (fun x => x.1 == p) = none := by
  rw [List.findIdx?_eq_none_iff]
  intro x hx
  obtain ⟨j, hj, rfl⟩ := List.getElem_of_mem hx
  simpa using hn j hj
 rw [placeOf, this]
def wordOf (xs : List (Nat × Int)) (p : Nat) : Int := match xs.find? (fun x => x.1 == p) with | some x => x.2 | none => 0
set_option maxHeartbeats 1000000 in
theorem place33 (vm vc : Value) (ms : List (Nat × Int)) (p : Nat) (w : World) (hm : Sl .i64 w vm ms) (hc : ∃ a n q, vc = .slice a n q) :
  Calls Tryz.prog 32 #[.agg #[vm, vc], .int .u64 p] w fun e w' => e = .returned (.int .i64 (placeOf ms p)) /\ Below w.heap.size w w' := by
 obtain ⟨W, hW, hb, hsz, c0, c1, _, _⟩ := box2 w vm vc 29
 obtain ⟨ao, cap, rfl, h1, h2, h3, h4⟩ := hm
 obtain ⟨a, n, q, rfl⟩ := hc
 have HC : Hid (∀ i (h : i < ms.length), ∃ b o, ao = some ⟨b, o, none⟩ /\ W.cell? ⟨b, o + i * 2, none⟩ = some (.int .u64 (ms[i].1 : Int))) := fun i hi => by
  obtain ⟨b, o, e, d0, d1⟩ := h4 i hi
  exact ⟨b, o, e, keep_cell hb d0⟩
 clear h3 h4
 go_enter Tryz.func32, Tryz.ntmps32
 go_wp2
 go_loopw [5] (fun i wr => ∃ k : Nat, k <= ms.length /\ i = .int .i64 k /\ W = wr /\ ∀ j (hj : j < k) (hl : j < ms.length), ms[j].1 ≠ p) (fun i _ => ms.length - (intOf i).toNat)
 case atStart => exact ⟨0, Nat.zero_le _, rfl, rfl, fun j hj => by omega⟩
 case round =>
  obtain ⟨k, hk, rfl, rfl, hno⟩ := hrel
  have HN : Hid _ := hno
  clear hno
  by_cases hkl : k < ms.length
  ·obtain ⟨b, o, rfl, d0⟩ := HC.out k hkl
   by_cases hp : ms[k].1 = p
   ·have HR : Hid (placeOf ms p = (k : Int)) := placeOf_some ms p k hkl hp (fun j hj => HN.out j hj (by omega))
    rw [hp] at d0
    go_wp2
    go_ret
    exact ⟨by rw [HR.out]; rfl, hb⟩
   ·obtain ⟨x, hx⟩ : ∃ x, x = ms[k].1 := ⟨_, rfl⟩
    rw [<- hx] at d0 hp
    have hpi : ((x : Int) == (p : Int)) = false := by simp; omega
    go_wp2
    go_roundw
    case rel => exact ⟨k + 1, by omega, by go_num, by first | rfl | trivial, fun j hj hl => by
     by_cases e : j = k
     ·subst e; omega
     ·exact HN.out j (by omega) hl⟩
    case measure => simp [intOf]; omega
  ·have HR : Hid (placeOf ms p = -1) := placeOf_none ms p (fun j hj => HN.out j (by omega) hj)
   go_wp2
   go_ret
   exact ⟨by rw [HR.out]; rfl, hb⟩
def Srt (xs : List (Nat × Int)) : Prop := xs.Pairwise (fun x y => x.1 < y.1)
def lo (xs : List (Nat × Int)) (a : Nat) : List (Nat × Int) := xs.filter (fun x => decide (x.1 < a))
def mid (xs : List (Nat × Int)) (a b : Nat) : List (Nat × Int) := xs.filter (fun x => decide (a <= x.1 /\ x.1 <= b))
def hi (xs : List (Nat × Int)) (b : Nat) : List (Nat × Int) := xs.filter (fun x => decide (b < x.1))
theorem parts (xs : List (Nat × Int)) (h : Srt xs) (a b : Nat) (hab : a <= b) : xs = lo xs a ++ mid xs a b ++ hi xs b := by
 induction xs with
 | nil => rfl
 | cons x xs ih =>
  obtain ⟨h1, h2⟩ := List.pairwise_cons.1 h
  have ih := ih h2
  rcases Nat.lt_or_ge x.1 a with c | c
  ·have e1 : lo (x :: xs) a = x :: lo xs a := by simp [lo, c]
   have e2 : mid (x :: xs) a b = mid xs a b := by rw [mid, List.filter_cons_of_neg (by simp; omega)]; rfl
   have e3 : hi (x :: xs) b = hi xs b := by rw [hi, List.filter_cons_of_neg (by simp; omega)]; rfl
   rw [e1, e2, e3, List.cons_append, List.cons_append, <- ih]
  ·have l0 : lo xs a = [] := by
    rw [lo, List.filter_eq_nil_iff]; intro y hy; have := h1 y hy; simp; omega
   have e1 : lo (x :: xs) a = [] := by simp [lo, Nat.not_lt.2 c]; intro y z hy; have := h1 _ hy; simp at this; omega
   rcases Nat.lt_or_ge b x.1 with d | d
   ·have m0 : mid xs a b = [] := by
     rw [mid, List.filter_eq_nil_iff]; intro y hy; have := h1 y hy; simp; omega
    have e2 : mid (x :: xs) a b = [] := by rw [mid, List.filter_cons_of_neg (by simp; omega)]; exact m0
    have e3 : hi (x :: xs) b = x :: hi xs b := by simp [hi, d]
    rw [e1, e2, e3]
    rw [l0, m0] at ih
    simp only [List.nil_append] at ih |-
    rw [<- ih]
   ·have e2 : mid (x :: xs) a b = x :: mid xs a b := by rw [mid, List.filter_cons_of_pos (by simp; omega)]; rfl
    have e3 : hi (x :: xs) b = hi xs b := by rw [hi, List.filter_cons_of_neg (by simp; omega)]; rfl
    rw [e1, e2, e3]
    rw [l0] at ih
    simp only [List.nil_append, List.cons_append] at ih |-
    rw [<- ih]
theorem mid_find (xs : List (Nat × Int)) (a : Nat) : (mid xs a a).head? = xs.find? (fun x => x.1 == a) := by
 rw [mid, List.head?_filter]
 congr 1
 funext x
 rw [Bool.eq_iff_iff]; simp; omega
theorem mid_word (xs : List (Nat × Int)) (a : Nat) : ((mid xs a a).headD (0, 0)).2 = wordOf xs a := by
 have h := mid_find xs a
 rw [wordOf]
 cases hm : mid xs a a with
 | nil => rw [hm] at h; rw [<- h]; rfl
 | cons x l => rw [hm] at h; rw [<- h]; rfl
theorem found32s (v : Value) (xs : List (Nat × Int)) (at_ : Nat) (w : World) (hS : Sl .i64 w v xs) (hs : Srt xs) (hn : xs.length <= 1073741824) :
  Calls Tryz.prog 214 #[v, .func (.func 215) #[] #[], .int .u64 at_] w
   fun e w' => e = .returned (.tuple #[.agg #[.int .u64 (((mid xs at_ at_).headD (0, 0)).1 : Int), .int .i64 ((mid xs at_ at_).headD (0, 0)).2], .bool (!(mid xs at_ at_).isEmpty)]) /\ Below w.heap.size w w' := by
 have e := parts xs hs at_ at_ (Nat.le_refl _)
 rw [e] at hS hn
 exact found32 v _ _ _ at_ w hS hn (fun x hx => by simpa [lo] using (List.mem_filter.1 hx).2) (fun x hx => by simpa [mid] using (List.mem_filter.1 hx).2) (fun x hx => by have := (List.mem_filter.1 hx).2; simp at this; omega)
theorem span50s (v : Value) (xs : List (Nat × Int)) (first last : Nat) (w : World) (hS : Sl .u64 w v xs) (hs : Srt xs) (hn : xs.length <= 1073741824) (hab : first <= last) :
  Calls Tryz.prog 222 #[v, .func (.func 217) #[] #[], .int .u64 first, .int .u64 last] w
   fun e w' => e = .returned (.tuple #[.int .i64 ((lo xs first).length : Int), .int .i64 (((lo xs first).length + (mid xs first last).length : Nat) : Int)]) /\ Below w.heap.size w w' := by
 have e := parts xs hs first last hab
 rw [e] at hS hn
 exact span50 v _ _ _ first last w hS hn (fun x hx => by simpa [lo] using (List.mem_filter.1 hx).2) (fun x hx => by simpa [mid] using (List.mem_filter.1 hx).2) (fun x hx => by have := (List.mem_filter.1 hx).2; simp at this; omega)
end Go.Proofs.YtimfipkbddpdmaaGreatDoor.Gm
