/- What is proved here: which items of a list that rises stand from one place to another. -/
import Derived.Test.YtolmcbnammhjjaaClo
import Derived.Test.YtolmcbnammhjjaaSearch
import Derived.Test.YtolmcbnammhjjaaCuts
namespace Go.Proofs.Ytolmcbnammhjjaa
open Go.RowKit
set_option linter.unusedVariables false
theorem boxes4 (w : World) (x0 x1 x2 x3 : Value) (t0 t1 t2 t3 : Nat) : ∃ W, ((((w.alloc (.cells #[x0] t0)).alloc (.cells #[x1] t1)).alloc (.cells #[x2] t2)).alloc (.cells #[x3] t3)) = W ∧ Below w.heap.size w W ∧
    W.cell? ⟨w.heap.size, 0, none⟩ = some x0 ∧ W.cell? ⟨w.heap.size + 1, 0, none⟩ = some x1 ∧ W.cell? ⟨w.heap.size + 1 + 1, 0, none⟩ = some x2 ∧ W.cell? ⟨w.heap.size + 1 + 1 + 1, 0, none⟩ = some x3 := by
  refine ⟨_, rfl, ?_, ?_, ?_, ?_, ?_⟩
  · exact ((((Below.refl _ _).alloc (by simp) _).alloc (by simp) _).alloc (by first | (simp; done) | (simp; omega)) _).alloc (by first | (simp; done) | (simp; omega)) _
  · rw [World.cell?_alloc_lt _ _ _ (by first | (simp; done) | (simp; omega)), World.cell?_alloc_lt _ _ _ (by first | (simp; done) | (simp; omega)), World.cell?_alloc_lt _ _ _ (by simp), World.cell?_alloc_at _ _ _ _ (by simp)]; rfl
  · rw [World.cell?_alloc_lt _ _ _ (by first | (simp; done) | (simp; omega)), World.cell?_alloc_lt _ _ _ (by simp), World.cell?_alloc_at _ _ _ _ (by simp)]; rfl
  · rw [World.cell?_alloc_lt _ _ _ (by simp), World.cell?_alloc_at _ _ _ _ (by simp)]; rfl
  · rw [World.cell?_alloc_at _ _ _ _ (by simp)]; rfl
theorem box1 (w : World) (x : Value) (t : Nat) : ∃ W, w.alloc (.cells #[x] t) = W ∧ Below w.heap.size w W ∧ W.cell? ⟨w.heap.size, 0, none⟩ = some x := by
  refine ⟨_, rfl, (Below.refl _ _).alloc (Nat.le_refl _) _, ?_⟩
  rw [World.cell?_alloc_at _ _ _ _ (by simp)]; rfl
theorem getD_left {α : Type} (A C : List α) (i : Nat) (h : i < A.length) (d : α) : (A ++ C).getD i d ∈ A := by
  rw [List.getD_eq_getElem?_getD, List.getElem?_append_left h, List.getElem?_eq_getElem h]
  exact List.getElem_mem _
theorem getD_right {α : Type} (A C : List α) (i : Nat) (h : A.length ≤ i) (h2 : i < A.length + C.length) (d : α) : (A ++ C).getD i d ∈ C := by
  rw [List.getD_eq_getElem?_getD, List.getElem?_append_right h, List.getElem?_eq_getElem (by omega)]
  exact List.getElem_mem _
set_option maxHeartbeats 1000000 in
theorem span38_some (b o n cap f t : Nat) (key : Nat → Nat) (val : Nat → Int) (first last : Nat) (w : World) 
    (hn : n ≤ 1073741824) (hc : n ≤ cap) (hcap : cap ≤ 9223372036854775807) (hft : f ≤ t) (htn : t ≤ n)
    (k1 : ∀ i, i < f → key i < first) (k2 : ∀ i, f ≤ i → i < n → first ≤ key i) (k3 : ∀ i, f ≤ i → i < t → key i ≤ last) (k4 : ∀ i, t ≤ i → i < n → last < key i)
    (hcells : ∀ i, i < n → w.cell? ⟨b, o + i * 2, none⟩ = some (.int .u64 (key i : Int)) ∧ w.cell? ⟨b, o + i * 2 + 1, none⟩ = some (.int .i64 (val i))) :
    Calls Try.prog 38 #[.slice (some ⟨b, o, none⟩) n cap, .func (.func 28) #[] #[], .int .u64 (first : Int), .int .u64 (last : Int)] w
      fun e w' => e = .returned (.tuple #[.int .i64 (f : Int), .int .i64 (t : Int)]) ∧ Below w.heap.size w w' := by
  have HC : Hid _ := hcells
  have K : Hid ((∀ i, i < f → key i < first) ∧ (∀ i, f ≤ i → i < n → first ≤ key i) ∧ (∀ i, f ≤ i → i < t → key i ≤ last) ∧ (∀ i, t ≤ i → i < n → last < key i)) := ⟨k1, k2, k3, k4⟩
  clear hcells k1 k2 k3 k4
  go_enter Try.func38, Try.ntmps38
  go_wp2_with fail
  obtain ⟨W, hW, hB, c0, c1, c2, c3⟩ := boxes4 w (.slice (some ⟨b, o, none⟩) n cap) (.func (.func 28) #[] #[]) (.int .u64 (first : Int)) (.int .u64 (last : Int)) 22 55 26 26
  rw [hW]
  refine (search_any 56 _ _ _ n f (fun i => decide (first ≤ key i)) W (by omega) (by omega) (fun i hi => by simpa using K.out.1 i hi) (fun i h1 h2 => by simpa using K.out.2.1 i h1 h2)
    (fun _ _ => by rfl) (fun w1 i hb hi => ?_)).mono ?_
  · have D := HC.out i hi
    exact clo56 _ _ _ b o n cap i (key i) first (val i) w1 hi (by omega) (keep_cell hb c1) (keep_cell hb c0) (keep_cell hb c2) (keep_cell (below_tr hB hb) D.1) (keep_cell (below_tr hB hb) D.2)
  rintro e w1 ⟨rfl, hb⟩
  have d0 := keep_cell hb c0
  have d1 := keep_cell hb c1
  have d3 := keep_cell hb c3
  have hBb := below_tr hB hb
  clear hW c0 c1 c2 c3 hB hb
  by_cases hfc : f < cap
  · go_wp2_with fail
    obtain ⟨W2, hW2, hB2, c0⟩ := box1 w1 (.slice (some ⟨b, o + f * 2, none⟩) (n - f) (cap - f)) 22
    rw [hW2]
    refine (search_any 57 _ _ _ (n - f) (t - f) (fun i => decide (last < key (f + i))) W2 (by omega) (by omega) (fun i hi => by simpa using K.out.2.2.1 (f + i) (by omega) (by omega)) (fun i h1 h2 => by simpa using K.out.2.2.2 (f + i) (by omega) (by omega))
      (fun _ _ => by rfl) (fun w3 i hb hi => ?_)).mono ?_
    · have D := HC.out (f + i) (by omega)
      have bb := below_tr hBb (below_tr hB2 hb)
      have e : o + (f + i) * 2 = o + f * 2 + i * 2 := by omega
      rw [e] at D
      exact clo57 _ _ _ b (o + f * 2) (n - f) (cap - f) i (key (f + i)) last (val (f + i)) w3 hi (by omega) (keep_cell (below_tr hB2 hb) d1) (keep_cell hb c0) (keep_cell (below_tr hB2 hb) d3) (keep_cell bb D.1) (keep_cell bb D.2)
    rintro e w3 ⟨rfl, hb⟩
    go_wp2
    go_ret2
    exact ⟨by rw [show (f : Int) + ((t - f : Nat) : Int) = (t : Int) by omega]; rfl, below_tr hBb (below_tr hB2 hb)⟩
  · obtain rfl : f = cap := by omega
    obtain rfl : n = f := by omega
    obtain rfl : t = n := by omega
    go_wp2_with fail
    obtain ⟨W2, hW2, hB2, c0⟩ := box1 w1 (.slice (some ⟨b, o, none⟩) 0 0) 22
    rw [hW2]
    refine (search_any 57 _ _ _ 0 0 (fun i => false) W2 (by omega) (by omega) (fun i hi => by omega) (fun i h1 h2 => by omega)
      (fun _ _ => by rfl) (fun w3 i hb hi => by omega)).mono ?_
    rintro e w3 ⟨rfl, hb⟩
    go_wp2
    go_ret2
    exact ⟨by simp, below_tr hBb (below_tr hB2 hb)⟩
set_option maxHeartbeats 1000000 in
theorem span38_none (ao : Option Addr) (cap : Nat) (first last : Nat) (w : World) (hcap : cap ≤ 9223372036854775807) (hao : ao = none → cap = 0) :
    Calls Try.prog 38 #[.slice ao 0 cap, .func (.func 28) #[] #[], .int .u64 (first : Int), .int .u64 (last : Int)] w
      fun e w' => e = .returned (.tuple #[.int .i64 0, .int .i64 0]) ∧ Below w.heap.size w w' := by
  have HA : Hid _ := hao
  clear hao
  go_enter Try.func38, Try.ntmps38
  go_wp2_with fail
  obtain ⟨W, hW, hB, c0, c1, c2, c3⟩ := boxes4 w (.slice ao 0 cap) (.func (.func 28) #[] #[]) (.int .u64 (first : Int)) (.int .u64 (last : Int)) 22 55 26 26
  rw [hW]
  refine (search_any 56 _ _ _ 0 0 (fun i => false) W (by omega) (by omega) (fun i hi => by omega) (fun i h1 h2 => by omega)
    (fun _ _ => by rfl) (fun w1 i hb hi => by omega)).mono ?_
  rintro e w1 ⟨rfl, hb⟩
  have d0 := keep_cell hb c0
  have d1 := keep_cell hb c1
  have d3 := keep_cell hb c3
  have hBb := below_tr hB hb
  clear hW c0 c1 c2 c3 hB hb
  obtain ⟨ad, cp, hsl⟩ : ∃ ad cp, ∀ w, (Instr.slice 22 (.slice ao 0 cap) (some (.int .i64 0)) none none).run Try.prog w = .ok (.slice ad 0 cp) w := by
    exact ⟨_, _, fun w => cut_from22 ao 0 cap 0 (by omega) (by omega) hcap HA.out w⟩
  go_wp2_with fail
  obtain ⟨W2, hW2, hB2, c0⟩ := box1 w1 (.slice ad 0 cp) 22
  rw [hW2]
  refine (search_any 57 _ _ _ 0 0 (fun i => false) W2 (by omega) (by omega) (fun i hi => by omega) (fun i h1 h2 => by omega)
    (fun _ _ => by rfl) (fun w3 i hb hi => by omega)).mono ?_
  rintro e w3 ⟨rfl, hb⟩
  go_wp2
  go_ret2
  exact ⟨by simp, below_tr hBb (below_tr hB2 hb)⟩
/-- The items from first to last of a list that rises. -/
theorem span38 (v : Value) (A B C : List (Nat × Int)) (first last : Nat) (w : World) (hS : Sl .i64 w v (A ++ B ++ C)) (hn : (A ++ B ++ C).length ≤ 1073741824)
    (hA : ∀ x ∈ A, x.1 < first) (hB : ∀ x ∈ B, first ≤ x.1 ∧ x.1 ≤ last) (hC : ∀ x ∈ C, first ≤ x.1 ∧ last < x.1) :
    Calls Try.prog 38 #[v, .func (.func 28) #[] #[], .int .u64 (first : Int), .int .u64 (last : Int)] w
      fun e w' => e = .returned (.tuple #[.int .i64 (A.length : Int), .int .i64 ((A.length + B.length : Nat) : Int)]) ∧ Below w.heap.size w w' := by
  obtain ⟨ao, cap, rfl, h1, h2, h3, h4⟩ := hS
  obtain ⟨xs, hxs⟩ : ∃ xs, xs = A ++ B ++ C := ⟨_, rfl⟩
  have hl : xs.length = A.length + B.length + C.length := by rw [hxs]; simp; omega
  rw [← hxs] at h1 hn h4 ⊢
  by_cases h0 : xs.length = 0
  · have a0 : A = [] := List.eq_nil_of_length_eq_zero (by omega)
    have b0 : B = [] := List.eq_nil_of_length_eq_zero (by omega)
    rw [h0, a0, b0]
    exact span38_none ao cap first last w h2 h3
  · obtain ⟨b, o, rfl, _, _⟩ := h4 0 (by omega)
    have key : ∀ i (h : i < xs.length), xs.getD i (0, 0) = xs[i] := fun i h => by simp [h]
    refine span38_some b o xs.length cap A.length (A.length + B.length) (fun i => (xs.getD i (0, 0)).1) (fun i => (xs.getD i (0, 0)).2) first last w hn h1 h2 (by omega) (by omega) (fun i hi => ?_) (fun i hi hj => ?_) (fun i hi hj => ?_) (fun i hi hj => ?_) (fun i hi => ?_)
    · refine hA _ ?_
      rw [hxs, List.append_assoc]; exact getD_left _ _ _ hi _
    · have hm : xs.getD i (0, 0) ∈ B ++ C := by
        rw [hxs, List.append_assoc]; exact getD_right _ _ _ hi (by simp; omega) _
      rcases List.mem_append.1 hm with h | h
      · exact (hB _ h).1
      · exact (hC _ h).1
    · have hm : xs.getD i (0, 0) ∈ B := by
        have h5 := getD_left (A ++ B) C i (by simp; omega) (0, 0)
        rw [← hxs] at h5
        have h6 := getD_right A (B ++ C) i hi (by simp; omega) (0, 0)
        rw [← List.append_assoc, ← hxs] at h6
        rcases List.mem_append.1 h5 with h | h
        · rcases List.mem_append.1 h6 with h6 | h6
          · exact h6
          · exact absurd (hA _ h) (Nat.not_lt.2 (hC _ h6).1)
        · exact h
      exact (hB _ hm).2
    · have hm : xs.getD i (0, 0) ∈ C := by
        rw [hxs]; exact getD_right _ _ _ (by simp; omega) (by simp; omega) _
      exact (hC _ hm).2
    · obtain ⟨b', o', e, c0, c1⟩ := h4 i hi
      simp only [Option.some.injEq, Addr.mk.injEq, and_true] at e
      obtain ⟨rfl, rfl⟩ := e
      rw [key i hi]
      exact ⟨c0, c1⟩
set_option maxHeartbeats 1000000 in
theorem span50_some (b o n cap f t : Nat) (key : Nat → Nat) (val : Nat → Int) (first last : Nat) (w : World) 
    (hn : n ≤ 1073741824) (hc : n ≤ cap) (hcap : cap ≤ 9223372036854775807) (hft : f ≤ t) (htn : t ≤ n)
    (k1 : ∀ i, i < f → key i < first) (k2 : ∀ i, f ≤ i → i < n → first ≤ key i) (k3 : ∀ i, f ≤ i → i < t → key i ≤ last) (k4 : ∀ i, t ≤ i → i < n → last < key i)
    (hcells : ∀ i, i < n → w.cell? ⟨b, o + i * 2, none⟩ = some (.int .u64 (key i : Int)) ∧ w.cell? ⟨b, o + i * 2 + 1, none⟩ = some (.int .u64 (val i))) :
    Calls Try.prog 50 #[.slice (some ⟨b, o, none⟩) n cap, .func (.func 30) #[] #[], .int .u64 (first : Int), .int .u64 (last : Int)] w
      fun e w' => e = .returned (.tuple #[.int .i64 (f : Int), .int .i64 (t : Int)]) ∧ Below w.heap.size w w' := by
  have HC : Hid _ := hcells
  have K : Hid ((∀ i, i < f → key i < first) ∧ (∀ i, f ≤ i → i < n → first ≤ key i) ∧ (∀ i, f ≤ i → i < t → key i ≤ last) ∧ (∀ i, t ≤ i → i < n → last < key i)) := ⟨k1, k2, k3, k4⟩
  clear hcells k1 k2 k3 k4
  go_enter Try.func50, Try.ntmps50
  go_wp2_with fail
  obtain ⟨W, hW, hB, c0, c1, c2, c3⟩ := boxes4 w (.slice (some ⟨b, o, none⟩) n cap) (.func (.func 30) #[] #[]) (.int .u64 (first : Int)) (.int .u64 (last : Int)) 23 59 26 26
  rw [hW]
  refine (search_any 62 _ _ _ n f (fun i => decide (first ≤ key i)) W (by omega) (by omega) (fun i hi => by simpa using K.out.1 i hi) (fun i h1 h2 => by simpa using K.out.2.1 i h1 h2)
    (fun _ _ => by rfl) (fun w1 i hb hi => ?_)).mono ?_
  · have D := HC.out i hi
    exact clo62 _ _ _ b o n cap i (key i) first (val i) w1 hi (by omega) (keep_cell hb c1) (keep_cell hb c0) (keep_cell hb c2) (keep_cell (below_tr hB hb) D.1) (keep_cell (below_tr hB hb) D.2)
  rintro e w1 ⟨rfl, hb⟩
  have d0 := keep_cell hb c0
  have d1 := keep_cell hb c1
  have d3 := keep_cell hb c3
  have hBb := below_tr hB hb
  clear hW c0 c1 c2 c3 hB hb
  by_cases hfc : f < cap
  · go_wp2_with fail
    obtain ⟨W2, hW2, hB2, c0⟩ := box1 w1 (.slice (some ⟨b, o + f * 2, none⟩) (n - f) (cap - f)) 23
    rw [hW2]
    refine (search_any 63 _ _ _ (n - f) (t - f) (fun i => decide (last < key (f + i))) W2 (by omega) (by omega) (fun i hi => by simpa using K.out.2.2.1 (f + i) (by omega) (by omega)) (fun i h1 h2 => by simpa using K.out.2.2.2 (f + i) (by omega) (by omega))
      (fun _ _ => by rfl) (fun w3 i hb hi => ?_)).mono ?_
    · have D := HC.out (f + i) (by omega)
      have bb := below_tr hBb (below_tr hB2 hb)
      have e : o + (f + i) * 2 = o + f * 2 + i * 2 := by omega
      rw [e] at D
      exact clo63 _ _ _ b (o + f * 2) (n - f) (cap - f) i (key (f + i)) last (val (f + i)) w3 hi (by omega) (keep_cell (below_tr hB2 hb) d1) (keep_cell hb c0) (keep_cell (below_tr hB2 hb) d3) (keep_cell bb D.1) (keep_cell bb D.2)
    rintro e w3 ⟨rfl, hb⟩
    go_wp2
    go_ret2
    exact ⟨by rw [show (f : Int) + ((t - f : Nat) : Int) = (t : Int) by omega]; rfl, below_tr hBb (below_tr hB2 hb)⟩
  · obtain rfl : f = cap := by omega
    obtain rfl : n = f := by omega
    obtain rfl : t = n := by omega
    go_wp2_with fail
    obtain ⟨W2, hW2, hB2, c0⟩ := box1 w1 (.slice (some ⟨b, o, none⟩) 0 0) 23
    rw [hW2]
    refine (search_any 63 _ _ _ 0 0 (fun i => false) W2 (by omega) (by omega) (fun i hi => by omega) (fun i h1 h2 => by omega)
      (fun _ _ => by rfl) (fun w3 i hb hi => by omega)).mono ?_
    rintro e w3 ⟨rfl, hb⟩
    go_wp2
    go_ret2
    exact ⟨by simp, below_tr hBb (below_tr hB2 hb)⟩
set_option maxHeartbeats 1000000 in
theorem span50_none (ao : Option Addr) (cap : Nat) (first last : Nat) (w : World) (hcap : cap ≤ 9223372036854775807) (hao : ao = none → cap = 0) :
    Calls Try.prog 50 #[.slice ao 0 cap, .func (.func 30) #[] #[], .int .u64 (first : Int), .int .u64 (last : Int)] w
      fun e w' => e = .returned (.tuple #[.int .i64 0, .int .i64 0]) ∧ Below w.heap.size w w' := by
  have HA : Hid _ := hao
  clear hao
  go_enter Try.func50, Try.ntmps50
  go_wp2_with fail
  obtain ⟨W, hW, hB, c0, c1, c2, c3⟩ := boxes4 w (.slice ao 0 cap) (.func (.func 30) #[] #[]) (.int .u64 (first : Int)) (.int .u64 (last : Int)) 23 59 26 26
  rw [hW]
  refine (search_any 62 _ _ _ 0 0 (fun i => false) W (by omega) (by omega) (fun i hi => by omega) (fun i h1 h2 => by omega)
    (fun _ _ => by rfl) (fun w1 i hb hi => by omega)).mono ?_
  rintro e w1 ⟨rfl, hb⟩
  have d0 := keep_cell hb c0
  have d1 := keep_cell hb c1
  have d3 := keep_cell hb c3
  have hBb := below_tr hB hb
  clear hW c0 c1 c2 c3 hB hb
  obtain ⟨ad, cp, hsl⟩ : ∃ ad cp, ∀ w, (Instr.slice 23 (.slice ao 0 cap) (some (.int .i64 0)) none none).run Try.prog w = .ok (.slice ad 0 cp) w := by
    exact ⟨_, _, fun w => cut_from23 ao 0 cap 0 (by omega) (by omega) hcap HA.out w⟩
  go_wp2_with fail
  obtain ⟨W2, hW2, hB2, c0⟩ := box1 w1 (.slice ad 0 cp) 23
  rw [hW2]
  refine (search_any 63 _ _ _ 0 0 (fun i => false) W2 (by omega) (by omega) (fun i hi => by omega) (fun i h1 h2 => by omega)
    (fun _ _ => by rfl) (fun w3 i hb hi => by omega)).mono ?_
  rintro e w3 ⟨rfl, hb⟩
  go_wp2
  go_ret2
  exact ⟨by simp, below_tr hBb (below_tr hB2 hb)⟩
/-- The items from first to last of a list that rises. -/
theorem span50 (v : Value) (A B C : List (Nat × Int)) (first last : Nat) (w : World) (hS : Sl .u64 w v (A ++ B ++ C)) (hn : (A ++ B ++ C).length ≤ 1073741824)
    (hA : ∀ x ∈ A, x.1 < first) (hB : ∀ x ∈ B, first ≤ x.1 ∧ x.1 ≤ last) (hC : ∀ x ∈ C, first ≤ x.1 ∧ last < x.1) :
    Calls Try.prog 50 #[v, .func (.func 30) #[] #[], .int .u64 (first : Int), .int .u64 (last : Int)] w
      fun e w' => e = .returned (.tuple #[.int .i64 (A.length : Int), .int .i64 ((A.length + B.length : Nat) : Int)]) ∧ Below w.heap.size w w' := by
  obtain ⟨ao, cap, rfl, h1, h2, h3, h4⟩ := hS
  obtain ⟨xs, hxs⟩ : ∃ xs, xs = A ++ B ++ C := ⟨_, rfl⟩
  have hl : xs.length = A.length + B.length + C.length := by rw [hxs]; simp; omega
  rw [← hxs] at h1 hn h4 ⊢
  by_cases h0 : xs.length = 0
  · have a0 : A = [] := List.eq_nil_of_length_eq_zero (by omega)
    have b0 : B = [] := List.eq_nil_of_length_eq_zero (by omega)
    rw [h0, a0, b0]
    exact span50_none ao cap first last w h2 h3
  · obtain ⟨b, o, rfl, _, _⟩ := h4 0 (by omega)
    have key : ∀ i (h : i < xs.length), xs.getD i (0, 0) = xs[i] := fun i h => by simp [h]
    refine span50_some b o xs.length cap A.length (A.length + B.length) (fun i => (xs.getD i (0, 0)).1) (fun i => (xs.getD i (0, 0)).2) first last w hn h1 h2 (by omega) (by omega) (fun i hi => ?_) (fun i hi hj => ?_) (fun i hi hj => ?_) (fun i hi hj => ?_) (fun i hi => ?_)
    · refine hA _ ?_
      rw [hxs, List.append_assoc]; exact getD_left _ _ _ hi _
    · have hm : xs.getD i (0, 0) ∈ B ++ C := by
        rw [hxs, List.append_assoc]; exact getD_right _ _ _ hi (by simp; omega) _
      rcases List.mem_append.1 hm with h | h
      · exact (hB _ h).1
      · exact (hC _ h).1
    · have hm : xs.getD i (0, 0) ∈ B := by
        have h5 := getD_left (A ++ B) C i (by simp; omega) (0, 0)
        rw [← hxs] at h5
        have h6 := getD_right A (B ++ C) i hi (by simp; omega) (0, 0)
        rw [← List.append_assoc, ← hxs] at h6
        rcases List.mem_append.1 h5 with h | h
        · rcases List.mem_append.1 h6 with h6 | h6
          · exact h6
          · exact absurd (hA _ h) (Nat.not_lt.2 (hC _ h6).1)
        · exact h
      exact (hB _ hm).2
    · have hm : xs.getD i (0, 0) ∈ C := by
        rw [hxs]; exact getD_right _ _ _ (by simp; omega) (by simp; omega) _
      exact (hC _ hm).2
    · obtain ⟨b', o', e, c0, c1⟩ := h4 i hi
      simp only [Option.some.injEq, Addr.mk.injEq, and_true] at e
      obtain ⟨rfl, rfl⟩ := e
      rw [key i hi]
      exact ⟨c0, c1⟩
end Go.Proofs.Ytolmcbnammhjjaa
