/- What is proved here: made: the number that a work makes of two, or the quiet one. -/
import Derived.Test.YtlchjfdnkplmmaaOrder
import Derived.Deep.RegionHeld
namespace Go.Proofs.Ytlchjfdnkplmmaa
open Go.RowKit

set_option maxHeartbeats 1000000 in
theorem made1_thrown_a (fn : Nat) (pf pa pb : Addr) (a b : Nat) (hA : a < 18446744073709551616) (h : isNone a) (w : World)
    (hf : w.cell? pf = some (.func (.func fn) #[] #[])) (hp : w.cell? pa = some (.int .u64 (a : Int))) (hq : w.cell? pb = some (.int .u64 (b : Int))) :
    Calls Try.prog 54 #[.pointer (some pf), .pointer (some pa), .pointer (some pb)] w fun e w' => (∃ x : Int, e = .panicked (thrown x)) ∧ Below w.heap.size w w' := by
  have K1 : Hid (∀ w, Calls Try.prog 33 #[.int .u64 (a : Int), .int .i64 3] w fun e w' => e = .panicked (thrown a) ∧ w' = w) := fun w => number_thrown a hA 3 (class_none a h) w
  clear hA h
  go_enter Try.func54, Try.ntmps54
  go_wp2
  refine wp_region_held_drew (S := fun w' => w'.cell? pf = some (.func (.func fn) #[] #[]) ∧ w'.cell? pa = some (.int .u64 (a : Int)) ∧ w'.cell? pb = some (.int .u64 (b : Int))) (by kernel_rfl) ⟨by simp [hf], by simp [hp], by simp [hq]⟩ (fun hS => ?_)
  refine wpAnyH_take (i := 0) (v := .func (.func fn) #[] #[]) rfl (by kernel_rfl) (by kernel_rfl) (by kernel_rfl) (fun _ _ _ h => h) (Or.inl ⟨by rfl, fun w hSw => ?_⟩) hS ?_
  · dsimp only at hSw; go_simp
  simp only [Act.put]
  refine wpAnyH_take (i := 1) (v := .int .u64 (a : Int)) rfl (by kernel_rfl) (by kernel_rfl) (by kernel_rfl) (fun _ _ _ h => h) (Or.inl ⟨by rfl, fun w hSw => ?_⟩) hS ?_
  · dsimp only at hSw; go_simp
  simp only [Act.put]
  refine wpAnyH_take (i := 3) (v := .int .u64 (b : Int)) rfl (by kernel_rfl) (by kernel_rfl) (by kernel_rfl) (fun _ _ _ h => h) (Or.inl ⟨by rfl, fun w hSw => ?_⟩) hS ?_
  · dsimp only at hSw; go_simp
  simp only [Act.put]
  refine wpAnyH_ready (rs := [2]) (by kernel_rfl) (by simp) (AllReadyH.cons rfl (fun K hK => ?_) AllReadyH.nil)
  go_simp
  go_wp2_with fail
  refine (K1.out _).mono ?_
  rintro e w1 ⟨rfl, rfl⟩
  go_wp2_with fail
  exact ⟨rfl, ⟨_, rfl⟩, (Below.refl _ _).drew⟩
set_option maxHeartbeats 1000000 in
theorem made1_thrown_b (fn : Nat) (pf pa pb : Addr) (a b : Nat) (hA : a < 18446744073709551616) (hB : b < 18446744073709551616) (ha : ¬ isNone a) (h : isNone b) (w : World)
    (hf : w.cell? pf = some (.func (.func fn) #[] #[])) (hp : w.cell? pa = some (.int .u64 (a : Int))) (hq : w.cell? pb = some (.int .u64 (b : Int))) :
    Calls Try.prog 54 #[.pointer (some pf), .pointer (some pa), .pointer (some pb)] w fun e w' => (∃ x : Int, e = .panicked (thrown x)) ∧ Below w.heap.size w w' := by
  have K1 : Hid (∀ w, Calls Try.prog 33 #[.int .u64 (a : Int), .int .i64 3] w fun e w' => e = .returned (.float .f64 a) ∧ w' = w) := fun w => number_ok a hA 3 (class_num a ha) w
  have K2 : Hid (∀ w, Calls Try.prog 33 #[.int .u64 (b : Int), .int .i64 3] w fun e w' => e = .panicked (thrown b) ∧ w' = w) := fun w => number_thrown b hB 3 (class_none b h) w
  clear hA hB ha h
  go_enter Try.func54, Try.ntmps54
  go_wp2
  refine wp_region_held_drew (S := fun w' => w'.cell? pf = some (.func (.func fn) #[] #[]) ∧ w'.cell? pa = some (.int .u64 (a : Int)) ∧ w'.cell? pb = some (.int .u64 (b : Int))) (by kernel_rfl) ⟨by simp [hf], by simp [hp], by simp [hq]⟩ (fun hS => ?_)
  refine wpAnyH_take (i := 0) (v := .func (.func fn) #[] #[]) rfl (by kernel_rfl) (by kernel_rfl) (by kernel_rfl) (fun _ _ _ h => h) (Or.inl ⟨by rfl, fun w hSw => ?_⟩) hS ?_
  · dsimp only at hSw; go_simp
  simp only [Act.put]
  refine wpAnyH_take (i := 1) (v := .int .u64 (a : Int)) rfl (by kernel_rfl) (by kernel_rfl) (by kernel_rfl) (fun _ _ _ h => h) (Or.inl ⟨by rfl, fun w hSw => ?_⟩) hS ?_
  · dsimp only at hSw; go_simp
  simp only [Act.put]
  refine wpAnyH_take (i := 3) (v := .int .u64 (b : Int)) rfl (by kernel_rfl) (by kernel_rfl) (by kernel_rfl) (fun _ _ _ h => h) (Or.inl ⟨by rfl, fun w hSw => ?_⟩) hS ?_
  · dsimp only at hSw; go_simp
  simp only [Act.put]
  refine wpAnyH_ready (rs := [2]) (by kernel_rfl) (by simp) (AllReadyH.cons rfl (fun K hK => ?_) AllReadyH.nil)
  go_simp
  go_wp2_with fail
  refine (K1.out _).mono ?_
  rintro e w1 ⟨rfl, rfl⟩
  go_wp2_with fail
  refine hK.out _ _ hS (fun _ => ?_)
  clear hK K
  refine wpAnyH_ready (rs := [4]) (by kernel_rfl) (by simp) (AllReadyH.cons rfl (fun K hK => ?_) AllReadyH.nil)
  go_simp
  go_wp2_with fail
  refine (K2.out _).mono ?_
  rintro e w1 ⟨rfl, rfl⟩
  go_wp2_with fail
  exact ⟨rfl, ⟨_, rfl⟩, (Below.refl _ _).drew⟩
/-- What a work makes of two: the number, if there is one; else one that is none. -/
def Made (res : Option Nat) (v : Nat) : Prop := match res with
  | some r => v = r ∧ ¬ isNone r
  | none => isNone v
set_option maxHeartbeats 1000000 in
theorem made1_ok (fn : Nat) (pf pa pb : Addr) (a b : Nat) (res : Option Nat) (hA : a < 18446744073709551616) (hB : b < 18446744073709551616) (ha : ¬ isNone a) (hb : ¬ isNone b) (w : World)
    (hf : w.cell? pf = some (.func (.func fn) #[] #[])) (hp : w.cell? pa = some (.int .u64 (a : Int))) (hq : w.cell? pb = some (.int .u64 (b : Int)))
    (hc : ∀ w1, (callFunc fn #[.float .f64 a, .float .f64 b]).run Try.prog w1 = .ok (.enter fn #[.float .f64 a, .float .f64 b]) w1)
    (hF : ∀ w1, Calls Try.prog fn #[.float .f64 a, .float .f64 b] w1 fun e w2 => (∃ v : Nat, e = .returned (.float .f64 v) ∧ v < 18446744073709551616 ∧ Made res v) ∧ Below w1.heap.size w1 w2) :
    Calls Try.prog 54 #[.pointer (some pf), .pointer (some pa), .pointer (some pb)] w fun e w' => (∃ v : Nat, v < 18446744073709551616 ∧ Made res v ∧ ((isNone v ∧ e = .panicked (thrown v)) ∨ (¬ isNone v ∧ e = .returned (.int .u64 (v : Int))))) ∧ Below w.heap.size w w' := by
  have K1 : Hid (∀ w, Calls Try.prog 33 #[.int .u64 (a : Int), .int .i64 3] w fun e w' => e = .returned (.float .f64 a) ∧ w' = w) := fun w => number_ok a hA 3 (class_num a ha) w
  have K2 : Hid (∀ w, Calls Try.prog 33 #[.int .u64 (b : Int), .int .i64 3] w fun e w' => e = .returned (.float .f64 b) ∧ w' = w) := fun w => number_ok b hB 3 (class_num b hb) w
  have K3 : Hid (∀ w1, Calls Try.prog fn #[.float .f64 a, .float .f64 b] w1 fun e w2 => (∃ v : Nat, e = .returned (.float .f64 v) ∧ v < 18446744073709551616 ∧ Made res v) ∧ Below w1.heap.size w1 w2) := hF
  have la := World.block_lt_of_cell? w _ hp
  have lb := World.block_lt_of_cell? w _ hq
  have lf := World.block_lt_of_cell? w _ hf
  clear hA hB ha hb hF
  go_enter Try.func54, Try.ntmps54
  go_wp2
  refine wp_region_held_drew (S := fun w' => w'.cell? pf = some (.func (.func fn) #[] #[]) ∧ w'.cell? pa = some (.int .u64 (a : Int)) ∧ w'.cell? pb = some (.int .u64 (b : Int))) (by kernel_rfl) ⟨by simp [hf], by simp [hp], by simp [hq]⟩ (fun hS => ?_)
  refine wpAnyH_take (i := 0) (v := .func (.func fn) #[] #[]) rfl (by kernel_rfl) (by kernel_rfl) (by kernel_rfl) (fun _ _ _ h => h) (Or.inl ⟨by rfl, fun w hSw => ?_⟩) hS ?_
  · dsimp only at hSw; go_simp
  simp only [Act.put]
  refine wpAnyH_take (i := 1) (v := .int .u64 (a : Int)) rfl (by kernel_rfl) (by kernel_rfl) (by kernel_rfl) (fun _ _ _ h => h) (Or.inl ⟨by rfl, fun w hSw => ?_⟩) hS ?_
  · dsimp only at hSw; go_simp
  simp only [Act.put]
  refine wpAnyH_take (i := 3) (v := .int .u64 (b : Int)) rfl (by kernel_rfl) (by kernel_rfl) (by kernel_rfl) (fun _ _ _ h => h) (Or.inl ⟨by rfl, fun w hSw => ?_⟩) hS ?_
  · dsimp only at hSw; go_simp
  simp only [Act.put]
  refine wpAnyH_ready (rs := [2]) (by kernel_rfl) (by simp) (AllReadyH.cons rfl (fun K hK => ?_) AllReadyH.nil)
  go_simp
  go_wp2_with fail
  refine (K1.out _).mono ?_
  rintro e w1 ⟨rfl, rfl⟩
  go_wp2_with fail
  refine hK.out _ _ hS (fun _ => ?_)
  clear hK K
  refine wpAnyH_ready (rs := [4]) (by kernel_rfl) (by simp) (AllReadyH.cons rfl (fun K hK => ?_) AllReadyH.nil)
  go_simp
  go_wp2_with fail
  refine (K2.out _).mono ?_
  rintro e w1 ⟨rfl, rfl⟩
  go_wp2_with fail
  refine hK.out _ _ hS (fun _ => ?_)
  clear hK K
  refine wpAnyH_ready (rs := [5]) (by kernel_rfl) (by simp) (AllReadyH.cons rfl (fun K hK => ?_) AllReadyH.nil)
  go_simp
  go_wp2_with fail
  refine (K3.out _).mono ?_
  rintro e w2 ⟨⟨v, rfl, hv, hm⟩, hbl⟩
  have hbl' : Hid (Below w.heap.size w w2) := (Below.refl _ w).drew.trans hbl
  have hS2 : w2.cell? pf = some (.func (.func fn) #[] #[]) ∧ w2.cell? pa = some (.int .u64 (a : Int)) ∧ w2.cell? pb = some (.int .u64 (b : Int)) := by
    have z : w.drew.heap.size = w.heap.size := rfl
    rw [hbl.cell (by rw [z]; exact lf), hbl.cell (by rw [z]; exact la), hbl.cell (by rw [z]; exact lb)]
    exact hS
  have KA : Hid (¬ isNone v → ∀ w, Calls Try.prog 53 #[.int .u64 (v : Int), .int .i64 3] w fun e w' => e = .returned (.int .u64 (v : Int)) ∧ w' = w) := fun h => asked_ok v hv 3 (class_num v h)
  have KB : Hid (isNone v → ∀ w, Calls Try.prog 53 #[.int .u64 (v : Int), .int .i64 3] w fun e w' => e = .panicked (thrown v) ∧ w' = w) := fun h => asked_thrown v hv 3 (class_none v h)
  have hm' : Hid (Made res v) := hm
  have hv' : Hid (v < 18446744073709551616) := hv
  have hd : Hid (isNone v ∨ ¬ isNone v) := Decidable.em _
  have hx := x_bits v
  clear hbl hm hv hf hp hq la lb lf K1 K2 K3 hc
  go_wp2_with fail
  refine hK.out _ _ hS2 (fun _ => ?_)
  clear hK K hS
  refine wpAnyH_ready (rs := [6]) (by kernel_rfl) (by simp) (AllReadyH.cons rfl (fun K hK => ?_) AllReadyH.nil)
  go_simp
  refine hK.out _ _ hS2 (fun _ => ?_)
  clear hK K
  refine wpAnyH_done (by kernel_rfl) ?_ _
  rcases hd.out with h | h
  · go_wp2_with fail
    refine (KB.out h _).mono ?_
    rintro e w3 ⟨rfl, rfl⟩
    go_wp2_with fail
    exact ⟨rfl, ⟨v, hv'.out, hm'.out, Or.inl ⟨h, rfl⟩⟩, hbl'.out⟩
  · go_wp2_with fail
    refine (KA.out h _).mono ?_
    rintro e w3 ⟨rfl, rfl⟩
    go_wp2_with fail
    go_ret
    exact ⟨⟨v, hv'.out, hm'.out, Or.inr ⟨h, rfl⟩⟩, hbl'.out⟩

def quietN : Nat := 9221120237041090560
/-- made, whatever the work is that makes a number or none. -/
theorem made_any (fn : Nat) (a b : Nat) (res : Option Nat) (hA : a < 18446744073709551616) (hB : b < 18446744073709551616) (w : World)
    (hres : isNone a ∨ isNone b → res = none)
    (hc : ∀ w1, (callFunc fn #[.float .f64 a, .float .f64 b]).run Try.prog w1 = .ok (.enter fn #[.float .f64 a, .float .f64 b]) w1)
    (hF : ∀ w1, Calls Try.prog fn #[.float .f64 a, .float .f64 b] w1 fun e w2 => (∃ v : Nat, e = .returned (.float .f64 v) ∧ v < 18446744073709551616 ∧ Made res v) ∧ Below w1.heap.size w1 w2) :
    Calls Try.prog 35 #[.int .u64 (a : Int), .int .u64 (b : Int), .func (.func fn) #[] #[]] w fun e w' => e = .returned (.int .u64 ((res.getD quietN : Nat) : Int)) ∧ Below w.heap.size w w' := by
  have hmf : ∀ (fn : Fn) (first cap : Array Value) (w : World), (Instr.makeFunc fn first cap).run Try.prog w = .ok (.func fn first cap) w := fun _ _ _ _ => rfl
  have hB0 : Below w.heap.size w (((w.alloc (.cells #[.int .u64 (a : Int)] 22)).alloc (.cells #[.int .u64 (b : Int)] 22)).alloc (.cells #[.func (.func fn) #[] #[]] 42)) := (((Below.refl _ w).alloc (Nat.le_refl _) _).alloc (by simp) _).alloc (by simp only [World.size_alloc]; omega) _
  have K : Hid (Calls Try.prog 46 #[.func (.func 54) #[] #[.pointer (some ⟨w.heap.size + 1 + 1, 0, none⟩), .pointer (some ⟨w.heap.size, 0, none⟩), .pointer (some ⟨w.heap.size + 1, 0, none⟩)], .int .u64 9221120237041090560] (((w.alloc (.cells #[.int .u64 (a : Int)] 22)).alloc (.cells #[.int .u64 (b : Int)] 22)).alloc (.cells #[.func (.func fn) #[] #[]] 42)) fun e w' => e = .returned (.int .u64 ((res.getD quietN : Nat) : Int)) ∧ Below w.heap.size w w') := by
    generalize hW : ((w.alloc (.cells #[.int .u64 (a : Int)] 22)).alloc (.cells #[.int .u64 (b : Int)] 22)).alloc (.cells #[.func (.func fn) #[] #[]] 42) = W at *
    have s0 : W.heap.size = w.heap.size + 3 := by rw [← hW]; simp
    have f0 : W.cell? ⟨w.heap.size, 0, none⟩ = some (.int .u64 (a : Int)) := by rw [← hW]; simp [go_sem]
    have f1 : W.cell? ⟨w.heap.size + 1, 0, none⟩ = some (.int .u64 (b : Int)) := by rw [← hW]; simp [go_sem]
    have f2 : W.cell? ⟨w.heap.size + 1 + 1, 0, none⟩ = some (.func (.func fn) #[] #[]) := by rw [← hW]; simp [go_sem]
    have en := enter_of Try.func54 (by kernel_rfl) (by kernel_rfl)
    have g0 : ∀ w1, Below W.heap.size W w1 → w1.cell? ⟨w.heap.size, 0, none⟩ = some (.int .u64 (a : Int)) := fun w1 hb => by rw [hb.cell (by simp only; omega), f0]
    have g1 : ∀ w1, Below W.heap.size W w1 → w1.cell? ⟨w.heap.size + 1, 0, none⟩ = some (.int .u64 (b : Int)) := fun w1 hb => by rw [hb.cell (by simp only; omega), f1]
    have g2 : ∀ w1, Below W.heap.size W w1 → w1.cell? ⟨w.heap.size + 1 + 1, 0, none⟩ = some (.func (.func fn) #[] #[]) := fun w1 hb => by rw [hb.cell (by simp only; omega), f2]
    by_cases hn : isNone a ∨ isNone b
    · rw [hres hn]
      refine (caught_u64_thrown 54 _ _ W (en _) ?_).mono fun e w' h => ⟨h.1, hB0.trans (h.2.mono (by omega))⟩
      intro w1 hb
      by_cases ha : isNone a
      · exact made1_thrown_a fn _ _ _ a b hA ha w1 (g2 w1 hb) (g0 w1 hb) (g1 w1 hb)
      · exact made1_thrown_b fn _ _ _ a b hA hB ha (hn.resolve_left ha) w1 (g2 w1 hb) (g0 w1 hb) (g1 w1 hb)
    · have k := fun w1 hb => made1_ok fn _ _ _ a b res hA hB (fun x => hn (Or.inl x)) (fun x => hn (Or.inr x)) w1 (g2 w1 hb) (g0 w1 hb) (g1 w1 hb) hc hF
      cases res with
      | none =>
        refine (caught_u64_thrown 54 _ _ W (en _) ?_).mono fun e w' h => ⟨h.1, hB0.trans (h.2.mono (by omega))⟩
        intro w1 hb
        refine (k w1 hb).mono ?_
        rintro e w2 ⟨⟨v, hv, hm, ⟨h, rfl⟩ | ⟨h, rfl⟩⟩, hbl⟩
        · exact ⟨⟨_, rfl⟩, hbl⟩
        · exact absurd hm h
      | some r =>
        refine (caught_u64 54 _ _ _ W (en _) ?_).mono fun e w' h => ⟨h.1, hB0.trans (h.2.mono (by omega))⟩
        intro w1 hb
        refine (k w1 hb).mono ?_
        rintro e w2 ⟨⟨v, hv, ⟨rfl, hm⟩, ⟨h, rfl⟩ | ⟨h, rfl⟩⟩, hbl⟩
        · exact absurd h hm
        · exact ⟨rfl, hbl⟩
  clear hB0 hF hc hres
  generalize Option.getD res quietN = o at *
  go_enter Try.func35, Try.ntmps35
  go_wp2_with fail
  refine K.out.mono ?_
  rintro e w1 ⟨rfl, hb⟩
  go_wp2
  go_ret
  exact ⟨rfl, hb⟩
end Go.Proofs.Ytlchjfdnkplmmaa
