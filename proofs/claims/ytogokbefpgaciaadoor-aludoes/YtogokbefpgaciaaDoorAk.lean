/- What is proved here: alu's Traps, and chapter 9's examples. -/
import Derived.Test.YtogokbefpgaciaaDoorAj
namespace Go.Proofs.YtogokbefpgaciaaDoor
open Go.RowKit
set_option linter.unusedVariables false
set_option linter.unusedSimpArgs false
set_option maxRecDepth 100000
theorem ne_lit {n m : ByteArray} {l : List UInt8} (h : ¬ n = m) (hl : m.toList = l) : (n.toList == l) = false := by
  cases hb : (n.toList == l) with
  | false => rfl
  | true => exact absurd (toList_inj (by rw [hl]; simpa using hb)) h
/-- Whether an instruction traps. -/
def trapB (n : ByteArray) (s t : Nat) : Bool :=
  if n.toList == [116, 103, 101] then decide (sg t ≤ sg s) else if n.toList == [116, 103, 101, 117] then decide (t ≤ s) else if n.toList == [116, 108, 116] then decide (sg s < sg t)
  else if n.toList == [116, 108, 116, 117] then decide (s < t) else if n.toList == [116, 101, 113] then s == t else if n.toList == [116, 110, 101] then s != t else false
theorem trap_tge (s t : Nat) : trapB ⟨#[116, 103, 101]⟩ s t = (decide (sg t ≤ sg s)) := by
  rw [trapB, show (⟨#[116, 103, 101]⟩ : ByteArray).toList = [116, 103, 101] from by decide +kernel]; rfl
theorem trap_tgeu (s t : Nat) : trapB ⟨#[116, 103, 101, 117]⟩ s t = (decide (t ≤ s)) := by
  rw [trapB, show (⟨#[116, 103, 101, 117]⟩ : ByteArray).toList = [116, 103, 101, 117] from by decide +kernel]; rfl
theorem trap_tlt (s t : Nat) : trapB ⟨#[116, 108, 116]⟩ s t = (decide (sg s < sg t)) := by
  rw [trapB, show (⟨#[116, 108, 116]⟩ : ByteArray).toList = [116, 108, 116] from by decide +kernel]; rfl
theorem trap_tltu (s t : Nat) : trapB ⟨#[116, 108, 116, 117]⟩ s t = (decide (s < t)) := by
  rw [trapB, show (⟨#[116, 108, 116, 117]⟩ : ByteArray).toList = [116, 108, 116, 117] from by decide +kernel]; rfl
theorem trap_teq (s t : Nat) : trapB ⟨#[116, 101, 113]⟩ s t = (s == t) := by
  rw [trapB, show (⟨#[116, 101, 113]⟩ : ByteArray).toList = [116, 101, 113] from by decide +kernel]; rfl
theorem trap_tne (s t : Nat) : trapB ⟨#[116, 110, 101]⟩ s t = (s != t) := by
  rw [trapB, show (⟨#[116, 110, 101]⟩ : ByteArray).toList = [116, 110, 101] from by decide +kernel]; rfl
theorem eq_cast (s t : Nat) : ((s : Int) == (t : Int)) = (s == t) := by
  by_cases e : s = t
  · subst e; rw [beq_self_eq_true, beq_self_eq_true]
  · have h : ¬ (s : Int) = (t : Int) := by omega
    rw [beq_eq_false_iff_ne.2 h, beq_eq_false_iff_ne.2 e]
set_option maxHeartbeats 1000000 in
theorem t12_tge (s t : Nat) (hs : s < 4294967296) (ht : t < 4294967296) (w : World) : Calls Tryd.prog 12 #[.string ⟨#[116, 103, 101]⟩, .int .u32 (s : Int), .int .u32 (t : Int)] w fun e w' => e = .returned (.bool (trapB ⟨#[116, 103, 101]⟩ s t)) ∧ w' = w := by
  rw [trap_tge]
  have K1 := signed26 s hs w
  have K2 := signed26 t ht w
  generalize sg s = p at K1 ⊢
  generalize sg t = q at K2 ⊢
  go_enter Tryd.func12, Tryd.ntmps12
  go_wp2_with fail
  refine K1.mono ?_
  rintro e w1 ⟨rfl, rfl⟩
  go_wp2_with fail
  refine K2.mono ?_
  rintro e w1 ⟨rfl, rfl⟩
  go_wp2
  go_ret
  exact ⟨rfl, rfl⟩
set_option maxHeartbeats 1000000 in
theorem t12_tgeu (s t : Nat) (hs : s < 4294967296) (ht : t < 4294967296) (w : World) : Calls Tryd.prog 12 #[.string ⟨#[116, 103, 101, 117]⟩, .int .u32 (s : Int), .int .u32 (t : Int)] w fun e w' => e = .returned (.bool (trapB ⟨#[116, 103, 101, 117]⟩ s t)) ∧ w' = w := by
  rw [trap_tgeu]
  have hd : decide ((t : Int) ≤ (s : Int)) = decide (t ≤ s) := by simp
  generalize decide (t ≤ s) = b at hd ⊢
  go_enter Tryd.func12, Tryd.ntmps12
  go_wp2
  go_ret
  exact ⟨by first | rfl | (rw [← hd]; rfl) | (simp [← hd]), rfl⟩
set_option maxHeartbeats 1000000 in
theorem t12_tlt (s t : Nat) (hs : s < 4294967296) (ht : t < 4294967296) (w : World) : Calls Tryd.prog 12 #[.string ⟨#[116, 108, 116]⟩, .int .u32 (s : Int), .int .u32 (t : Int)] w fun e w' => e = .returned (.bool (trapB ⟨#[116, 108, 116]⟩ s t)) ∧ w' = w := by
  rw [trap_tlt]
  have K1 := signed26 s hs w
  have K2 := signed26 t ht w
  generalize sg s = p at K1 ⊢
  generalize sg t = q at K2 ⊢
  go_enter Tryd.func12, Tryd.ntmps12
  go_wp2_with fail
  refine K1.mono ?_
  rintro e w1 ⟨rfl, rfl⟩
  go_wp2_with fail
  refine K2.mono ?_
  rintro e w1 ⟨rfl, rfl⟩
  go_wp2
  go_ret
  exact ⟨rfl, rfl⟩
set_option maxHeartbeats 1000000 in
theorem t12_tltu (s t : Nat) (hs : s < 4294967296) (ht : t < 4294967296) (w : World) : Calls Tryd.prog 12 #[.string ⟨#[116, 108, 116, 117]⟩, .int .u32 (s : Int), .int .u32 (t : Int)] w fun e w' => e = .returned (.bool (trapB ⟨#[116, 108, 116, 117]⟩ s t)) ∧ w' = w := by
  rw [trap_tltu]
  have hd : decide ((s : Int) < (t : Int)) = decide (s < t) := by simp
  generalize decide (s < t) = b at hd ⊢
  go_enter Tryd.func12, Tryd.ntmps12
  go_wp2
  go_ret
  exact ⟨by first | rfl | (rw [← hd]; rfl) | (simp [← hd]), rfl⟩
set_option maxHeartbeats 1000000 in
theorem t12_teq (s t : Nat) (hs : s < 4294967296) (ht : t < 4294967296) (w : World) : Calls Tryd.prog 12 #[.string ⟨#[116, 101, 113]⟩, .int .u32 (s : Int), .int .u32 (t : Int)] w fun e w' => e = .returned (.bool (trapB ⟨#[116, 101, 113]⟩ s t)) ∧ w' = w := by
  rw [trap_teq]
  have hd : ((s : Int) == (t : Int)) = (s == t) := eq_cast s t
  generalize (s == t) = b at hd ⊢
  go_enter Tryd.func12, Tryd.ntmps12
  go_wp2
  go_ret
  exact ⟨by first | rfl | (rw [← hd]; rfl) | (simp [← hd]), rfl⟩
set_option maxHeartbeats 1000000 in
theorem t12_tne (s t : Nat) (hs : s < 4294967296) (ht : t < 4294967296) (w : World) : Calls Tryd.prog 12 #[.string ⟨#[116, 110, 101]⟩, .int .u32 (s : Int), .int .u32 (t : Int)] w fun e w' => e = .returned (.bool (trapB ⟨#[116, 110, 101]⟩ s t)) ∧ w' = w := by
  rw [trap_tne]
  have hd : ((s : Int) == (t : Int)) = (s == t) := eq_cast s t
  have hd2 : (s != t) = !(s == t) := rfl
  rw [hd2]
  generalize (s == t) = b at hd ⊢
  go_enter Tryd.func12, Tryd.ntmps12
  go_wp2
  go_ret
  exact ⟨by first | rfl | (rw [← hd]; rfl) | (simp [← hd]), rfl⟩
set_option maxHeartbeats 1000000 in
theorem traps12 (n : ByteArray) (s t : Nat) (hs : s < 4294967296) (ht : t < 4294967296) (w : World) : Calls Tryd.prog 12 #[.string n, .int .u32 (s : Int), .int .u32 (t : Int)] w fun e w' => e = .returned (.bool (trapB n s t)) ∧ w' = w := by
  by_cases h_tge : n = ⟨#[116, 103, 101]⟩
  · subst h_tge; exact t12_tge s t hs ht w
  by_cases h_tgeu : n = ⟨#[116, 103, 101, 117]⟩
  · subst h_tgeu; exact t12_tgeu s t hs ht w
  by_cases h_tlt : n = ⟨#[116, 108, 116]⟩
  · subst h_tlt; exact t12_tlt s t hs ht w
  by_cases h_tltu : n = ⟨#[116, 108, 116, 117]⟩
  · subst h_tltu; exact t12_tltu s t hs ht w
  by_cases h_teq : n = ⟨#[116, 101, 113]⟩
  · subst h_teq; exact t12_teq s t hs ht w
  by_cases h_tne : n = ⟨#[116, 110, 101]⟩
  · subst h_tne; exact t12_tne s t hs ht w
  have e_tge := ne_lit h_tge (show (⟨#[116, 103, 101]⟩ : ByteArray).toList = [116, 103, 101] by decide +kernel)
  have e_tgeu := ne_lit h_tgeu (show (⟨#[116, 103, 101, 117]⟩ : ByteArray).toList = [116, 103, 101, 117] by decide +kernel)
  have e_tlt := ne_lit h_tlt (show (⟨#[116, 108, 116]⟩ : ByteArray).toList = [116, 108, 116] by decide +kernel)
  have e_tltu := ne_lit h_tltu (show (⟨#[116, 108, 116, 117]⟩ : ByteArray).toList = [116, 108, 116, 117] by decide +kernel)
  have e_teq := ne_lit h_teq (show (⟨#[116, 101, 113]⟩ : ByteArray).toList = [116, 101, 113] by decide +kernel)
  have e_tne := ne_lit h_tne (show (⟨#[116, 110, 101]⟩ : ByteArray).toList = [116, 110, 101] by decide +kernel)
  have HF : Hid (trapB n s t = false) := by show _ = _; rw [trapB, e_tge, e_tgeu, e_tlt, e_tltu, e_teq, e_tne]; rfl
  clear h_tge h_tgeu h_tlt h_tltu h_teq h_tne
  go_enter Tryd.func12, Tryd.ntmps12
  go_wp2
  go_ret
  exact ⟨by rw [HF.out]; rfl, rfl⟩
set_option maxHeartbeats 1000000 in
theorem of15 (n : ByteArray) (s t : Nat) (hs : s < 4294967296) (ht : t < 4294967296) (w : World) (hT : Tab w) : Calls Tryd.prog 15 #[.string n, .int .u32 (s : Int), .int .u32 (t : Int)] w fun e w' => e = .returned (.tuple #[.int .u32 ((doR (ofI n) s t).getD 0 : Int), .bool (doR (ofI n) s t).isSome]) ∧ Below w.heap.size w w' := by
  have K : Calls Tryd.prog 8 #[.agg #[.string n, .int .i64 0, .int .i64 0, .int .i64 0, .int .i64 0, .int .u32 0], .int .u32 (s : Int), .int .u32 (t : Int)] w _ := do8 (ofI n) s t (by show 0 < 4294967296; decide) hs ht w hT
  generalize doR (ofI n) s t = r at K ⊢
  go_enter Tryd.func15, Tryd.ntmps15
  go_wp2_with fail
  refine K.mono ?_
  rintro e w3 ⟨rfl, hb⟩
  have HB : Hid (Below w.heap.size w w3) := hb
  clear hb K
  go_wp2
  go_ret2
  exact ⟨rfl, HB.out⟩
theorem ex1 : doR (ofI ⟨#[97, 100, 100]⟩) 2147483647 1 = none := by rw [of_add]; decide
theorem ex2 : doR ⟨⟨#[115, 114, 97]⟩, 0, 0, 0, 31, 0⟩ 0 2147483648 = some 4294967295 := by rw [doR_at (k := 20) _ _ (by decide +kernel) (by decide +kernel)]; decide
theorem ex3 : doR (ofI ⟨#[99, 108, 122]⟩) 1 0 = some 31 := by rw [of_clz]; decide +kernel
theorem ex4 : doR (ofI ⟨#[119, 115, 98, 104]⟩) 0 287454020 = some 571556915 := by rw [of_wsbh]; decide +kernel
set_option maxHeartbeats 1000000 in
theorem awake14 (w : World) (hT : Tab w) : Calls Tryd.prog 14 #[] w fun e w' => e = .returned (.bool true) ∧ Below w.heap.size w w' := by
  have K1 := of15 ⟨#[97, 100, 100]⟩ 2147483647 1 (by decide) (by decide) w hT
  rw [ex1] at K1
  have K2 : Hid (∀ w, Tab w → Calls Tryd.prog 8 #[.agg #[.string ⟨#[115, 114, 97]⟩, .int .i64 0, .int .i64 0, .int .i64 0, .int .i64 31, .int .u32 0], .int .u32 0, .int .u32 2147483648] w fun e w' => e = .returned (.tuple #[.int .u32 4294967295, .bool true]) ∧ Below w.heap.size w w') := fun w hT => by
    have K := do8 ⟨⟨#[115, 114, 97]⟩, 0, 0, 0, 31, 0⟩ 0 2147483648 (by decide) (by decide) (by decide) w hT
    rw [ex2] at K
    exact K
  have K3 : Hid (∀ w, Tab w → Calls Tryd.prog 15 #[.string ⟨#[99, 108, 122]⟩, .int .u32 1, .int .u32 0] w fun e w' => e = .returned (.tuple #[.int .u32 31, .bool true]) ∧ Below w.heap.size w w') := fun w hT => by
    have K := of15 ⟨#[99, 108, 122]⟩ 1 0 (by decide) (by decide) w hT
    rw [ex3] at K
    exact K
  have K4 : Hid (∀ w, Tab w → Calls Tryd.prog 15 #[.string ⟨#[119, 115, 98, 104]⟩, .int .u32 0, .int .u32 287454020] w fun e w' => e = .returned (.tuple #[.int .u32 571556915, .bool true]) ∧ Below w.heap.size w w') := fun w hT => by
    have K := of15 ⟨#[119, 115, 98, 104]⟩ 0 287454020 (by decide) (by decide) w hT
    rw [ex4] at K
    exact K
  have HT : Hid (∀ w', Below w.heap.size w w' → Tab w') := fun w' h => hT.keep h
  clear hT
  go_enter Tryd.func14, Tryd.ntmps14
  go_wp2_with fail
  refine K1.mono ?_
  rintro e w1 ⟨rfl, hb1⟩
  have T1 := HT.out _ hb1
  go_wp2_with fail
  refine (K2.out w1 T1).mono ?_
  rintro e w2 ⟨rfl, hb2⟩
  have hb2 := below_tr hb1 hb2
  have T2 := HT.out _ hb2
  go_wp2_with fail
  refine (K3.out w2 T2).mono ?_
  rintro e w3 ⟨rfl, hb3⟩
  have hb3 := below_tr hb2 hb3
  have T3 := HT.out _ hb3
  go_wp2_with fail
  refine (K4.out w3 T3).mono ?_
  rintro e w4 ⟨rfl, hb4⟩
  have HB : Hid (Below w.heap.size w w4) := below_tr hb3 hb4
  clear hb1 hb2 hb3 hb4 T1 T2 T3 K1 K2 K3 K4
  go_wp2
  go_ret
  exact ⟨rfl, HB.out⟩
end Go.Proofs.YtogokbefpgaciaaDoor
