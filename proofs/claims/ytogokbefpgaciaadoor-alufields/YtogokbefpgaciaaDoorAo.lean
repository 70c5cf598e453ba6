/- What is proved here: the walk of AluFields. -/
import Derived.Test.YtogokbefpgaciaaDoorAf
import Derived.Test.YtogokbefpgaciaaDoorAl
namespace Go.Proofs.YtogokbefpgaciaaDoor
open Go.RowKit
set_option linter.unusedVariables false
set_option linter.unusedSimpArgs false
set_option maxRecDepth 100000
theorem low_bit (n i : Nat) : (lowN n).testBit i = decide (i < n) := Nat.testBit_two_pow_sub_one n i
theorem msk_lt (m l : Nat) (h : m + l ≤ 32) : lowN m * 2 ^ l < 4294967296 := by
  have h1 : 0 < 2 ^ m := Nat.pow_pos (by decide)
  have h2 : 0 < 2 ^ l := Nat.pow_pos (by decide)
  have h3 : 2 ^ m * 2 ^ l ≤ 2 ^ 32 := by rw [← Nat.pow_add]; exact Nat.pow_le_pow_right (by decide) h
  have h4 : lowN m * 2 ^ l < 2 ^ m * 2 ^ l := by
    refine (Nat.mul_lt_mul_right h2).2 ?_
    unfold lowN; omega
  exact Nat.lt_of_lt_of_le h4 h3
theorem shl_bit (s l i : Nat) : (s * 2 ^ l % 4294967296).testBit i = (decide (i < 32) && (decide (l ≤ i) && s.testBit (i - l))) := by
  rw [show (4294967296 : Nat) = 2 ^ 32 from rfl, Nat.testBit_mod_two_pow, Nat.testBit_mul_two_pow]
theorem insM_bit (a b m i : Nat) (hm : m < 4294967296) (ha : a < 4294967296) : (insM a b m).testBit i = (if m.testBit i then b.testBit i else a.testBit i) := by
  unfold insM
  rw [Nat.testBit_or, Nat.testBit_and, Nat.testBit_and, show 4294967295 - m = 2 ^ 32 - (m + 1) from by omega, Nat.testBit_two_pow_sub_succ (show m < 2 ^ 32 from hm)]
  by_cases hi : i < 32
  · cases m.testBit i <;> simp [hi]
  · have e1 : m.testBit i = false := Nat.testBit_lt_two_pow (Nat.lt_of_lt_of_le hm (Nat.pow_le_pow_right (show 2 > 0 by decide) (show 32 ≤ i by omega)))
    have e2 : a.testBit i = false := Nat.testBit_lt_two_pow (Nat.lt_of_lt_of_le ha (Nat.pow_le_pow_right (show 2 > 0 by decide) (show 32 ≤ i by omega)))
    simp [e1, e2]
theorem insM_lt (a b m : Nat) (ha : a < 4294967296) (hb : b < 4294967296) : insM a b m < 4294967296 := or_lt _ _ (Nat.lt_of_le_of_lt Nat.and_le_left ha) (Nat.lt_of_le_of_lt Nat.and_le_left hb)
/-- What ins makes. -/
def inN (s t l h : Nat) : Nat := insM t (s * 2 ^ l % 4294967296) (lowN (h - l + 1) * 2 ^ l % 4294967296)
theorem in_lt (s t l h : Nat) (ht : t < 4294967296) : inN s t l h < 4294967296 := insM_lt _ _ _ ht (by omega)
theorem in_bit (s t l h i : Nat) (ht : t < 4294967296) : (inN s t l h).testBit i = (if i < 32 ∧ l ≤ i ∧ i < l + (h - l + 1) then s.testBit (i - l) else t.testBit i) := by
  unfold inN
  rw [insM_bit _ _ _ _ (by omega) ht, shl_bit, shl_bit, low_bit]
  by_cases hc : i < 32 ∧ l ≤ i ∧ i < l + (h - l + 1)
  · obtain ⟨h1, h2, h3⟩ := hc
    rw [decide_eq_true h1, decide_eq_true h2, decide_eq_true (show i - l < h - l + 1 by omega), if_pos (show i < 32 ∧ l ≤ i ∧ i < l + (h - l + 1) from ⟨h1, h2, h3⟩)]
    simp
  · rw [if_neg hc]
    have : (decide (i < 32) && (decide (l ≤ i) && decide (i - l < h - l + 1))) = false := by
      cases hb : (decide (i < 32) && (decide (l ≤ i) && decide (i - l < h - l + 1))) with
      | false => rfl
      | true =>
        simp only [Bool.and_eq_true, decide_eq_true_eq] at hb
        omega
    rw [this]; rfl
/-- What was put in is taken out. -/
theorem ext_ins (s t l h : Nat) (ht : t < 4294967296) (hl : l ≤ h) (hh : h < 32) : inN s t l h / 2 ^ l &&& lowN (h - l + 1) = s / 2 ^ 0 &&& lowN (h - l + 1) := by
  apply Nat.eq_of_testBit_eq
  intro i
  rw [Nat.testBit_and, Nat.testBit_and, low_bit, Nat.testBit_div_two_pow, Nat.testBit_div_two_pow, in_bit _ _ _ _ _ ht]
  by_cases hi : i < h - l + 1
  · rw [if_pos (by omega), show i + l - l = i + 0 from by omega]
  · rw [decide_eq_false hi]; simp
theorem out_bit (s t l h k : Nat) (ht : t < 4294967296) (hl : l ≤ h) (hk : k < l ∨ h < k) : inN s t l h / 2 ^ k % 2 = t / 2 ^ k % 2 := by
  have e : (inN s t l h).testBit k = t.testBit k := by rw [in_bit _ _ _ _ _ ht, if_neg (by omega)]
  rw [Nat.testBit_eq_decide_div_mod_eq, Nat.testBit_eq_decide_div_mod_eq] at e
  have h1 := Nat.mod_lt (inN s t l h / 2 ^ k) (show 0 < 2 by decide)
  have h2 := Nat.mod_lt (t / 2 ^ k) (show 0 < 2 by decide)
  generalize inN s t l h / 2 ^ k % 2 = p at e h1
  generalize t / 2 ^ k % 2 = q at e h2
  by_cases hp : p = 1
  · subst hp
    have := e.symm
    simp at this
    omega
  · have hq : ¬ q = 1 := fun hq => by subst hq; simp at e; exact hp e
    omega
theorem out_and (s t l h k : Nat) (ht : t < 4294967296) (hl : l ≤ h) (hk : k < l ∨ h < k) : bits .and .u32 ((inN s t l h : Int) / 2 ^ k) 1 = ((t / 2 ^ k % 2 : Nat) : Int) :=
  (and_one _ k (in_lt s t l h ht)).trans (congrArg (fun z : Nat => (z : Int)) (out_bit s t l h k ht hl hk))
theorem wrap_small (n : Nat) (h : n < 32) : wrap64 (n : Int) = (n : Int) := by unfold wrap64; omega
theorem fld_at {l h : Nat} (hl : l ≤ h) (hh : h < 32) : isIns ⟨⟨#[105, 110, 115]⟩, 0, 0, (h : Int), (l : Int), 0⟩ = true ∧ isIns ⟨⟨#[101, 120, 116]⟩, 0, 0, ((h - l : Nat) : Int), (l : Int), 0⟩ = true := by
  have h1 := List.all_eq_true.1 fld_ok h (List.mem_range.2 hh)
  have h2 := List.all_eq_true.1 h1 l (List.mem_range.2 (by omega))
  simpa only [Bool.and_eq_true] using h2
theorem ext0_ok : (List.range 32).all (fun d => isIns ⟨⟨#[101, 120, 116]⟩, 0, 0, (d : Int), 0, 0⟩) = true := by decide +kernel
set_option maxHeartbeats 4000000 in
theorem fields_in (s t l h a b : Nat) (hs : s < 4294967296) (ht : t < 4294967296) (ha : a < 256) (hb : b < 256) (hl : l ≤ h) (hh : h < 32) (hab : (a % 32 = l ∧ b % 32 = h) ∨ (a % 32 = h ∧ b % 32 = l ∧ l < h)) (w : World) (hT : Tab w) :
    Calls Tryd.prog 5 #[.int .u32 (s : Int), .int .u32 (t : Int), .int .u8 (a : Int), .int .u8 (b : Int)] w fun e w' => e = .returned (.bool true) ∧ Below w.heap.size w w' := by
  have HP : Hid (∀ k, (k < l ∨ h < k) → ∃ p : Nat, bits .and .u32 ((inN s t l h : Int) / 2 ^ k) 1 = (p : Int) ∧ bits .and .u32 ((t : Int) / 2 ^ k) 1 = (p : Int)) := fun k hk => ⟨_, out_and s t l h k ht hl hk, and_one t k ht⟩
  obtain ⟨X, hX⟩ : ∃ X, X = inN s t l h := ⟨_, rfl⟩
  rw [← hX] at HP
  have lX : X < 4294967296 := by rw [hX]; exact in_lt s t l h ht
  obtain ⟨Z, hZ⟩ : ∃ Z, Z = s / 2 ^ 0 &&& lowN (h - l + 1) := ⟨_, rfl⟩
  obtain ⟨i1, i2⟩ := fld_at hl hh
  have i3 := List.all_eq_true.1 ext0_ok (h - l) (List.mem_range.2 (by omega))
  have hsub : (h : Int) - (l : Int) = ((h - l : Nat) : Int) := by omega
  have K1 : Hid (∀ w, Tab w → Calls Tryd.prog 8 #[.agg #[.string ⟨#[105, 110, 115]⟩, .int .i64 0, .int .i64 0, .int .i64 (h : Int), .int .i64 (l : Int), .int .u32 0], .int .u32 (s : Int), .int .u32 (t : Int)] w fun e w' => e = .returned (.tuple #[.int .u32 (X : Int), .bool true]) ∧ Below w.heap.size w w') := fun w hT => by
    have K := do8 ⟨⟨#[105, 110, 115]⟩, 0, 0, (h : Int), (l : Int), 0⟩ s t (by show 0 < 4294967296; decide) hs ht w hT
    rw [doR_at (k := 30) _ _ i1 (show aIdx ⟨#[105, 110, 115]⟩ = some 30 by decide +kernel), show workN 30 (tkOf ⟨⟨#[105, 110, 115]⟩, 0, 0, (h : Int), (l : Int), 0⟩ s t) = some X from by rw [hX]; rfl] at K
    exact K
  have K2 : Hid (∀ w, Tab w → Calls Tryd.prog 8 #[.agg #[.string ⟨#[101, 120, 116]⟩, .int .i64 0, .int .i64 0, .int .i64 ((h - l : Nat) : Int), .int .i64 (l : Int), .int .u32 0], .int .u32 (X : Int), .int .u32 0] w fun e w' => e = .returned (.tuple #[.int .u32 (Z : Int), .bool true]) ∧ Below w.heap.size w w') := fun w hT => by
    have K := do8 ⟨⟨#[101, 120, 116]⟩, 0, 0, ((h - l : Nat) : Int), (l : Int), 0⟩ X 0 (by show 0 < 4294967296; decide) lX (by decide) w hT
    rw [doR_at (k := 29) _ _ i2 (show aIdx ⟨#[101, 120, 116]⟩ = some 29 by decide +kernel), show workN 29 (tkOf ⟨⟨#[101, 120, 116]⟩, 0, 0, ((h - l : Nat) : Int), (l : Int), 0⟩ X 0) = some Z from by show some (X / 2 ^ l &&& lowN (h - l + 1)) = _; rw [hX, ext_ins s t l h ht hl hh, hZ]] at K
    exact K
  have K3 : Hid (∀ w, Tab w → Calls Tryd.prog 8 #[.agg #[.string ⟨#[101, 120, 116]⟩, .int .i64 0, .int .i64 0, .int .i64 ((h - l : Nat) : Int), .int .i64 0, .int .u32 0], .int .u32 (s : Int), .int .u32 0] w fun e w' => e = .returned (.tuple #[.int .u32 (Z : Int), .bool true]) ∧ Below w.heap.size w w') := fun w hT => by
    have K := do8 ⟨⟨#[101, 120, 116]⟩, 0, 0, ((h - l : Nat) : Int), 0, 0⟩ s 0 (by show 0 < 4294967296; decide) hs (by decide) w hT
    rw [doR_at (k := 29) _ _ i3 (show aIdx ⟨#[101, 120, 116]⟩ = some 29 by decide +kernel), show workN 29 (tkOf ⟨⟨#[101, 120, 116]⟩, 0, 0, ((h - l : Nat) : Int), 0, 0⟩ s 0) = some Z from by rw [hZ]; rfl] at K
    exact K
  have KA : Hid (∀ w, Tab w → Calls Tryd.prog 14 #[] w fun e w' => e = .returned (.bool true) ∧ Below w.heap.size w w') := fun w hT => awake14 w hT
  have HT : Hid (∀ w', Below w.heap.size w w' → Tab w') := fun w' h => hT.keep h
  have ha0 : (a : Int).tmod 32 = ((a % 32 : Nat) : Int) := by rw [Int.tmod_eq_emod_of_nonneg (by omega)]; omega
  have hb0 : (b : Int).tmod 32 = ((b % 32 : Nat) : Int) := by rw [Int.tmod_eq_emod_of_nonneg (by omega)]; omega
  have hwl := wrap_small l (by omega)
  have hwh := wrap_small h hh
  obtain ⟨d, hd⟩ : ∃ d, d = h - l := ⟨_, rfl⟩
  rw [← hd] at hsub K2 K3
  clear hX lX hZ i1 i2 i3 hs ht ha hb hd
  rcases hab with ⟨e1, e2⟩ | ⟨e1, e2, hlt⟩
  · rw [e1] at ha0
    rw [e2] at hb0
    have hcmp : ¬ ((h : Int) < (l : Int)) := by omega
    clear e1 e2
    go_enter Tryd.func5, Tryd.ntmps5
    go_wp2_with fail
    refine (K1.out _ hT).mono ?_
    rintro e u1 ⟨rfl, b1⟩
    go_wp2_with fail
    refine (K2.out _ (HT.out _ b1)).mono ?_
    rintro e u2 ⟨rfl, b'⟩
    have b2 := below_tr b1 b'
    clear b'
    go_wp2_with fail
    refine (K3.out _ (HT.out _ b2)).mono ?_
    rintro e u3 ⟨rfl, b'⟩
    have b3 := below_tr b2 b'
    clear b'
    have HB3 : Hid (Below w.heap.size w u3) := b3
    clear b1 b2 b3 K1 K2 K3 hT
    go_wp2
    go_loopw [72] (fun i wr => ∃ k : Nat, k ≤ 32 ∧ i = .int .i64 (k : Int) ∧ Below w.heap.size w wr) (fun i _ => 32 - (intOf i).toNat)
    case atStart => exact ⟨0, by decide, rfl, HB3.out⟩
    case round =>
      obtain ⟨k, hk, rfl, hbr⟩ := hrel
      have HBr : Hid (Below w.heap.size w wr) := hbr
      clear hbr
      have hk64 : wrap64 ((k : Int) + 1) = (k : Int) + 1 := by unfold wrap64; omega
      by_cases hk32 : k < 32
      · have hkI : (k : Int) < 32 := by omega
        have hm : min k 64 = k := by omega
        have hk0 : ¬ (k : Int) < 0 := by omega
        by_cases hc1 : k < l
        · obtain ⟨p, hp1, hp2⟩ := HP.out k (.inl hc1)
          have hkl : (k : Int) < (l : Int) := by omega
          have hkh : ¬ (h : Int) < (k : Int) := by omega
          go_wp2
          refine wp_region_slots (R := Ext) [⟨75, fun v _ => v = (.int .i64 (k : Int)), fun _ _ _ _ h => h⟩, ⟨76, fun v _ => v = (.int .i64 (l : Int)), fun _ _ _ _ h => h⟩, ⟨77, fun v _ => v = (.bool true), fun _ _ _ _ h => h⟩, ⟨78, fun v _ => v = (.bool true), fun _ _ _ _ h => h⟩, ⟨82, fun v _ => v = (.bool true), fun _ _ _ _ h => h⟩, ⟨83, fun v _ => v = (.bool true), fun _ _ _ _ h => h⟩, ⟨84, fun v _ => v = (.int .u32 (X : Int)), fun _ _ _ _ h => h⟩, ⟨85, fun v _ => v = (.int .i64 (k : Int)), fun _ _ _ _ h => h⟩, ⟨86, fun v _ => v = (.int .u32 ((X : Int) / 2 ^ k)), fun _ _ _ _ h => h⟩, ⟨87, fun v _ => v = (.int .u32 (p : Int)), fun _ _ _ _ h => h⟩, ⟨88, fun v _ => v = (.int .u32 (t : Int)), fun _ _ _ _ h => h⟩, ⟨89, fun v _ => v = (.int .i64 (k : Int)), fun _ _ _ _ h => h⟩, ⟨90, fun v _ => v = (.int .u32 ((t : Int) / 2 ^ k)), fun _ _ _ _ h => h⟩, ⟨91, fun v _ => v = (.int .u32 (p : Int)), fun _ _ _ _ h => h⟩, ⟨92, fun v _ => v = (.bool false), fun _ _ _ _ h => h⟩, ⟨93, fun v _ => v = (.bool false), fun _ _ _ _ h => h⟩] _ (by kernel_rfl) rfl (by kernel_rfl) (Below.drew (Below.refl _ _)) (fun _ _ _ h1 h2 => below_tr h1 h2) (fun QQ => ⟨?_, ?_, ?_, ?_, ?_, ?_, ?_, ?_, ?_, ?_, ?_, ?_, ?_, ?_, ?_, ?_, ?_, ?_, ?_, trivial⟩) (fun f wy hR hf => ?_)
          · intro A wx hR hout hdep K hK
            have h17 : A.tmps[17]?.getD undef = (.int .i64 (k : Int)) := hout 17 (by kernel_rfl)
            refine if_yes (by kernel_rfl) ?_
            simp [go_sem, h17, hkl, hkh, hm, hk0, hp1, hp2, hc1]
            exact hK.out _ _ (Below.refl _ _) rfl
          · intro A wx hR hout hdep K hK
            have h9 : A.tmps[9]?.getD undef = (.int .i64 (l : Int)) := hout 9 (by kernel_rfl)
            refine if_yes (by kernel_rfl) ?_
            simp [go_sem, h9, hkl, hkh, hm, hk0, hp1, hp2, hc1]
            exact hK.out _ _ (Below.refl _ _) rfl
          · intro A wx hR hout hdep K hK
            have h75 : A.tmps[75]?.getD undef = (.int .i64 (k : Int)) := hdep 75 (by kernel_rfl)
            have h76 : A.tmps[76]?.getD undef = (.int .i64 (l : Int)) := hdep 76 (by kernel_rfl)
            refine if_yes (by kernel_rfl) ?_
            simp [go_sem, h75, h76, hkl, hkh, hm, hk0, hp1, hp2, hc1]
            exact hK.out _ _ (Below.refl _ _) rfl
          · intro A wx hR hout hdep K hK
            have h77 : A.tmps[77]?.getD undef = (.bool true) := hdep 77 (by kernel_rfl)
            refine if_yes (by kernel_rfl) ?_
            simp [go_sem, h77, hkl, hkh, hm, hk0, hp1, hp2, hc1]
            exact hK.out _ _ (Below.refl _ _) rfl
          · intro A wx hR hout hdep K hK
            have h17 : A.tmps[17]?.getD undef = (.int .i64 (k : Int)) := hout 17 (by kernel_rfl)
            have h78 : A.tmps[78]?.getD undef = (.bool true) := hdep 78 (by kernel_rfl)
            refine if_not (by rw [wanted_is (j := 3) (b := false) (by kernel_rfl) (by kernel_rfl) h78]; decide) ?_
            exact hK.out _ _ (Below.refl _ _) trivial
          · intro A wx hR hout hdep K hK
            have h10 : A.tmps[10]?.getD undef = (.int .i64 (h : Int)) := hout 10 (by kernel_rfl)
            have h78 : A.tmps[78]?.getD undef = (.bool true) := hdep 78 (by kernel_rfl)
            refine if_not (by rw [wanted_is (j := 3) (b := false) (by kernel_rfl) (by kernel_rfl) h78]; decide) ?_
            exact hK.out _ _ (Below.refl _ _) trivial
          · intro A wx hR hout hdep K hK
            have h78 : A.tmps[78]?.getD undef = (.bool true) := hdep 78 (by kernel_rfl)
            refine if_not (by rw [wanted_is (j := 3) (b := false) (by kernel_rfl) (by kernel_rfl) h78]; decide) ?_
            exact hK.out _ _ (Below.refl _ _) trivial
          · intro A wx hR hout hdep K hK
            have h78 : A.tmps[78]?.getD undef = (.bool true) := hdep 78 (by kernel_rfl)
            refine if_yes (by kernel_rfl) ?_
            simp [go_sem, h78, hkl, hkh, hm, hk0, hp1, hp2, hc1]
            exact hK.out _ _ (Below.refl _ _) rfl
          · intro A wx hR hout hdep K hK
            have h82 : A.tmps[82]?.getD undef = (.bool true) := hdep 82 (by kernel_rfl)
            refine if_yes (by kernel_rfl) ?_
            simp [go_sem, h82, hkl, hkh, hm, hk0, hp1, hp2, hc1]
            exact hK.out _ _ (Below.refl _ _) rfl
          · intro A wx hR hout hdep K hK
            have h11 : A.tmps[11]?.getD undef = (.int .u32 (X : Int)) := hout 11 (by kernel_rfl)
            have h83 : A.tmps[83]?.getD undef = (.bool true) := hdep 83 (by kernel_rfl)
            refine if_yes ((wanted_is (j := 8) (b := true) (by kernel_rfl) (by kernel_rfl) h83).trans rfl) ?_
            simp [go_sem, h11, hkl, hkh, hm, hk0, hp1, hp2, hc1]
            exact hK.out _ _ (Below.refl _ _) rfl
          · intro A wx hR hout hdep K hK
            have h17 : A.tmps[17]?.getD undef = (.int .i64 (k : Int)) := hout 17 (by kernel_rfl)
            have h83 : A.tmps[83]?.getD undef = (.bool true) := hdep 83 (by kernel_rfl)
            refine if_yes ((wanted_is (j := 8) (b := true) (by kernel_rfl) (by kernel_rfl) h83).trans rfl) ?_
            simp [go_sem, h17, hkl, hkh, hm, hk0, hp1, hp2, hc1]
            exact hK.out _ _ (Below.refl _ _) rfl
          · intro A wx hR hout hdep K hK
            have h84 : A.tmps[84]?.getD undef = (.int .u32 (X : Int)) := hdep 84 (by kernel_rfl)
            have h85 : A.tmps[85]?.getD undef = (.int .i64 (k : Int)) := hdep 85 (by kernel_rfl)
            have h83 : A.tmps[83]?.getD undef = (.bool true) := hdep 83 (by kernel_rfl)
            refine if_yes ((wanted_is (j := 8) (b := true) (by kernel_rfl) (by kernel_rfl) h83).trans rfl) ?_
            simp [go_sem, h84, h85, hkl, hkh, hm, hk0, hp1, hp2, hc1]
            exact hK.out _ _ (Below.refl _ _) rfl
          · intro A wx hR hout hdep K hK
            have h86 : A.tmps[86]?.getD undef = (.int .u32 ((X : Int) / 2 ^ k)) := hdep 86 (by kernel_rfl)
            have h83 : A.tmps[83]?.getD undef = (.bool true) := hdep 83 (by kernel_rfl)
            refine if_yes ((wanted_is (j := 8) (b := true) (by kernel_rfl) (by kernel_rfl) h83).trans rfl) ?_
            simp [go_sem, h86, hkl, hkh, hm, hk0, hp1, hp2, hc1]
            exact hK.out _ _ (Below.refl _ _) rfl
          · intro A wx hR hout hdep K hK
            have h1 : A.tmps[1]?.getD undef = (.int .u32 (t : Int)) := hout 1 (by kernel_rfl)
            have h83 : A.tmps[83]?.getD undef = (.bool true) := hdep 83 (by kernel_rfl)
            refine if_yes ((wanted_is (j := 8) (b := true) (by kernel_rfl) (by kernel_rfl) h83).trans rfl) ?_
            simp [go_sem, h1, hkl, hkh, hm, hk0, hp1, hp2, hc1]
            exact hK.out _ _ (Below.refl _ _) rfl
          · intro A wx hR hout hdep K hK
            have h17 : A.tmps[17]?.getD undef = (.int .i64 (k : Int)) := hout 17 (by kernel_rfl)
            have h83 : A.tmps[83]?.getD undef = (.bool true) := hdep 83 (by kernel_rfl)
            refine if_yes ((wanted_is (j := 8) (b := true) (by kernel_rfl) (by kernel_rfl) h83).trans rfl) ?_
            simp [go_sem, h17, hkl, hkh, hm, hk0, hp1, hp2, hc1]
            exact hK.out _ _ (Below.refl _ _) rfl
          · intro A wx hR hout hdep K hK
            have h88 : A.tmps[88]?.getD undef = (.int .u32 (t : Int)) := hdep 88 (by kernel_rfl)
            have h89 : A.tmps[89]?.getD undef = (.int .i64 (k : Int)) := hdep 89 (by kernel_rfl)
            have h83 : A.tmps[83]?.getD undef = (.bool true) := hdep 83 (by kernel_rfl)
            refine if_yes ((wanted_is (j := 8) (b := true) (by kernel_rfl) (by kernel_rfl) h83).trans rfl) ?_
            simp [go_sem, h88, h89, hkl, hkh, hm, hk0, hp1, hp2, hc1]
            exact hK.out _ _ (Below.refl _ _) rfl
          · intro A wx hR hout hdep K hK
            have h90 : A.tmps[90]?.getD undef = (.int .u32 ((t : Int) / 2 ^ k)) := hdep 90 (by kernel_rfl)
            have h83 : A.tmps[83]?.getD undef = (.bool true) := hdep 83 (by kernel_rfl)
            refine if_yes ((wanted_is (j := 8) (b := true) (by kernel_rfl) (by kernel_rfl) h83).trans rfl) ?_
            simp [go_sem, h90, hkl, hkh, hm, hk0, hp1, hp2, hc1]
            exact hK.out _ _ (Below.refl _ _) rfl
          · intro A wx hR hout hdep K hK
            have h87 : A.tmps[87]?.getD undef = (.int .u32 (p : Int)) := hdep 87 (by kernel_rfl)
            have h91 : A.tmps[91]?.getD undef = (.int .u32 (p : Int)) := hdep 91 (by kernel_rfl)
            have h83 : A.tmps[83]?.getD undef = (.bool true) := hdep 83 (by kernel_rfl)
            refine if_yes ((wanted_is (j := 8) (b := true) (by kernel_rfl) (by kernel_rfl) h83).trans rfl) ?_
            simp [go_sem, h87, h91, hkl, hkh, hm, hk0, hp1, hp2, hc1]
            exact hK.out _ _ (Below.refl _ _) rfl
          · intro A wx hR hout hdep K hK
            have h83 : A.tmps[83]?.getD undef = (.bool true) := hdep 83 (by kernel_rfl)
            have h92 : A.tmps[92]?.getD undef = (.bool false) := hdep 92 (by kernel_rfl)
            refine if_yes (by kernel_rfl) ?_
            simp [go_sem, h83, h92, hkl, hkh, hm, hk0, hp1, hp2, hc1]
            exact hK.out _ _ (Below.refl _ _) rfl
          simp only [putSl, Act.put, List.setIfInBounds_toArray, List.set_cons_zero, List.set_cons_succ, show f 93 = .bool false from hf 93 (by kernel_rfl)]
          have HBF : Hid (Below w.heap.size w wy) := below_tr HBr.out hR
          go_wp2
          go_roundw
          case rel => exact ⟨k + 1, by omega, by go_num, HBF.out⟩
          case measure => simp [intOf]; omega
        · by_cases hc2 : h < k
          · obtain ⟨p, hp1, hp2⟩ := HP.out k (.inr hc2)
            have hkl : ¬ (k : Int) < (l : Int) := by omega
            have hkh : (h : Int) < (k : Int) := by omega
            go_wp2
            refine wp_region_slots (R := Ext) [⟨75, fun v _ => v = (.int .i64 (k : Int)), fun _ _ _ _ h => h⟩, ⟨76, fun v _ => v = (.int .i64 (l : Int)), fun _ _ _ _ h => h⟩, ⟨77, fun v _ => v = (.bool false), fun _ _ _ _ h => h⟩, ⟨78, fun v _ => v = (.bool false), fun _ _ _ _ h => h⟩, ⟨79, fun v _ => v = (.int .i64 (k : Int)), fun _ _ _ _ h => h⟩, ⟨80, fun v _ => v = (.int .i64 (h : Int)), fun _ _ _ _ h => h⟩, ⟨81, fun v _ => v = (.bool true), fun _ _ _ _ h => h⟩, ⟨82, fun v _ => v = (.bool true), fun _ _ _ _ h => h⟩, ⟨83, fun v _ => v = (.bool true), fun _ _ _ _ h => h⟩, ⟨84, fun v _ => v = (.int .u32 (X : Int)), fun _ _ _ _ h => h⟩, ⟨85, fun v _ => v = (.int .i64 (k : Int)), fun _ _ _ _ h => h⟩, ⟨86, fun v _ => v = (.int .u32 ((X : Int) / 2 ^ k)), fun _ _ _ _ h => h⟩, ⟨87, fun v _ => v = (.int .u32 (p : Int)), fun _ _ _ _ h => h⟩, ⟨88, fun v _ => v = (.int .u32 (t : Int)), fun _ _ _ _ h => h⟩, ⟨89, fun v _ => v = (.int .i64 (k : Int)), fun _ _ _ _ h => h⟩, ⟨90, fun v _ => v = (.int .u32 ((t : Int) / 2 ^ k)), fun _ _ _ _ h => h⟩, ⟨91, fun v _ => v = (.int .u32 (p : Int)), fun _ _ _ _ h => h⟩, ⟨92, fun v _ => v = (.bool false), fun _ _ _ _ h => h⟩, ⟨93, fun v _ => v = (.bool false), fun _ _ _ _ h => h⟩] _ (by kernel_rfl) rfl (by kernel_rfl) (Below.drew (Below.refl _ _)) (fun _ _ _ h1 h2 => below_tr h1 h2) (fun QQ => ⟨?_, ?_, ?_, ?_, ?_, ?_, ?_, ?_, ?_, ?_, ?_, ?_, ?_, ?_, ?_, ?_, ?_, ?_, ?_, trivial⟩) (fun f wy hR hf => ?_)
            · intro A wx hR hout hdep K hK
              have h17 : A.tmps[17]?.getD undef = (.int .i64 (k : Int)) := hout 17 (by kernel_rfl)
              refine if_yes (by kernel_rfl) ?_
              simp [go_sem, h17, hkl, hkh, hm, hk0, hp1, hp2, hc1, hc2]
              exact hK.out _ _ (Below.refl _ _) rfl
            · intro A wx hR hout hdep K hK
              have h9 : A.tmps[9]?.getD undef = (.int .i64 (l : Int)) := hout 9 (by kernel_rfl)
              refine if_yes (by kernel_rfl) ?_
              simp [go_sem, h9, hkl, hkh, hm, hk0, hp1, hp2, hc1, hc2]
              exact hK.out _ _ (Below.refl _ _) rfl
            · intro A wx hR hout hdep K hK
              have h75 : A.tmps[75]?.getD undef = (.int .i64 (k : Int)) := hdep 75 (by kernel_rfl)
              have h76 : A.tmps[76]?.getD undef = (.int .i64 (l : Int)) := hdep 76 (by kernel_rfl)
              refine if_yes (by kernel_rfl) ?_
              simp [go_sem, h75, h76, hkl, hkh, hm, hk0, hp1, hp2, hc1, hc2]
              exact hK.out _ _ (Below.refl _ _) rfl
            · intro A wx hR hout hdep K hK
              have h77 : A.tmps[77]?.getD undef = (.bool false) := hdep 77 (by kernel_rfl)
              refine if_yes (by kernel_rfl) ?_
              simp [go_sem, h77, hkl, hkh, hm, hk0, hp1, hp2, hc1, hc2]
              exact hK.out _ _ (Below.refl _ _) rfl
            · intro A wx hR hout hdep K hK
              have h17 : A.tmps[17]?.getD undef = (.int .i64 (k : Int)) := hout 17 (by kernel_rfl)
              have h78 : A.tmps[78]?.getD undef = (.bool false) := hdep 78 (by kernel_rfl)
              refine if_yes ((wanted_is (j := 3) (b := false) (by kernel_rfl) (by kernel_rfl) h78).trans rfl) ?_
              simp [go_sem, h17, hkl, hkh, hm, hk0, hp1, hp2, hc1, hc2]
              exact hK.out _ _ (Below.refl _ _) rfl
            · intro A wx hR hout hdep K hK
              have h10 : A.tmps[10]?.getD undef = (.int .i64 (h : Int)) := hout 10 (by kernel_rfl)
              have h78 : A.tmps[78]?.getD undef = (.bool false) := hdep 78 (by kernel_rfl)
              refine if_yes ((wanted_is (j := 3) (b := false) (by kernel_rfl) (by kernel_rfl) h78).trans rfl) ?_
              simp [go_sem, h10, hkl, hkh, hm, hk0, hp1, hp2, hc1, hc2]
              exact hK.out _ _ (Below.refl _ _) rfl
            · intro A wx hR hout hdep K hK
              have h79 : A.tmps[79]?.getD undef = (.int .i64 (k : Int)) := hdep 79 (by kernel_rfl)
              have h80 : A.tmps[80]?.getD undef = (.int .i64 (h : Int)) := hdep 80 (by kernel_rfl)
              have h78 : A.tmps[78]?.getD undef = (.bool false) := hdep 78 (by kernel_rfl)
              refine if_yes ((wanted_is (j := 3) (b := false) (by kernel_rfl) (by kernel_rfl) h78).trans rfl) ?_
              simp [go_sem, h79, h80, hkl, hkh, hm, hk0, hp1, hp2, hc1, hc2]
              exact hK.out _ _ (Below.refl _ _) rfl
            · intro A wx hR hout hdep K hK
              have h78 : A.tmps[78]?.getD undef = (.bool false) := hdep 78 (by kernel_rfl)
              have h81 : A.tmps[81]?.getD undef = (.bool true) := hdep 81 (by kernel_rfl)
              refine if_yes (by kernel_rfl) ?_
              simp [go_sem, h78, h81, hkl, hkh, hm, hk0, hp1, hp2, hc1, hc2]
              exact hK.out _ _ (Below.refl _ _) rfl
            · intro A wx hR hout hdep K hK
              have h82 : A.tmps[82]?.getD undef = (.bool true) := hdep 82 (by kernel_rfl)
              refine if_yes (by kernel_rfl) ?_
              simp [go_sem, h82, hkl, hkh, hm, hk0, hp1, hp2, hc1, hc2]
              exact hK.out _ _ (Below.refl _ _) rfl
            · intro A wx hR hout hdep K hK
              have h11 : A.tmps[11]?.getD undef = (.int .u32 (X : Int)) := hout 11 (by kernel_rfl)
              have h83 : A.tmps[83]?.getD undef = (.bool true) := hdep 83 (by kernel_rfl)
              refine if_yes ((wanted_is (j := 8) (b := true) (by kernel_rfl) (by kernel_rfl) h83).trans rfl) ?_
              simp [go_sem, h11, hkl, hkh, hm, hk0, hp1, hp2, hc1, hc2]
              exact hK.out _ _ (Below.refl _ _) rfl
            · intro A wx hR hout hdep K hK
              have h17 : A.tmps[17]?.getD undef = (.int .i64 (k : Int)) := hout 17 (by kernel_rfl)
              have h83 : A.tmps[83]?.getD undef = (.bool true) := hdep 83 (by kernel_rfl)
              refine if_yes ((wanted_is (j := 8) (b := true) (by kernel_rfl) (by kernel_rfl) h83).trans rfl) ?_
              simp [go_sem, h17, hkl, hkh, hm, hk0, hp1, hp2, hc1, hc2]
              exact hK.out _ _ (Below.refl _ _) rfl
            · intro A wx hR hout hdep K hK
              have h84 : A.tmps[84]?.getD undef = (.int .u32 (X : Int)) := hdep 84 (by kernel_rfl)
              have h85 : A.tmps[85]?.getD undef = (.int .i64 (k : Int)) := hdep 85 (by kernel_rfl)
              have h83 : A.tmps[83]?.getD undef = (.bool true) := hdep 83 (by kernel_rfl)
              refine if_yes ((wanted_is (j := 8) (b := true) (by kernel_rfl) (by kernel_rfl) h83).trans rfl) ?_
              simp [go_sem, h84, h85, hkl, hkh, hm, hk0, hp1, hp2, hc1, hc2]
              exact hK.out _ _ (Below.refl _ _) rfl
            · intro A wx hR hout hdep K hK
              have h86 : A.tmps[86]?.getD undef = (.int .u32 ((X : Int) / 2 ^ k)) := hdep 86 (by kernel_rfl)
              have h83 : A.tmps[83]?.getD undef = (.bool true) := hdep 83 (by kernel_rfl)
              refine if_yes ((wanted_is (j := 8) (b := true) (by kernel_rfl) (by kernel_rfl) h83).trans rfl) ?_
              simp [go_sem, h86, hkl, hkh, hm, hk0, hp1, hp2, hc1, hc2]
              exact hK.out _ _ (Below.refl _ _) rfl
            · intro A wx hR hout hdep K hK
              have h1 : A.tmps[1]?.getD undef = (.int .u32 (t : Int)) := hout 1 (by kernel_rfl)
              have h83 : A.tmps[83]?.getD undef = (.bool true) := hdep 83 (by kernel_rfl)
              refine if_yes ((wanted_is (j := 8) (b := true) (by kernel_rfl) (by kernel_rfl) h83).trans rfl) ?_
              simp [go_sem, h1, hkl, hkh, hm, hk0, hp1, hp2, hc1, hc2]
              exact hK.out _ _ (Below.refl _ _) rfl
            · intro A wx hR hout hdep K hK
              have h17 : A.tmps[17]?.getD undef = (.int .i64 (k : Int)) := hout 17 (by kernel_rfl)
              have h83 : A.tmps[83]?.getD undef = (.bool true) := hdep 83 (by kernel_rfl)
              refine if_yes ((wanted_is (j := 8) (b := true) (by kernel_rfl) (by kernel_rfl) h83).trans rfl) ?_
              simp [go_sem, h17, hkl, hkh, hm, hk0, hp1, hp2, hc1, hc2]
              exact hK.out _ _ (Below.refl _ _) rfl
            · intro A wx hR hout hdep K hK
              have h88 : A.tmps[88]?.getD undef = (.int .u32 (t : Int)) := hdep 88 (by kernel_rfl)
              have h89 : A.tmps[89]?.getD undef = (.int .i64 (k : Int)) := hdep 89 (by kernel_rfl)
              have h83 : A.tmps[83]?.getD undef = (.bool true) := hdep 83 (by kernel_rfl)
              refine if_yes ((wanted_is (j := 8) (b := true) (by kernel_rfl) (by kernel_rfl) h83).trans rfl) ?_
              simp [go_sem, h88, h89, hkl, hkh, hm, hk0, hp1, hp2, hc1, hc2]
              exact hK.out _ _ (Below.refl _ _) rfl
            · intro A wx hR hout hdep K hK
              have h90 : A.tmps[90]?.getD undef = (.int .u32 ((t : Int) / 2 ^ k)) := hdep 90 (by kernel_rfl)
              have h83 : A.tmps[83]?.getD undef = (.bool true) := hdep 83 (by kernel_rfl)
              refine if_yes ((wanted_is (j := 8) (b := true) (by kernel_rfl) (by kernel_rfl) h83).trans rfl) ?_
              simp [go_sem, h90, hkl, hkh, hm, hk0, hp1, hp2, hc1, hc2]
              exact hK.out _ _ (Below.refl _ _) rfl
            · intro A wx hR hout hdep K hK
              have h87 : A.tmps[87]?.getD undef = (.int .u32 (p : Int)) := hdep 87 (by kernel_rfl)
              have h91 : A.tmps[91]?.getD undef = (.int .u32 (p : Int)) := hdep 91 (by kernel_rfl)
              have h83 : A.tmps[83]?.getD undef = (.bool true) := hdep 83 (by kernel_rfl)
              refine if_yes ((wanted_is (j := 8) (b := true) (by kernel_rfl) (by kernel_rfl) h83).trans rfl) ?_
              simp [go_sem, h87, h91, hkl, hkh, hm, hk0, hp1, hp2, hc1, hc2]
              exact hK.out _ _ (Below.refl _ _) rfl
            · intro A wx hR hout hdep K hK
              have h83 : A.tmps[83]?.getD undef = (.bool true) := hdep 83 (by kernel_rfl)
              have h92 : A.tmps[92]?.getD undef = (.bool false) := hdep 92 (by kernel_rfl)
              refine if_yes (by kernel_rfl) ?_
              simp [go_sem, h83, h92, hkl, hkh, hm, hk0, hp1, hp2, hc1, hc2]
              exact hK.out _ _ (Below.refl _ _) rfl
            simp only [putSl, Act.put, List.setIfInBounds_toArray, List.set_cons_zero, List.set_cons_succ, show f 93 = .bool false from hf 93 (by kernel_rfl)]
            have HBF : Hid (Below w.heap.size w wy) := below_tr HBr.out hR
            go_wp2
            go_roundw
            case rel => exact ⟨k + 1, by omega, by go_num, HBF.out⟩
            case measure => simp [intOf]; omega
          · have hkl : ¬ (k : Int) < (l : Int) := by omega
            have hkh : ¬ (h : Int) < (k : Int) := by omega
            go_wp2
            refine wp_region_slots (R := Ext) [⟨75, fun v _ => v = (.int .i64 (k : Int)), fun _ _ _ _ h => h⟩, ⟨76, fun v _ => v = (.int .i64 (l : Int)), fun _ _ _ _ h => h⟩, ⟨77, fun v _ => v = (.bool false), fun _ _ _ _ h => h⟩, ⟨78, fun v _ => v = (.bool false), fun _ _ _ _ h => h⟩, ⟨79, fun v _ => v = (.int .i64 (k : Int)), fun _ _ _ _ h => h⟩, ⟨80, fun v _ => v = (.int .i64 (h : Int)), fun _ _ _ _ h => h⟩, ⟨81, fun v _ => v = (.bool false), fun _ _ _ _ h => h⟩, ⟨82, fun v _ => v = (.bool false), fun _ _ _ _ h => h⟩, ⟨83, fun v _ => v = (.bool false), fun _ _ _ _ h => h⟩, ⟨93, fun v _ => v = (.bool false), fun _ _ _ _ h => h⟩] _ (by kernel_rfl) rfl (by kernel_rfl) (Below.drew (Below.refl _ _)) (fun _ _ _ h1 h2 => below_tr h1 h2) (fun QQ => ⟨?_, ?_, ?_, ?_, ?_, ?_, ?_, ?_, ?_, ?_, ?_, ?_, ?_, ?_, ?_, ?_, ?_, ?_, ?_, trivial⟩) (fun f wy hR hf => ?_)
            · intro A wx hR hout hdep K hK
              have h17 : A.tmps[17]?.getD undef = (.int .i64 (k : Int)) := hout 17 (by kernel_rfl)
              refine if_yes (by kernel_rfl) ?_
              simp [go_sem, h17, hkl, hkh, hc1, hc2]
              exact hK.out _ _ (Below.refl _ _) rfl
            · intro A wx hR hout hdep K hK
              have h9 : A.tmps[9]?.getD undef = (.int .i64 (l : Int)) := hout 9 (by kernel_rfl)
              refine if_yes (by kernel_rfl) ?_
              simp [go_sem, h9, hkl, hkh, hc1, hc2]
              exact hK.out _ _ (Below.refl _ _) rfl
            · intro A wx hR hout hdep K hK
              have h75 : A.tmps[75]?.getD undef = (.int .i64 (k : Int)) := hdep 75 (by kernel_rfl)
              have h76 : A.tmps[76]?.getD undef = (.int .i64 (l : Int)) := hdep 76 (by kernel_rfl)
              refine if_yes (by kernel_rfl) ?_
              simp [go_sem, h75, h76, hkl, hkh, hc1, hc2]
              exact hK.out _ _ (Below.refl _ _) rfl
            · intro A wx hR hout hdep K hK
              have h77 : A.tmps[77]?.getD undef = (.bool false) := hdep 77 (by kernel_rfl)
              refine if_yes (by kernel_rfl) ?_
              simp [go_sem, h77, hkl, hkh, hc1, hc2]
              exact hK.out _ _ (Below.refl _ _) rfl
            · intro A wx hR hout hdep K hK
              have h17 : A.tmps[17]?.getD undef = (.int .i64 (k : Int)) := hout 17 (by kernel_rfl)
              have h78 : A.tmps[78]?.getD undef = (.bool false) := hdep 78 (by kernel_rfl)
              refine if_yes ((wanted_is (j := 3) (b := false) (by kernel_rfl) (by kernel_rfl) h78).trans rfl) ?_
              simp [go_sem, h17, hkl, hkh, hc1, hc2]
              exact hK.out _ _ (Below.refl _ _) rfl
            · intro A wx hR hout hdep K hK
              have h10 : A.tmps[10]?.getD undef = (.int .i64 (h : Int)) := hout 10 (by kernel_rfl)
              have h78 : A.tmps[78]?.getD undef = (.bool false) := hdep 78 (by kernel_rfl)
              refine if_yes ((wanted_is (j := 3) (b := false) (by kernel_rfl) (by kernel_rfl) h78).trans rfl) ?_
              simp [go_sem, h10, hkl, hkh, hc1, hc2]
              exact hK.out _ _ (Below.refl _ _) rfl
            · intro A wx hR hout hdep K hK
              have h79 : A.tmps[79]?.getD undef = (.int .i64 (k : Int)) := hdep 79 (by kernel_rfl)
              have h80 : A.tmps[80]?.getD undef = (.int .i64 (h : Int)) := hdep 80 (by kernel_rfl)
              have h78 : A.tmps[78]?.getD undef = (.bool false) := hdep 78 (by kernel_rfl)
              refine if_yes ((wanted_is (j := 3) (b := false) (by kernel_rfl) (by kernel_rfl) h78).trans rfl) ?_
              simp [go_sem, h79, h80, hkl, hkh, hc1, hc2]
              exact hK.out _ _ (Below.refl _ _) rfl
            · intro A wx hR hout hdep K hK
              have h78 : A.tmps[78]?.getD undef = (.bool false) := hdep 78 (by kernel_rfl)
              have h81 : A.tmps[81]?.getD undef = (.bool false) := hdep 81 (by kernel_rfl)
              refine if_yes (by kernel_rfl) ?_
              simp [go_sem, h78, h81, hkl, hkh, hc1, hc2]
              exact hK.out _ _ (Below.refl _ _) rfl
            · intro A wx hR hout hdep K hK
              have h82 : A.tmps[82]?.getD undef = (.bool false) := hdep 82 (by kernel_rfl)
              refine if_yes (by kernel_rfl) ?_
              simp [go_sem, h82, hkl, hkh, hc1, hc2]
              exact hK.out _ _ (Below.refl _ _) rfl
            · intro A wx hR hout hdep K hK
              have h11 : A.tmps[11]?.getD undef = (.int .u32 (X : Int)) := hout 11 (by kernel_rfl)
              have h83 : A.tmps[83]?.getD undef = (.bool false) := hdep 83 (by kernel_rfl)
              refine if_not (by rw [wanted_is (j := 8) (b := true) (by kernel_rfl) (by kernel_rfl) h83]; decide) ?_
              exact hK.out _ _ (Below.refl _ _) trivial
            · intro A wx hR hout hdep K hK
              have h17 : A.tmps[17]?.getD undef = (.int .i64 (k : Int)) := hout 17 (by kernel_rfl)
              have h83 : A.tmps[83]?.getD undef = (.bool false) := hdep 83 (by kernel_rfl)
              refine if_not (by rw [wanted_is (j := 8) (b := true) (by kernel_rfl) (by kernel_rfl) h83]; decide) ?_
              exact hK.out _ _ (Below.refl _ _) trivial
            · intro A wx hR hout hdep K hK
              have h83 : A.tmps[83]?.getD undef = (.bool false) := hdep 83 (by kernel_rfl)
              refine if_not (by rw [wanted_is (j := 8) (b := true) (by kernel_rfl) (by kernel_rfl) h83]; decide) ?_
              exact hK.out _ _ (Below.refl _ _) trivial
            · intro A wx hR hout hdep K hK
              have h83 : A.tmps[83]?.getD undef = (.bool false) := hdep 83 (by kernel_rfl)
              refine if_not (by rw [wanted_is (j := 8) (b := true) (by kernel_rfl) (by kernel_rfl) h83]; decide) ?_
              exact hK.out _ _ (Below.refl _ _) trivial
            · intro A wx hR hout hdep K hK
              have h1 : A.tmps[1]?.getD undef = (.int .u32 (t : Int)) := hout 1 (by kernel_rfl)
              have h83 : A.tmps[83]?.getD undef = (.bool false) := hdep 83 (by kernel_rfl)
              refine if_not (by rw [wanted_is (j := 8) (b := true) (by kernel_rfl) (by kernel_rfl) h83]; decide) ?_
              exact hK.out _ _ (Below.refl _ _) trivial
            · intro A wx hR hout hdep K hK
              have h17 : A.tmps[17]?.getD undef = (.int .i64 (k : Int)) := hout 17 (by kernel_rfl)
              have h83 : A.tmps[83]?.getD undef = (.bool false) := hdep 83 (by kernel_rfl)
              refine if_not (by rw [wanted_is (j := 8) (b := true) (by kernel_rfl) (by kernel_rfl) h83]; decide) ?_
              exact hK.out _ _ (Below.refl _ _) trivial
            · intro A wx hR hout hdep K hK
              have h83 : A.tmps[83]?.getD undef = (.bool false) := hdep 83 (by kernel_rfl)
              refine if_not (by rw [wanted_is (j := 8) (b := true) (by kernel_rfl) (by kernel_rfl) h83]; decide) ?_
              exact hK.out _ _ (Below.refl _ _) trivial
            · intro A wx hR hout hdep K hK
              have h83 : A.tmps[83]?.getD undef = (.bool false) := hdep 83 (by kernel_rfl)
              refine if_not (by rw [wanted_is (j := 8) (b := true) (by kernel_rfl) (by kernel_rfl) h83]; decide) ?_
              exact hK.out _ _ (Below.refl _ _) trivial
            · intro A wx hR hout hdep K hK
              have h83 : A.tmps[83]?.getD undef = (.bool false) := hdep 83 (by kernel_rfl)
              refine if_not (by rw [wanted_is (j := 8) (b := true) (by kernel_rfl) (by kernel_rfl) h83]; decide) ?_
              exact hK.out _ _ (Below.refl _ _) trivial
            · intro A wx hR hout hdep K hK
              have h83 : A.tmps[83]?.getD undef = (.bool false) := hdep 83 (by kernel_rfl)
              refine if_yes (by kernel_rfl) ?_
              simp [go_sem, h83, hkl, hkh, hc1, hc2]
              exact hK.out _ _ (Below.refl _ _) rfl
            simp only [putSl, Act.put, List.setIfInBounds_toArray, List.set_cons_zero, List.set_cons_succ, show f 93 = .bool false from hf 93 (by kernel_rfl)]
            have HBF : Hid (Below w.heap.size w wy) := below_tr HBr.out hR
            go_wp2
            go_roundw
            case rel => exact ⟨k + 1, by omega, by go_num, HBF.out⟩
            case measure => simp [intOf]; omega
      · have he : k = 32 := by omega
        subst he
        have KK := KA.out wr (HT.out _ HBr.out)
        go_wp2_with fail
        refine KK.mono ?_
        rintro e u4 ⟨rfl, b'⟩
        have HBE : Hid (Below w.heap.size w u4) := below_tr HBr.out b'
        clear b' KK
        go_wp2
        go_ret
        exact ⟨rfl, HBE.out⟩
  · rw [e1] at ha0
    rw [e2] at hb0
    have hcmp : ((l : Int) < (h : Int)) := by omega
    clear e1 e2
    go_enter Tryd.func5, Tryd.ntmps5
    go_wp2_with fail
    refine (K1.out _ hT).mono ?_
    rintro e u1 ⟨rfl, b1⟩
    go_wp2_with fail
    refine (K2.out _ (HT.out _ b1)).mono ?_
    rintro e u2 ⟨rfl, b'⟩
    have b2 := below_tr b1 b'
    clear b'
    go_wp2_with fail
    refine (K3.out _ (HT.out _ b2)).mono ?_
    rintro e u3 ⟨rfl, b'⟩
    have b3 := below_tr b2 b'
    clear b'
    have HB3 : Hid (Below w.heap.size w u3) := b3
    clear b1 b2 b3 K1 K2 K3 hT
    go_wp2
    go_loopw [72] (fun i wr => ∃ k : Nat, k ≤ 32 ∧ i = .int .i64 (k : Int) ∧ Below w.heap.size w wr) (fun i _ => 32 - (intOf i).toNat)
    case atStart => exact ⟨0, by decide, rfl, HB3.out⟩
    case round =>
      obtain ⟨k, hk, rfl, hbr⟩ := hrel
      have HBr : Hid (Below w.heap.size w wr) := hbr
      clear hbr
      have hk64 : wrap64 ((k : Int) + 1) = (k : Int) + 1 := by unfold wrap64; omega
      by_cases hk32 : k < 32
      · have hkI : (k : Int) < 32 := by omega
        have hm : min k 64 = k := by omega
        have hk0 : ¬ (k : Int) < 0 := by omega
        by_cases hc1 : k < l
        · obtain ⟨p, hp1, hp2⟩ := HP.out k (.inl hc1)
          have hkl : (k : Int) < (l : Int) := by omega
          have hkh : ¬ (h : Int) < (k : Int) := by omega
          go_wp2
          refine wp_region_slots (R := Ext) [⟨75, fun v _ => v = (.int .i64 (k : Int)), fun _ _ _ _ h => h⟩, ⟨76, fun v _ => v = (.int .i64 (l : Int)), fun _ _ _ _ h => h⟩, ⟨77, fun v _ => v = (.bool true), fun _ _ _ _ h => h⟩, ⟨78, fun v _ => v = (.bool true), fun _ _ _ _ h => h⟩, ⟨82, fun v _ => v = (.bool true), fun _ _ _ _ h => h⟩, ⟨83, fun v _ => v = (.bool true), fun _ _ _ _ h => h⟩, ⟨84, fun v _ => v = (.int .u32 (X : Int)), fun _ _ _ _ h => h⟩, ⟨85, fun v _ => v = (.int .i64 (k : Int)), fun _ _ _ _ h => h⟩, ⟨86, fun v _ => v = (.int .u32 ((X : Int) / 2 ^ k)), fun _ _ _ _ h => h⟩, ⟨87, fun v _ => v = (.int .u32 (p : Int)), fun _ _ _ _ h => h⟩, ⟨88, fun v _ => v = (.int .u32 (t : Int)), fun _ _ _ _ h => h⟩, ⟨89, fun v _ => v = (.int .i64 (k : Int)), fun _ _ _ _ h => h⟩, ⟨90, fun v _ => v = (.int .u32 ((t : Int) / 2 ^ k)), fun _ _ _ _ h => h⟩, ⟨91, fun v _ => v = (.int .u32 (p : Int)), fun _ _ _ _ h => h⟩, ⟨92, fun v _ => v = (.bool false), fun _ _ _ _ h => h⟩, ⟨93, fun v _ => v = (.bool false), fun _ _ _ _ h => h⟩] _ (by kernel_rfl) rfl (by kernel_rfl) (Below.drew (Below.refl _ _)) (fun _ _ _ h1 h2 => below_tr h1 h2) (fun QQ => ⟨?_, ?_, ?_, ?_, ?_, ?_, ?_, ?_, ?_, ?_, ?_, ?_, ?_, ?_, ?_, ?_, ?_, ?_, ?_, trivial⟩) (fun f wy hR hf => ?_)
          · intro A wx hR hout hdep K hK
            have h17 : A.tmps[17]?.getD undef = (.int .i64 (k : Int)) := hout 17 (by kernel_rfl)
            refine if_yes (by kernel_rfl) ?_
            simp [go_sem, h17, hkl, hkh, hm, hk0, hp1, hp2, hc1]
            exact hK.out _ _ (Below.refl _ _) rfl
          · intro A wx hR hout hdep K hK
            have h9 : A.tmps[9]?.getD undef = (.int .i64 (l : Int)) := hout 9 (by kernel_rfl)
            refine if_yes (by kernel_rfl) ?_
            simp [go_sem, h9, hkl, hkh, hm, hk0, hp1, hp2, hc1]
            exact hK.out _ _ (Below.refl _ _) rfl
          · intro A wx hR hout hdep K hK
            have h75 : A.tmps[75]?.getD undef = (.int .i64 (k : Int)) := hdep 75 (by kernel_rfl)
            have h76 : A.tmps[76]?.getD undef = (.int .i64 (l : Int)) := hdep 76 (by kernel_rfl)
            refine if_yes (by kernel_rfl) ?_
            simp [go_sem, h75, h76, hkl, hkh, hm, hk0, hp1, hp2, hc1]
            exact hK.out _ _ (Below.refl _ _) rfl
          · intro A wx hR hout hdep K hK
            have h77 : A.tmps[77]?.getD undef = (.bool true) := hdep 77 (by kernel_rfl)
            refine if_yes (by kernel_rfl) ?_
            simp [go_sem, h77, hkl, hkh, hm, hk0, hp1, hp2, hc1]
            exact hK.out _ _ (Below.refl _ _) rfl
          · intro A wx hR hout hdep K hK
            have h17 : A.tmps[17]?.getD undef = (.int .i64 (k : Int)) := hout 17 (by kernel_rfl)
            have h78 : A.tmps[78]?.getD undef = (.bool true) := hdep 78 (by kernel_rfl)
            refine if_not (by rw [wanted_is (j := 3) (b := false) (by kernel_rfl) (by kernel_rfl) h78]; decide) ?_
            exact hK.out _ _ (Below.refl _ _) trivial
          · intro A wx hR hout hdep K hK
            have h10 : A.tmps[10]?.getD undef = (.int .i64 (h : Int)) := hout 10 (by kernel_rfl)
            have h78 : A.tmps[78]?.getD undef = (.bool true) := hdep 78 (by kernel_rfl)
            refine if_not (by rw [wanted_is (j := 3) (b := false) (by kernel_rfl) (by kernel_rfl) h78]; decide) ?_
            exact hK.out _ _ (Below.refl _ _) trivial
          · intro A wx hR hout hdep K hK
            have h78 : A.tmps[78]?.getD undef = (.bool true) := hdep 78 (by kernel_rfl)
            refine if_not (by rw [wanted_is (j := 3) (b := false) (by kernel_rfl) (by kernel_rfl) h78]; decide) ?_
            exact hK.out _ _ (Below.refl _ _) trivial
          · intro A wx hR hout hdep K hK
            have h78 : A.tmps[78]?.getD undef = (.bool true) := hdep 78 (by kernel_rfl)
            refine if_yes (by kernel_rfl) ?_
            simp [go_sem, h78, hkl, hkh, hm, hk0, hp1, hp2, hc1]
            exact hK.out _ _ (Below.refl _ _) rfl
          · intro A wx hR hout hdep K hK
            have h82 : A.tmps[82]?.getD undef = (.bool true) := hdep 82 (by kernel_rfl)
            refine if_yes (by kernel_rfl) ?_
            simp [go_sem, h82, hkl, hkh, hm, hk0, hp1, hp2, hc1]
            exact hK.out _ _ (Below.refl _ _) rfl
          · intro A wx hR hout hdep K hK
            have h11 : A.tmps[11]?.getD undef = (.int .u32 (X : Int)) := hout 11 (by kernel_rfl)
            have h83 : A.tmps[83]?.getD undef = (.bool true) := hdep 83 (by kernel_rfl)
            refine if_yes ((wanted_is (j := 8) (b := true) (by kernel_rfl) (by kernel_rfl) h83).trans rfl) ?_
            simp [go_sem, h11, hkl, hkh, hm, hk0, hp1, hp2, hc1]
            exact hK.out _ _ (Below.refl _ _) rfl
          · intro A wx hR hout hdep K hK
            have h17 : A.tmps[17]?.getD undef = (.int .i64 (k : Int)) := hout 17 (by kernel_rfl)
            have h83 : A.tmps[83]?.getD undef = (.bool true) := hdep 83 (by kernel_rfl)
            refine if_yes ((wanted_is (j := 8) (b := true) (by kernel_rfl) (by kernel_rfl) h83).trans rfl) ?_
            simp [go_sem, h17, hkl, hkh, hm, hk0, hp1, hp2, hc1]
            exact hK.out _ _ (Below.refl _ _) rfl
          · intro A wx hR hout hdep K hK
            have h84 : A.tmps[84]?.getD undef = (.int .u32 (X : Int)) := hdep 84 (by kernel_rfl)
            have h85 : A.tmps[85]?.getD undef = (.int .i64 (k : Int)) := hdep 85 (by kernel_rfl)
            have h83 : A.tmps[83]?.getD undef = (.bool true) := hdep 83 (by kernel_rfl)
            refine if_yes ((wanted_is (j := 8) (b := true) (by kernel_rfl) (by kernel_rfl) h83).trans rfl) ?_
            simp [go_sem, h84, h85, hkl, hkh, hm, hk0, hp1, hp2, hc1]
            exact hK.out _ _ (Below.refl _ _) rfl
          · intro A wx hR hout hdep K hK
            have h86 : A.tmps[86]?.getD undef = (.int .u32 ((X : Int) / 2 ^ k)) := hdep 86 (by kernel_rfl)
            have h83 : A.tmps[83]?.getD undef = (.bool true) := hdep 83 (by kernel_rfl)
            refine if_yes ((wanted_is (j := 8) (b := true) (by kernel_rfl) (by kernel_rfl) h83).trans rfl) ?_
            simp [go_sem, h86, hkl, hkh, hm, hk0, hp1, hp2, hc1]
            exact hK.out _ _ (Below.refl _ _) rfl
          · intro A wx hR hout hdep K hK
            have h1 : A.tmps[1]?.getD undef = (.int .u32 (t : Int)) := hout 1 (by kernel_rfl)
            have h83 : A.tmps[83]?.getD undef = (.bool true) := hdep 83 (by kernel_rfl)
            refine if_yes ((wanted_is (j := 8) (b := true) (by kernel_rfl) (by kernel_rfl) h83).trans rfl) ?_
            simp [go_sem, h1, hkl, hkh, hm, hk0, hp1, hp2, hc1]
            exact hK.out _ _ (Below.refl _ _) rfl
          · intro A wx hR hout hdep K hK
            have h17 : A.tmps[17]?.getD undef = (.int .i64 (k : Int)) := hout 17 (by kernel_rfl)
            have h83 : A.tmps[83]?.getD undef = (.bool true) := hdep 83 (by kernel_rfl)
            refine if_yes ((wanted_is (j := 8) (b := true) (by kernel_rfl) (by kernel_rfl) h83).trans rfl) ?_
            simp [go_sem, h17, hkl, hkh, hm, hk0, hp1, hp2, hc1]
            exact hK.out _ _ (Below.refl _ _) rfl
          · intro A wx hR hout hdep K hK
            have h88 : A.tmps[88]?.getD undef = (.int .u32 (t : Int)) := hdep 88 (by kernel_rfl)
            have h89 : A.tmps[89]?.getD undef = (.int .i64 (k : Int)) := hdep 89 (by kernel_rfl)
            have h83 : A.tmps[83]?.getD undef = (.bool true) := hdep 83 (by kernel_rfl)
            refine if_yes ((wanted_is (j := 8) (b := true) (by kernel_rfl) (by kernel_rfl) h83).trans rfl) ?_
            simp [go_sem, h88, h89, hkl, hkh, hm, hk0, hp1, hp2, hc1]
            exact hK.out _ _ (Below.refl _ _) rfl
          · intro A wx hR hout hdep K hK
            have h90 : A.tmps[90]?.getD undef = (.int .u32 ((t : Int) / 2 ^ k)) := hdep 90 (by kernel_rfl)
            have h83 : A.tmps[83]?.getD undef = (.bool true) := hdep 83 (by kernel_rfl)
            refine if_yes ((wanted_is (j := 8) (b := true) (by kernel_rfl) (by kernel_rfl) h83).trans rfl) ?_
            simp [go_sem, h90, hkl, hkh, hm, hk0, hp1, hp2, hc1]
            exact hK.out _ _ (Below.refl _ _) rfl
          · intro A wx hR hout hdep K hK
            have h87 : A.tmps[87]?.getD undef = (.int .u32 (p : Int)) := hdep 87 (by kernel_rfl)
            have h91 : A.tmps[91]?.getD undef = (.int .u32 (p : Int)) := hdep 91 (by kernel_rfl)
            have h83 : A.tmps[83]?.getD undef = (.bool true) := hdep 83 (by kernel_rfl)
            refine if_yes ((wanted_is (j := 8) (b := true) (by kernel_rfl) (by kernel_rfl) h83).trans rfl) ?_
            simp [go_sem, h87, h91, hkl, hkh, hm, hk0, hp1, hp2, hc1]
            exact hK.out _ _ (Below.refl _ _) rfl
          · intro A wx hR hout hdep K hK
            have h83 : A.tmps[83]?.getD undef = (.bool true) := hdep 83 (by kernel_rfl)
            have h92 : A.tmps[92]?.getD undef = (.bool false) := hdep 92 (by kernel_rfl)
            refine if_yes (by kernel_rfl) ?_
            simp [go_sem, h83, h92, hkl, hkh, hm, hk0, hp1, hp2, hc1]
            exact hK.out _ _ (Below.refl _ _) rfl
          simp only [putSl, Act.put, List.setIfInBounds_toArray, List.set_cons_zero, List.set_cons_succ, show f 93 = .bool false from hf 93 (by kernel_rfl)]
          have HBF : Hid (Below w.heap.size w wy) := below_tr HBr.out hR
          go_wp2
          go_roundw
          case rel => exact ⟨k + 1, by omega, by go_num, HBF.out⟩
          case measure => simp [intOf]; omega
        · by_cases hc2 : h < k
          · obtain ⟨p, hp1, hp2⟩ := HP.out k (.inr hc2)
            have hkl : ¬ (k : Int) < (l : Int) := by omega
            have hkh : (h : Int) < (k : Int) := by omega
            go_wp2
            refine wp_region_slots (R := Ext) [⟨75, fun v _ => v = (.int .i64 (k : Int)), fun _ _ _ _ h => h⟩, ⟨76, fun v _ => v = (.int .i64 (l : Int)), fun _ _ _ _ h => h⟩, ⟨77, fun v _ => v = (.bool false), fun _ _ _ _ h => h⟩, ⟨78, fun v _ => v = (.bool false), fun _ _ _ _ h => h⟩, ⟨79, fun v _ => v = (.int .i64 (k : Int)), fun _ _ _ _ h => h⟩, ⟨80, fun v _ => v = (.int .i64 (h : Int)), fun _ _ _ _ h => h⟩, ⟨81, fun v _ => v = (.bool true), fun _ _ _ _ h => h⟩, ⟨82, fun v _ => v = (.bool true), fun _ _ _ _ h => h⟩, ⟨83, fun v _ => v = (.bool true), fun _ _ _ _ h => h⟩, ⟨84, fun v _ => v = (.int .u32 (X : Int)), fun _ _ _ _ h => h⟩, ⟨85, fun v _ => v = (.int .i64 (k : Int)), fun _ _ _ _ h => h⟩, ⟨86, fun v _ => v = (.int .u32 ((X : Int) / 2 ^ k)), fun _ _ _ _ h => h⟩, ⟨87, fun v _ => v = (.int .u32 (p : Int)), fun _ _ _ _ h => h⟩, ⟨88, fun v _ => v = (.int .u32 (t : Int)), fun _ _ _ _ h => h⟩, ⟨89, fun v _ => v = (.int .i64 (k : Int)), fun _ _ _ _ h => h⟩, ⟨90, fun v _ => v = (.int .u32 ((t : Int) / 2 ^ k)), fun _ _ _ _ h => h⟩, ⟨91, fun v _ => v = (.int .u32 (p : Int)), fun _ _ _ _ h => h⟩, ⟨92, fun v _ => v = (.bool false), fun _ _ _ _ h => h⟩, ⟨93, fun v _ => v = (.bool false), fun _ _ _ _ h => h⟩] _ (by kernel_rfl) rfl (by kernel_rfl) (Below.drew (Below.refl _ _)) (fun _ _ _ h1 h2 => below_tr h1 h2) (fun QQ => ⟨?_, ?_, ?_, ?_, ?_, ?_, ?_, ?_, ?_, ?_, ?_, ?_, ?_, ?_, ?_, ?_, ?_, ?_, ?_, trivial⟩) (fun f wy hR hf => ?_)
            · intro A wx hR hout hdep K hK
              have h17 : A.tmps[17]?.getD undef = (.int .i64 (k : Int)) := hout 17 (by kernel_rfl)
              refine if_yes (by kernel_rfl) ?_
              simp [go_sem, h17, hkl, hkh, hm, hk0, hp1, hp2, hc1, hc2]
              exact hK.out _ _ (Below.refl _ _) rfl
            · intro A wx hR hout hdep K hK
              have h9 : A.tmps[9]?.getD undef = (.int .i64 (l : Int)) := hout 9 (by kernel_rfl)
              refine if_yes (by kernel_rfl) ?_
              simp [go_sem, h9, hkl, hkh, hm, hk0, hp1, hp2, hc1, hc2]
              exact hK.out _ _ (Below.refl _ _) rfl
            · intro A wx hR hout hdep K hK
              have h75 : A.tmps[75]?.getD undef = (.int .i64 (k : Int)) := hdep 75 (by kernel_rfl)
              have h76 : A.tmps[76]?.getD undef = (.int .i64 (l : Int)) := hdep 76 (by kernel_rfl)
              refine if_yes (by kernel_rfl) ?_
              simp [go_sem, h75, h76, hkl, hkh, hm, hk0, hp1, hp2, hc1, hc2]
              exact hK.out _ _ (Below.refl _ _) rfl
            · intro A wx hR hout hdep K hK
              have h77 : A.tmps[77]?.getD undef = (.bool false) := hdep 77 (by kernel_rfl)
              refine if_yes (by kernel_rfl) ?_
              simp [go_sem, h77, hkl, hkh, hm, hk0, hp1, hp2, hc1, hc2]
              exact hK.out _ _ (Below.refl _ _) rfl
            · intro A wx hR hout hdep K hK
              have h17 : A.tmps[17]?.getD undef = (.int .i64 (k : Int)) := hout 17 (by kernel_rfl)
              have h78 : A.tmps[78]?.getD undef = (.bool false) := hdep 78 (by kernel_rfl)
              refine if_yes ((wanted_is (j := 3) (b := false) (by kernel_rfl) (by kernel_rfl) h78).trans rfl) ?_
              simp [go_sem, h17, hkl, hkh, hm, hk0, hp1, hp2, hc1, hc2]
              exact hK.out _ _ (Below.refl _ _) rfl
            · intro A wx hR hout hdep K hK
              have h10 : A.tmps[10]?.getD undef = (.int .i64 (h : Int)) := hout 10 (by kernel_rfl)
              have h78 : A.tmps[78]?.getD undef = (.bool false) := hdep 78 (by kernel_rfl)
              refine if_yes ((wanted_is (j := 3) (b := false) (by kernel_rfl) (by kernel_rfl) h78).trans rfl) ?_
              simp [go_sem, h10, hkl, hkh, hm, hk0, hp1, hp2, hc1, hc2]
              exact hK.out _ _ (Below.refl _ _) rfl
            · intro A wx hR hout hdep K hK
              have h79 : A.tmps[79]?.getD undef = (.int .i64 (k : Int)) := hdep 79 (by kernel_rfl)
              have h80 : A.tmps[80]?.getD undef = (.int .i64 (h : Int)) := hdep 80 (by kernel_rfl)
              have h78 : A.tmps[78]?.getD undef = (.bool false) := hdep 78 (by kernel_rfl)
              refine if_yes ((wanted_is (j := 3) (b := false) (by kernel_rfl) (by kernel_rfl) h78).trans rfl) ?_
              simp [go_sem, h79, h80, hkl, hkh, hm, hk0, hp1, hp2, hc1, hc2]
              exact hK.out _ _ (Below.refl _ _) rfl
            · intro A wx hR hout hdep K hK
              have h78 : A.tmps[78]?.getD undef = (.bool false) := hdep 78 (by kernel_rfl)
              have h81 : A.tmps[81]?.getD undef = (.bool true) := hdep 81 (by kernel_rfl)
              refine if_yes (by kernel_rfl) ?_
              simp [go_sem, h78, h81, hkl, hkh, hm, hk0, hp1, hp2, hc1, hc2]
              exact hK.out _ _ (Below.refl _ _) rfl
            · intro A wx hR hout hdep K hK
              have h82 : A.tmps[82]?.getD undef = (.bool true) := hdep 82 (by kernel_rfl)
              refine if_yes (by kernel_rfl) ?_
              simp [go_sem, h82, hkl, hkh, hm, hk0, hp1, hp2, hc1, hc2]
              exact hK.out _ _ (Below.refl _ _) rfl
            · intro A wx hR hout hdep K hK
              have h11 : A.tmps[11]?.getD undef = (.int .u32 (X : Int)) := hout 11 (by kernel_rfl)
              have h83 : A.tmps[83]?.getD undef = (.bool true) := hdep 83 (by kernel_rfl)
              refine if_yes ((wanted_is (j := 8) (b := true) (by kernel_rfl) (by kernel_rfl) h83).trans rfl) ?_
              simp [go_sem, h11, hkl, hkh, hm, hk0, hp1, hp2, hc1, hc2]
              exact hK.out _ _ (Below.refl _ _) rfl
            · intro A wx hR hout hdep K hK
              have h17 : A.tmps[17]?.getD undef = (.int .i64 (k : Int)) := hout 17 (by kernel_rfl)
              have h83 : A.tmps[83]?.getD undef = (.bool true) := hdep 83 (by kernel_rfl)
              refine if_yes ((wanted_is (j := 8) (b := true) (by kernel_rfl) (by kernel_rfl) h83).trans rfl) ?_
              simp [go_sem, h17, hkl, hkh, hm, hk0, hp1, hp2, hc1, hc2]
              exact hK.out _ _ (Below.refl _ _) rfl
            · intro A wx hR hout hdep K hK
              have h84 : A.tmps[84]?.getD undef = (.int .u32 (X : Int)) := hdep 84 (by kernel_rfl)
              have h85 : A.tmps[85]?.getD undef = (.int .i64 (k : Int)) := hdep 85 (by kernel_rfl)
              have h83 : A.tmps[83]?.getD undef = (.bool true) := hdep 83 (by kernel_rfl)
              refine if_yes ((wanted_is (j := 8) (b := true) (by kernel_rfl) (by kernel_rfl) h83).trans rfl) ?_
              simp [go_sem, h84, h85, hkl, hkh, hm, hk0, hp1, hp2, hc1, hc2]
              exact hK.out _ _ (Below.refl _ _) rfl
            · intro A wx hR hout hdep K hK
              have h86 : A.tmps[86]?.getD undef = (.int .u32 ((X : Int) / 2 ^ k)) := hdep 86 (by kernel_rfl)
              have h83 : A.tmps[83]?.getD undef = (.bool true) := hdep 83 (by kernel_rfl)
              refine if_yes ((wanted_is (j := 8) (b := true) (by kernel_rfl) (by kernel_rfl) h83).trans rfl) ?_
              simp [go_sem, h86, hkl, hkh, hm, hk0, hp1, hp2, hc1, hc2]
              exact hK.out _ _ (Below.refl _ _) rfl
            · intro A wx hR hout hdep K hK
              have h1 : A.tmps[1]?.getD undef = (.int .u32 (t : Int)) := hout 1 (by kernel_rfl)
              have h83 : A.tmps[83]?.getD undef = (.bool true) := hdep 83 (by kernel_rfl)
              refine if_yes ((wanted_is (j := 8) (b := true) (by kernel_rfl) (by kernel_rfl) h83).trans rfl) ?_
              simp [go_sem, h1, hkl, hkh, hm, hk0, hp1, hp2, hc1, hc2]
              exact hK.out _ _ (Below.refl _ _) rfl
            · intro A wx hR hout hdep K hK
              have h17 : A.tmps[17]?.getD undef = (.int .i64 (k : Int)) := hout 17 (by kernel_rfl)
              have h83 : A.tmps[83]?.getD undef = (.bool true) := hdep 83 (by kernel_rfl)
              refine if_yes ((wanted_is (j := 8) (b := true) (by kernel_rfl) (by kernel_rfl) h83).trans rfl) ?_
              simp [go_sem, h17, hkl, hkh, hm, hk0, hp1, hp2, hc1, hc2]
              exact hK.out _ _ (Below.refl _ _) rfl
            · intro A wx hR hout hdep K hK
              have h88 : A.tmps[88]?.getD undef = (.int .u32 (t : Int)) := hdep 88 (by kernel_rfl)
              have h89 : A.tmps[89]?.getD undef = (.int .i64 (k : Int)) := hdep 89 (by kernel_rfl)
              have h83 : A.tmps[83]?.getD undef = (.bool true) := hdep 83 (by kernel_rfl)
              refine if_yes ((wanted_is (j := 8) (b := true) (by kernel_rfl) (by kernel_rfl) h83).trans rfl) ?_
              simp [go_sem, h88, h89, hkl, hkh, hm, hk0, hp1, hp2, hc1, hc2]
              exact hK.out _ _ (Below.refl _ _) rfl
            · intro A wx hR hout hdep K hK
              have h90 : A.tmps[90]?.getD undef = (.int .u32 ((t : Int) / 2 ^ k)) := hdep 90 (by kernel_rfl)
              have h83 : A.tmps[83]?.getD undef = (.bool true) := hdep 83 (by kernel_rfl)
              refine if_yes ((wanted_is (j := 8) (b := true) (by kernel_rfl) (by kernel_rfl) h83).trans rfl) ?_
              simp [go_sem, h90, hkl, hkh, hm, hk0, hp1, hp2, hc1, hc2]
              exact hK.out _ _ (Below.refl _ _) rfl
            · intro A wx hR hout hdep K hK
              have h87 : A.tmps[87]?.getD undef = (.int .u32 (p : Int)) := hdep 87 (by kernel_rfl)
              have h91 : A.tmps[91]?.getD undef = (.int .u32 (p : Int)) := hdep 91 (by kernel_rfl)
              have h83 : A.tmps[83]?.getD undef = (.bool true) := hdep 83 (by kernel_rfl)
              refine if_yes ((wanted_is (j := 8) (b := true) (by kernel_rfl) (by kernel_rfl) h83).trans rfl) ?_
              simp [go_sem, h87, h91, hkl, hkh, hm, hk0, hp1, hp2, hc1, hc2]
              exact hK.out _ _ (Below.refl _ _) rfl
            · intro A wx hR hout hdep K hK
              have h83 : A.tmps[83]?.getD undef = (.bool true) := hdep 83 (by kernel_rfl)
              have h92 : A.tmps[92]?.getD undef = (.bool false) := hdep 92 (by kernel_rfl)
              refine if_yes (by kernel_rfl) ?_
              simp [go_sem, h83, h92, hkl, hkh, hm, hk0, hp1, hp2, hc1, hc2]
              exact hK.out _ _ (Below.refl _ _) rfl
            simp only [putSl, Act.put, List.setIfInBounds_toArray, List.set_cons_zero, List.set_cons_succ, show f 93 = .bool false from hf 93 (by kernel_rfl)]
            have HBF : Hid (Below w.heap.size w wy) := below_tr HBr.out hR
            go_wp2
            go_roundw
            case rel => exact ⟨k + 1, by omega, by go_num, HBF.out⟩
            case measure => simp [intOf]; omega
          · have hkl : ¬ (k : Int) < (l : Int) := by omega
            have hkh : ¬ (h : Int) < (k : Int) := by omega
            go_wp2
            refine wp_region_slots (R := Ext) [⟨75, fun v _ => v = (.int .i64 (k : Int)), fun _ _ _ _ h => h⟩, ⟨76, fun v _ => v = (.int .i64 (l : Int)), fun _ _ _ _ h => h⟩, ⟨77, fun v _ => v = (.bool false), fun _ _ _ _ h => h⟩, ⟨78, fun v _ => v = (.bool false), fun _ _ _ _ h => h⟩, ⟨79, fun v _ => v = (.int .i64 (k : Int)), fun _ _ _ _ h => h⟩, ⟨80, fun v _ => v = (.int .i64 (h : Int)), fun _ _ _ _ h => h⟩, ⟨81, fun v _ => v = (.bool false), fun _ _ _ _ h => h⟩, ⟨82, fun v _ => v = (.bool false), fun _ _ _ _ h => h⟩, ⟨83, fun v _ => v = (.bool false), fun _ _ _ _ h => h⟩, ⟨93, fun v _ => v = (.bool false), fun _ _ _ _ h => h⟩] _ (by kernel_rfl) rfl (by kernel_rfl) (Below.drew (Below.refl _ _)) (fun _ _ _ h1 h2 => below_tr h1 h2) (fun QQ => ⟨?_, ?_, ?_, ?_, ?_, ?_, ?_, ?_, ?_, ?_, ?_, ?_, ?_, ?_, ?_, ?_, ?_, ?_, ?_, trivial⟩) (fun f wy hR hf => ?_)
            · intro A wx hR hout hdep K hK
              have h17 : A.tmps[17]?.getD undef = (.int .i64 (k : Int)) := hout 17 (by kernel_rfl)
              refine if_yes (by kernel_rfl) ?_
              simp [go_sem, h17, hkl, hkh, hc1, hc2]
              exact hK.out _ _ (Below.refl _ _) rfl
            · intro A wx hR hout hdep K hK
              have h9 : A.tmps[9]?.getD undef = (.int .i64 (l : Int)) := hout 9 (by kernel_rfl)
              refine if_yes (by kernel_rfl) ?_
              simp [go_sem, h9, hkl, hkh, hc1, hc2]
              exact hK.out _ _ (Below.refl _ _) rfl
            · intro A wx hR hout hdep K hK
              have h75 : A.tmps[75]?.getD undef = (.int .i64 (k : Int)) := hdep 75 (by kernel_rfl)
              have h76 : A.tmps[76]?.getD undef = (.int .i64 (l : Int)) := hdep 76 (by kernel_rfl)
              refine if_yes (by kernel_rfl) ?_
              simp [go_sem, h75, h76, hkl, hkh, hc1, hc2]
              exact hK.out _ _ (Below.refl _ _) rfl
            · intro A wx hR hout hdep K hK
              have h77 : A.tmps[77]?.getD undef = (.bool false) := hdep 77 (by kernel_rfl)
              refine if_yes (by kernel_rfl) ?_
              simp [go_sem, h77, hkl, hkh, hc1, hc2]
              exact hK.out _ _ (Below.refl _ _) rfl
            · intro A wx hR hout hdep K hK
              have h17 : A.tmps[17]?.getD undef = (.int .i64 (k : Int)) := hout 17 (by kernel_rfl)
              have h78 : A.tmps[78]?.getD undef = (.bool false) := hdep 78 (by kernel_rfl)
              refine if_yes ((wanted_is (j := 3) (b := false) (by kernel_rfl) (by kernel_rfl) h78).trans rfl) ?_
              simp [go_sem, h17, hkl, hkh, hc1, hc2]
              exact hK.out _ _ (Below.refl _ _) rfl
            · intro A wx hR hout hdep K hK
              have h10 : A.tmps[10]?.getD undef = (.int .i64 (h : Int)) := hout 10 (by kernel_rfl)
              have h78 : A.tmps[78]?.getD undef = (.bool false) := hdep 78 (by kernel_rfl)
              refine if_yes ((wanted_is (j := 3) (b := false) (by kernel_rfl) (by kernel_rfl) h78).trans rfl) ?_
              simp [go_sem, h10, hkl, hkh, hc1, hc2]
              exact hK.out _ _ (Below.refl _ _) rfl
            · intro A wx hR hout hdep K hK
              have h79 : A.tmps[79]?.getD undef = (.int .i64 (k : Int)) := hdep 79 (by kernel_rfl)
              have h80 : A.tmps[80]?.getD undef = (.int .i64 (h : Int)) := hdep 80 (by kernel_rfl)
              have h78 : A.tmps[78]?.getD undef = (.bool false) := hdep 78 (by kernel_rfl)
              refine if_yes ((wanted_is (j := 3) (b := false) (by kernel_rfl) (by kernel_rfl) h78).trans rfl) ?_
              simp [go_sem, h79, h80, hkl, hkh, hc1, hc2]
              exact hK.out _ _ (Below.refl _ _) rfl
            · intro A wx hR hout hdep K hK
              have h78 : A.tmps[78]?.getD undef = (.bool false) := hdep 78 (by kernel_rfl)
              have h81 : A.tmps[81]?.getD undef = (.bool false) := hdep 81 (by kernel_rfl)
              refine if_yes (by kernel_rfl) ?_
              simp [go_sem, h78, h81, hkl, hkh, hc1, hc2]
              exact hK.out _ _ (Below.refl _ _) rfl
            · intro A wx hR hout hdep K hK
              have h82 : A.tmps[82]?.getD undef = (.bool false) := hdep 82 (by kernel_rfl)
              refine if_yes (by kernel_rfl) ?_
              simp [go_sem, h82, hkl, hkh, hc1, hc2]
              exact hK.out _ _ (Below.refl _ _) rfl
            · intro A wx hR hout hdep K hK
              have h11 : A.tmps[11]?.getD undef = (.int .u32 (X : Int)) := hout 11 (by kernel_rfl)
              have h83 : A.tmps[83]?.getD undef = (.bool false) := hdep 83 (by kernel_rfl)
              refine if_not (by rw [wanted_is (j := 8) (b := true) (by kernel_rfl) (by kernel_rfl) h83]; decide) ?_
              exact hK.out _ _ (Below.refl _ _) trivial
            · intro A wx hR hout hdep K hK
              have h17 : A.tmps[17]?.getD undef = (.int .i64 (k : Int)) := hout 17 (by kernel_rfl)
              have h83 : A.tmps[83]?.getD undef = (.bool false) := hdep 83 (by kernel_rfl)
              refine if_not (by rw [wanted_is (j := 8) (b := true) (by kernel_rfl) (by kernel_rfl) h83]; decide) ?_
              exact hK.out _ _ (Below.refl _ _) trivial
            · intro A wx hR hout hdep K hK
              have h83 : A.tmps[83]?.getD undef = (.bool false) := hdep 83 (by kernel_rfl)
              refine if_not (by rw [wanted_is (j := 8) (b := true) (by kernel_rfl) (by kernel_rfl) h83]; decide) ?_
              exact hK.out _ _ (Below.refl _ _) trivial
            · intro A wx hR hout hdep K hK
              have h83 : A.tmps[83]?.getD undef = (.bool false) := hdep 83 (by kernel_rfl)
              refine if_not (by rw [wanted_is (j := 8) (b := true) (by kernel_rfl) (by kernel_rfl) h83]; decide) ?_
              exact hK.out _ _ (Below.refl _ _) trivial
            · intro A wx hR hout hdep K hK
              have h1 : A.tmps[1]?.getD undef = (.int .u32 (t : Int)) := hout 1 (by kernel_rfl)
              have h83 : A.tmps[83]?.getD undef = (.bool false) := hdep 83 (by kernel_rfl)
              refine if_not (by rw [wanted_is (j := 8) (b := true) (by kernel_rfl) (by kernel_rfl) h83]; decide) ?_
              exact hK.out _ _ (Below.refl _ _) trivial
            · intro A wx hR hout hdep K hK
              have h17 : A.tmps[17]?.getD undef = (.int .i64 (k : Int)) := hout 17 (by kernel_rfl)
              have h83 : A.tmps[83]?.getD undef = (.bool false) := hdep 83 (by kernel_rfl)
              refine if_not (by rw [wanted_is (j := 8) (b := true) (by kernel_rfl) (by kernel_rfl) h83]; decide) ?_
              exact hK.out _ _ (Below.refl _ _) trivial
            · intro A wx hR hout hdep K hK
              have h83 : A.tmps[83]?.getD undef = (.bool false) := hdep 83 (by kernel_rfl)
              refine if_not (by rw [wanted_is (j := 8) (b := true) (by kernel_rfl) (by kernel_rfl) h83]; decide) ?_
              exact hK.out _ _ (Below.refl _ _) trivial
            · intro A wx hR hout hdep K hK
              have h83 : A.tmps[83]?.getD undef = (.bool false) := hdep 83 (by kernel_rfl)
              refine if_not (by rw [wanted_is (j := 8) (b := true) (by kernel_rfl) (by kernel_rfl) h83]; decide) ?_
              exact hK.out _ _ (Below.refl _ _) trivial
            · intro A wx hR hout hdep K hK
              have h83 : A.tmps[83]?.getD undef = (.bool false) := hdep 83 (by kernel_rfl)
              refine if_not (by rw [wanted_is (j := 8) (b := true) (by kernel_rfl) (by kernel_rfl) h83]; decide) ?_
              exact hK.out _ _ (Below.refl _ _) trivial
            · intro A wx hR hout hdep K hK
              have h83 : A.tmps[83]?.getD undef = (.bool false) := hdep 83 (by kernel_rfl)
              refine if_yes (by kernel_rfl) ?_
              simp [go_sem, h83, hkl, hkh, hc1, hc2]
              exact hK.out _ _ (Below.refl _ _) rfl
            simp only [putSl, Act.put, List.setIfInBounds_toArray, List.set_cons_zero, List.set_cons_succ, show f 93 = .bool false from hf 93 (by kernel_rfl)]
            have HBF : Hid (Below w.heap.size w wy) := below_tr HBr.out hR
            go_wp2
            go_roundw
            case rel => exact ⟨k + 1, by omega, by go_num, HBF.out⟩
            case measure => simp [intOf]; omega
      · have he : k = 32 := by omega
        subst he
        have KK := KA.out wr (HT.out _ HBr.out)
        go_wp2_with fail
        refine KK.mono ?_
        rintro e u4 ⟨rfl, b'⟩
        have HBE : Hid (Below w.heap.size w u4) := below_tr HBr.out b'
        clear b' KK
        go_wp2
        go_ret
        exact ⟨rfl, HBE.out⟩
theorem fields_walk (s t a b : Nat) (hs : s < 4294967296) (ht : t < 4294967296) (ha : a < 256) (hb : b < 256) (w : World) (hT : Tab w) :
    Calls Tryd.prog 5 #[.int .u32 (s : Int), .int .u32 (t : Int), .int .u8 (a : Int), .int .u8 (b : Int)] w fun e w' => e = .returned (.bool true) ∧ Below w.heap.size w w' := by
  by_cases hc : a % 32 ≤ b % 32
  · exact fields_in s t (a % 32) (b % 32) a b hs ht ha hb hc (by omega) (.inl ⟨rfl, rfl⟩) w hT
  · exact fields_in s t (b % 32) (a % 32) a b hs ht ha hb (by omega) (by omega) (.inr ⟨rfl, rfl, by omega⟩) w hT
end Go.Proofs.YtogokbefpgaciaaDoor
