/- What is proved here: the walk of AluBits. -/
import Derived.Test.YtogokbefpgaciaaDoorAl
namespace Go.Proofs.YtogokbefpgaciaaDoor
open Go.RowKit
set_option linter.unusedVariables false
set_option linter.unusedSimpArgs false
set_option maxRecDepth 100000
namespace Sw
theorem rot_rot (v k : Nat) (hv : v < 4294967296) (hk : k ≤ 32) : rotS (rotS v k) (32 - k) = v := by
  have h1 := div_lt_pow v k hv hk
  have h2 := Nat.mod_lt v (pow_pos2 k)
  have h3 := Nat.div_add_mod v (2 ^ k)
  have hp := pow_pos2 (32 - k)
  have e : 32 - (32 - k) = k := by omega
  unfold rotS
  rw [e, Nat.add_mul_div_right _ _ hp, Nat.add_mul_mod_self_right, Nat.div_eq_of_lt h1, Nat.mod_eq_of_lt h1, Nat.zero_add, Nat.mul_comm]
  omega
theorem rotI_rotI (v k : Nat) (hv : v < 4294967296) (hk : k ≤ 32) : rotI (rotI v (k : Int)) (32 - (k : Int)) = v := by
  have e32 : rotS v 32 = v := by
    have h := Nat.div_eq_of_lt hv
    have h2 := Nat.mod_eq_of_lt hv
    unfold rotS
    rw [show (2 : Nat) ^ 32 = 4294967296 from rfl, h, h2]; simp
  unfold rotI
  by_cases h0 : k = 0
  · subst h0
    show rotS (rotS v 0) 0 = v
    rw [rot_zero, rot_zero]
  · by_cases h1 : k = 32
    · subst h1
      show rotS (rotS v 0) 0 = v
      rw [rot_zero, rot_zero]
    · rw [show ((k : Int) % 32).toNat = k from by omega, show ((32 - (k : Int)) % 32).toNat = 32 - k from by omega]
      exact rot_rot v k hv hk
end Sw
theorem top_bit (v n : Nat) (k : Nat) (hk : k = 0 ∨ k = 1) : topB v k n = (v.testBit (31 - n) == (k == 1)) := by
  unfold topB
  rw [Nat.testBit_eq_decide_div_mod_eq]
  have h := Nat.mod_lt (v / 2 ^ (31 - n)) (show 0 < 2 by decide)
  generalize v / 2 ^ (31 - n) % 2 = z at h
  rcases hk with rfl | rfl
  · have : z = 0 ∨ z = 1 := by omega
    rcases this with rfl | rfl <;> rfl
  · have : z = 0 ∨ z = 1 := by omega
    rcases this with rfl | rfl <;> rfl
theorem top_not (s n : Nat) (hs : s < 4294967296) : topB (4294967295 - s) 1 n = topB s 0 n := by
  rw [top_bit _ _ 1 (.inr rfl), top_bit _ _ 0 (.inl rfl), show 4294967295 - s = 2 ^ 32 - (s + 1) from by omega, Nat.testBit_two_pow_sub_succ (show s < 2 ^ 32 from hs), decide_eq_true (show 31 - n < 32 by omega)]
  cases s.testBit (31 - n) <;> rfl
theorem lead_congr {v v' k k' : Nat} (h : ∀ n, topB v k n = topB v' k' n) : ∀ f n, leadF v k f n = leadF v' k' f n
  | 0, n => rfl
  | f + 1, n => by unfold leadF; rw [h n, lead_congr h f (n + 1)]
theorem lead_not (s : Nat) (hs : s < 4294967296) : leadN (4294967295 - s) 1 = leadN s 0 := lead_congr (fun n => top_not s n hs) 32 0
theorem lead_all {v k : Nat} : ∀ f n, leadF v k f n = n + f → ∀ j, j < f → topB v k (n + j) = true
  | 0, n, _, j, hj => absurd hj (Nat.not_lt_zero _)
  | f + 1, n, h, j, hj => by
    unfold leadF at h
    by_cases ht : topB v k n = true
    · rw [if_pos ht] at h
      by_cases e : j = 0
      · subst e; exact ht
      · have h' : leadF v k f (n + 1) = n + 1 + f := by omega
        have := lead_all f (n + 1) h' (j - 1) (by omega)
        rw [show n + 1 + (j - 1) = n + j from by omega] at this
        exact this
    · rw [if_neg ht] at h; omega
theorem lead_zero (s : Nat) (hs : s < 4294967296) : leadN s 0 = 32 ↔ s = 0 := by
  constructor
  · intro h
    have ha := lead_all (v := s) (k := 0) 32 0 (by simpa [leadN] using h)
    apply Nat.eq_of_testBit_eq
    intro i
    rw [Nat.zero_testBit]
    by_cases hi : i < 32
    · have := ha (31 - i) (by omega)
      rw [top_bit _ _ 0 (.inl rfl), show 31 - (0 + (31 - i)) = i from by omega] at this
      cases hb : s.testBit i
      · rfl
      · rw [hb] at this; exact absurd this (by decide)
    · exact Nat.testBit_lt_two_pow (Nat.lt_of_lt_of_le hs (Nat.pow_le_pow_right (show 2 > 0 by decide) (show 32 ≤ i by omega)))
  · intro h; subst h; decide +kernel
/-- The bytes of each half changed. -/
def wsN (v : Nat) : Nat := ((v &&& 16711935) * 256 % 4294967296) ||| (v / 256 &&& 16711935)
theorem ws_lt (v : Nat) : wsN v < 4294967296 := by
  have h2 : v / 256 &&& 16711935 ≤ 16711935 := Nat.and_le_right
  exact or_lt _ _ (by omega) (by omega)
def maskB (i : Nat) : Bool := decide (i < 8) || (decide (16 ≤ i) && decide (i < 24))
theorem mask_bit (i : Nat) : (16711935 : Nat).testBit i = maskB i := by
  by_cases h : i < 24
  · have : ∀ j, j < 24 → (16711935 : Nat).testBit j = maskB j := by decide
    exact this i h
  · rw [Nat.testBit_lt_two_pow (Nat.lt_of_lt_of_le (show (16711935 : Nat) < 2 ^ 24 by decide) (Nat.pow_le_pow_right (show 2 > 0 by decide) (show 24 ≤ i by omega)))]
    unfold maskB
    rw [decide_eq_false (show ¬ i < 8 by omega), decide_eq_false h]; simp
theorem ws_bit (v i : Nat) : (wsN v).testBit i = ((decide (i < 32) && (decide (8 ≤ i) && (maskB (i - 8) && v.testBit (i - 8)))) || (maskB i && v.testBit (i + 8))) := by
  unfold wsN
  rw [Nat.testBit_or, show (4294967296 : Nat) = 2 ^ 32 from rfl, Nat.testBit_mod_two_pow, show (256 : Nat) = 2 ^ 8 from rfl, Nat.testBit_mul_two_pow, Nat.testBit_and, mask_bit, Nat.testBit_and, mask_bit, Nat.testBit_div_two_pow, Bool.and_comm (v.testBit (i - 8)), Bool.and_comm (v.testBit (i + 8))]
theorem ws_ws (v : Nat) (hv : v < 4294967296) : wsN (wsN v) = v := by
  apply Nat.eq_of_testBit_eq
  intro i
  have hb : ∀ j, 32 ≤ j → v.testBit j = false := fun j hj => Nat.testBit_lt_two_pow (Nat.lt_of_lt_of_le hv (Nat.pow_le_pow_right (show 2 > 0 by decide) hj))
  rw [ws_bit, ws_bit, ws_bit]
  by_cases h : i < 32
  · have : i < 8 ∨ (8 ≤ i ∧ i < 16) ∨ (16 ≤ i ∧ i < 24) ∨ (24 ≤ i ∧ i < 32) := by omega
    unfold maskB
    rcases this with h1 | ⟨h1, h2⟩ | ⟨h1, h2⟩ | ⟨h1, h2⟩
    · simp [show i < 8 by omega, show i < 32 by omega, show ¬ 8 ≤ i by omega, show ¬ 16 ≤ i by omega, show i < 24 by omega, show ¬ i + 8 < 8 by omega, show i + 8 < 32 by omega, show ¬ 16 ≤ i + 8 by omega]
    · simp [h, h1, show ¬ i < 8 by omega, show ¬ 16 ≤ i by omega, show i - 8 < 8 by omega, show i < 24 by omega, show ¬ 8 ≤ i - 8 by omega, show i - 8 + 8 = i by omega, show i - 8 < 32 by omega]
    · simp [h, show 8 ≤ i by omega, show ¬ i < 8 by omega, show 16 ≤ i by omega, show ¬ i - 8 < 8 by omega, show i < 24 by omega, show i + 8 < 32 by omega, show ¬ 16 ≤ i - 8 by omega, show ¬ i + 8 < 24 by omega, show 8 ≤ i + 8 by omega]
      try (intro h9; omega)
    · simp [h, show 8 ≤ i by omega, show ¬ i < 8 by omega, show 16 ≤ i by omega, show ¬ i - 8 < 8 by omega, show ¬ i < 24 by omega, show 16 ≤ i - 8 by omega, show i - 8 < 24 by omega, show i - 8 + 8 = i by omega, show i - 8 < 32 by omega, show ¬ i - 8 - 8 < 8 by omega, show ¬ 16 ≤ i - 8 - 8 by omega]
  · rw [hb i (by omega), hb (i + 8 + 8) (by omega), decide_eq_false h, decide_eq_false (show ¬ i + 8 < 32 by omega)]
    simp
theorem rotI_at (v k : Nat) (hk : k < 32) : Sw.rotI v (k : Int) = Sw.rotS v k := by
  have e : ((k : Int) % 32).toNat = k := by omega
  unfold Sw.rotI
  rw [e]
theorem rot_back (s k k' : Nat) (hs : s < 4294967296) (hk : k < 32) (hk' : k' = (32 - k) % 32) : Sw.rotI (Sw.rotI s (k : Int)) (k' : Int) = s := by
  rw [rotI_at s k hk, rotI_at _ k' (by omega)]
  by_cases h0 : k = 0
  · subst h0
    have : k' = 0 := by omega
    subst this
    rw [Sw.rot_zero, Sw.rot_zero]
  · have : k' = 32 - k := by omega
    subst this
    exact Sw.rot_rot s k hs (by omega)
theorem sh_at {k : Nat} (hk : k < 32) : isIns ⟨⟨#[115, 108, 108]⟩, 0, 0, 0, (k : Int), 0⟩ = true ∧ isIns ⟨⟨#[115, 114, 108]⟩, 0, 0, 0, (k : Int), 0⟩ = true ∧ isIns ⟨⟨#[114, 111, 116, 114]⟩, 0, 0, 0, (k : Int), 0⟩ = true := by
  have h := List.all_eq_true.1 sh_ok k (List.mem_range.2 hk)
  simp only [Bool.and_eq_true] at h
  exact ⟨h.1, h.2.1, h.2.2.1⟩
set_option maxHeartbeats 2000000 in
theorem bits_walk (s n : Nat) (hs : s < 4294967296) (hn : n < 256) (w : World) (hT : Tab w) : Calls Tryd.prog 7 #[.int .u32 (s : Int), .int .u8 (n : Int)] w fun e w' => e = .returned (.bool true) ∧ Below w.heap.size w w' := by
  have hk0 : (n : Int).tmod 32 = ((n % 32 : Nat) : Int) := by rw [Int.tmod_eq_emod_of_nonneg (by omega)]; omega
  have hk1 : n % 32 < 32 := by omega
  generalize n % 32 = k at hk0 hk1
  have hkw : wrap64 (k : Int) = (k : Int) := by unfold wrap64; omega
  obtain ⟨N, hN⟩ : ∃ N, N = 4294967295 - s := ⟨_, rfl⟩
  have lN : N < 4294967296 := by omega
  have hnot : bits .xor .u32 IntKind.u32.max (s : Int) = (N : Int) := by rw [not_u32 s hs, hN]
  obtain ⟨A, hA⟩ : ∃ A, A = leadN s 0 := ⟨_, rfl⟩
  obtain ⟨C, hC⟩ : ∃ C, C = s * 2 ^ k % 4294967296 := ⟨_, rfl⟩
  have lC : C < 4294967296 := by omega
  obtain ⟨D, hD⟩ : ∃ D, D = C / 2 ^ k := ⟨_, rfl⟩
  obtain ⟨E, hE⟩ : ∃ E, E = wsN s := ⟨_, rfl⟩
  have lE : E < 4294967296 := by rw [hE]; exact ws_lt s
  obtain ⟨G, hG⟩ : ∃ G, G = Sw.rotI s (k : Int) := ⟨_, rfl⟩
  have lG : G < 4294967296 := by
    rw [hG]; show Sw.rotS s _ < _
    exact Sw.rot_lt s _ hs (by omega)
  obtain ⟨k', hk'⟩ : ∃ k', k' = (32 - k) % 32 := ⟨_, rfl⟩
  have lk' : k' < 32 := by omega
  have hs2 : wrap64 (32 - (k : Int)) = 32 - (k : Int) := by unfold wrap64; omega
  have hkt : (32 - (k : Int)).tmod 32 = (k' : Int) := by rw [Int.tmod_eq_emod_of_nonneg (by omega)]; omega
  have hsw : wrap64 (k' : Int) = (k' : Int) := by unfold wrap64; omega
  have hback : Sw.rotI G (k' : Int) = s := by
    rw [hG]; exact rot_back s k k' hs hk1 hk'
  obtain ⟨i1, i2, i3⟩ := sh_at hk1
  obtain ⟨_, _, i4⟩ := sh_at lk'
  have K1 : Hid (∀ w, Tab w → Calls Tryd.prog 15 #[.string ⟨#[99, 108, 122]⟩, .int .u32 (s : Int), .int .u32 0] w fun e w' => e = .returned (.tuple #[.int .u32 (A : Int), .bool true]) ∧ Below w.heap.size w w') := fun w hT => by
    have K := of15 ⟨#[99, 108, 122]⟩ s 0 hs (by decide) w hT
    rw [of_clz, show workN 27 (tkOf (ofI ⟨#[99, 108, 122]⟩) s 0) = some A from by rw [hA]; rfl] at K
    exact K
  have K2 : Hid (∀ w, Tab w → Calls Tryd.prog 15 #[.string ⟨#[99, 108, 111]⟩, .int .u32 (N : Int), .int .u32 0] w fun e w' => e = .returned (.tuple #[.int .u32 (A : Int), .bool true]) ∧ Below w.heap.size w w') := fun w hT => by
    have K := of15 ⟨#[99, 108, 111]⟩ N 0 lN (by decide) w hT
    rw [of_clo, show workN 28 (tkOf (ofI ⟨#[99, 108, 111]⟩) N 0) = some A from by show some (leadN N 1) = _; rw [hN, lead_not s hs, hA]] at K
    exact K
  have K3 : Hid (∀ w, Tab w → Calls Tryd.prog 8 #[.agg #[.string ⟨#[115, 108, 108]⟩, .int .i64 0, .int .i64 0, .int .i64 0, .int .i64 (k : Int), .int .u32 0], .int .u32 0, .int .u32 (s : Int)] w fun e w' => e = .returned (.tuple #[.int .u32 (C : Int), .bool true]) ∧ Below w.heap.size w w') := fun w hT => by
    have K := do8 ⟨⟨#[115, 108, 108]⟩, 0, 0, 0, (k : Int), 0⟩ 0 s (by show 0 < 4294967296; decide) (by decide) hs w hT
    rw [doR_at (k := 18) _ _ i1 (show aIdx ⟨#[115, 108, 108]⟩ = some 18 by decide +kernel), show workN 18 (tkOf ⟨⟨#[115, 108, 108]⟩, 0, 0, 0, (k : Int), 0⟩ 0 s) = some C from by rw [hC]; rfl] at K
    exact K
  have K4 : Hid (∀ w, Tab w → Calls Tryd.prog 8 #[.agg #[.string ⟨#[115, 114, 108]⟩, .int .i64 0, .int .i64 0, .int .i64 0, .int .i64 (k : Int), .int .u32 0], .int .u32 0, .int .u32 (C : Int)] w fun e w' => e = .returned (.tuple #[.int .u32 (D : Int), .bool true]) ∧ Below w.heap.size w w') := fun w hT => by
    have K := do8 ⟨⟨#[115, 114, 108]⟩, 0, 0, 0, (k : Int), 0⟩ 0 C (by show 0 < 4294967296; decide) (by decide) lC w hT
    rw [doR_at (k := 19) _ _ i2 (show aIdx ⟨#[115, 114, 108]⟩ = some 19 by decide +kernel), show workN 19 (tkOf ⟨⟨#[115, 114, 108]⟩, 0, 0, 0, (k : Int), 0⟩ 0 C) = some D from by rw [hD]; rfl] at K
    exact K
  have K5 : Hid (∀ w, Tab w → Calls Tryd.prog 15 #[.string ⟨#[119, 115, 98, 104]⟩, .int .u32 0, .int .u32 (s : Int)] w fun e w' => e = .returned (.tuple #[.int .u32 (E : Int), .bool true]) ∧ Below w.heap.size w w') := fun w hT => by
    have K := of15 ⟨#[119, 115, 98, 104]⟩ 0 s (by decide) hs w hT
    rw [of_wsbh, show workN 31 (tkOf (ofI ⟨#[119, 115, 98, 104]⟩) 0 s) = some E from by rw [hE]; rfl] at K
    exact K
  have K6 : Hid (∀ w, Tab w → Calls Tryd.prog 15 #[.string ⟨#[119, 115, 98, 104]⟩, .int .u32 0, .int .u32 (E : Int)] w fun e w' => e = .returned (.tuple #[.int .u32 (s : Int), .bool true]) ∧ Below w.heap.size w w') := fun w hT => by
    have K := of15 ⟨#[119, 115, 98, 104]⟩ 0 E (by decide) lE w hT
    rw [of_wsbh, show workN 31 (tkOf (ofI ⟨#[119, 115, 98, 104]⟩) 0 E) = some s from by show some (wsN E) = _; rw [hE, ws_ws s hs]] at K
    exact K
  have K7 : Hid (∀ w, Tab w → Calls Tryd.prog 8 #[.agg #[.string ⟨#[114, 111, 116, 114]⟩, .int .i64 0, .int .i64 0, .int .i64 0, .int .i64 (k : Int), .int .u32 0], .int .u32 0, .int .u32 (s : Int)] w fun e w' => e = .returned (.tuple #[.int .u32 (G : Int), .bool true]) ∧ Below w.heap.size w w') := fun w hT => by
    have K := do8 ⟨⟨#[114, 111, 116, 114]⟩, 0, 0, 0, (k : Int), 0⟩ 0 s (by show 0 < 4294967296; decide) (by decide) hs w hT
    rw [doR_at (k := 24) _ _ i3 (show aIdx ⟨#[114, 111, 116, 114]⟩ = some 24 by decide +kernel), show workN 24 (tkOf ⟨⟨#[114, 111, 116, 114]⟩, 0, 0, 0, (k : Int), 0⟩ 0 s) = some G from by rw [hG]; rfl] at K
    exact K
  have K8 : Hid (∀ w, Tab w → Calls Tryd.prog 8 #[.agg #[.string ⟨#[114, 111, 116, 114]⟩, .int .i64 0, .int .i64 0, .int .i64 0, .int .i64 (k' : Int), .int .u32 0], .int .u32 0, .int .u32 (G : Int)] w fun e w' => e = .returned (.tuple #[.int .u32 (s : Int), .bool true]) ∧ Below w.heap.size w w') := fun w hT => by
    have K := do8 ⟨⟨#[114, 111, 116, 114]⟩, 0, 0, 0, (k' : Int), 0⟩ 0 G (by show 0 < 4294967296; decide) (by decide) lG w hT
    rw [doR_at (k := 24) _ _ i4 (show aIdx ⟨#[114, 111, 116, 114]⟩ = some 24 by decide +kernel), show workN 24 (tkOf ⟨⟨#[114, 111, 116, 114]⟩, 0, 0, 0, (k' : Int), 0⟩ 0 G) = some s from by show some (Sw.rotI G (k' : Int)) = _; rw [hback]] at K
    exact K
  have KA : Hid (∀ w, Tab w → Calls Tryd.prog 14 #[] w fun e w' => e = .returned (.bool true) ∧ Below w.heap.size w w') := fun w hT => awake14 w hT
  have HT : Hid (∀ w', Below w.heap.size w w' → Tab w') := fun w' h => hT.keep h
  have hCI : (s : Int) * 2 ^ k % 4294967296 = (C : Int) := by rw [hC]; simp
  have hDI : (C : Int) / 2 ^ k = (D : Int) := by rw [hD]; simp
  have h32 : ((A : Int) == 32) = ((s : Int) == 0) := by
    have h := lead_zero s hs
    rw [← hA] at h
    by_cases e : s = 0
    · have : A = 32 := h.2 e
      rw [this, e]; rfl
    · have h2 : ¬ A = 32 := fun x => e (h.1 x)
      rw [beq_eq_false_iff_ne.2 (show ¬ (A : Int) = 32 by omega), beq_eq_false_iff_ne.2 (show ¬ (s : Int) = 0 by omega)]
  have hm : min k 64 = k := by omega
  clear hN lN hA hC lC hD hE lE hG lG hk' lk' hback i1 i2 i3 i4 hs hn
  cases hz : ((s : Int) == 0) with
  | false =>
    rw [hz] at h32
    go_enter Tryd.func7, Tryd.ntmps7
    go_wp2_with fail
    refine (K1.out _ hT).mono ?_
    rintro e u1 ⟨rfl, b1⟩
    go_wp2_with fail
    refine (K2.out _ (HT.out _ b1)).mono ?_
    rintro e u2 ⟨rfl, b'⟩
    have b2 := below_tr b1 b'
    clear b'
    go_wp2_with fail
    refine (K3.out _ (HT.out _ b2)).mono ?_
    rintro e u3 ⟨rfl, b'⟩
    have b3 := below_tr b2 b'
    clear b'
    go_wp2_with fail
    refine (K4.out _ (HT.out _ b3)).mono ?_
    rintro e u4 ⟨rfl, b'⟩
    have b4 := below_tr b3 b'
    clear b'
    go_wp2_with fail
    refine (K5.out _ (HT.out _ b4)).mono ?_
    rintro e u5 ⟨rfl, b'⟩
    have b5 := below_tr b4 b'
    clear b'
    go_wp2_with fail
    refine (K6.out _ (HT.out _ b5)).mono ?_
    rintro e u6 ⟨rfl, b'⟩
    have b6 := below_tr b5 b'
    clear b'
    go_wp2_with fail
    refine (K7.out _ (HT.out _ b6)).mono ?_
    rintro e u7 ⟨rfl, b'⟩
    have b7 := below_tr b6 b'
    clear b'
    go_wp2_with fail
    refine (K8.out _ (HT.out _ b7)).mono ?_
    rintro e u8 ⟨rfl, b'⟩
    have b8 := below_tr b7 b'
    clear b'
    go_wp2_with fail
    refine (KA.out _ (HT.out _ b8)).mono ?_
    rintro e u9 ⟨rfl, b'⟩
    have b9 := below_tr b8 b'
    clear b'
    have HBE : Hid (Below w.heap.size w u9) := b9
    clear b1 b2 b3 b4 b5 b6 b7 b8 b9
    go_wp2
    go_ret
    exact ⟨rfl, HBE.out⟩
  | true =>
    rw [hz] at h32
    go_enter Tryd.func7, Tryd.ntmps7
    go_wp2_with fail
    refine (K1.out _ hT).mono ?_
    rintro e u1 ⟨rfl, b1⟩
    go_wp2_with fail
    refine (K2.out _ (HT.out _ b1)).mono ?_
    rintro e u2 ⟨rfl, b'⟩
    have b2 := below_tr b1 b'
    clear b'
    go_wp2_with fail
    refine (K3.out _ (HT.out _ b2)).mono ?_
    rintro e u3 ⟨rfl, b'⟩
    have b3 := below_tr b2 b'
    clear b'
    go_wp2_with fail
    refine (K4.out _ (HT.out _ b3)).mono ?_
    rintro e u4 ⟨rfl, b'⟩
    have b4 := below_tr b3 b'
    clear b'
    go_wp2_with fail
    refine (K5.out _ (HT.out _ b4)).mono ?_
    rintro e u5 ⟨rfl, b'⟩
    have b5 := below_tr b4 b'
    clear b'
    go_wp2_with fail
    refine (K6.out _ (HT.out _ b5)).mono ?_
    rintro e u6 ⟨rfl, b'⟩
    have b6 := below_tr b5 b'
    clear b'
    go_wp2_with fail
    refine (K7.out _ (HT.out _ b6)).mono ?_
    rintro e u7 ⟨rfl, b'⟩
    have b7 := below_tr b6 b'
    clear b'
    go_wp2_with fail
    refine (K8.out _ (HT.out _ b7)).mono ?_
    rintro e u8 ⟨rfl, b'⟩
    have b8 := below_tr b7 b'
    clear b'
    go_wp2_with fail
    refine (KA.out _ (HT.out _ b8)).mono ?_
    rintro e u9 ⟨rfl, b'⟩
    have b9 := below_tr b8 b'
    clear b'
    have HBE : Hid (Below w.heap.size w u9) := b9
    clear b1 b2 b3 b4 b5 b6 b7 b8 b9
    go_wp2
    go_ret
    exact ⟨rfl, HBE.out⟩
end Go.Proofs.YtogokbefpgaciaaDoor
