/- What is proved here: a name's number, and how great a table is. -/
import Derived.Test.YtmkfgoacbehhcaaNs
import Derived.Test.YtmkfgoacbehhcaaNe
import Derived.WalkMore
import Derived.WalkKit
namespace Go.Proofs.Ytmkfgoacbehhcaa
open Go.RowKit
set_option linter.unusedVariables false
set_option linter.unusedSimpArgs false
set_option maxRecDepth 100000
attribute [local go_sem] Oper.semAt_some
theorem u8_nat (c : Nat) (h : c < 256) : (UInt8.ofNat c).toNat = c := by simp; omega
theorem and_u32 (a b : Nat) (ha : a < 4294967296) (hb : b < 4294967296) : bits BinOp.and IntKind.u32 (a : Int) (b : Int) = ((a &&& b : Nat) : Int) := by
  have h : a &&& b < 2 ^ 32 := Nat.and_lt_two_pow _ (by omega)
  show IntKind.u32.wrap (((BitVec.ofInt 32 (a : Int) &&& BitVec.ofInt 32 (b : Int)).toNat : Nat) : Int) = _
  rw [BitVec.toNat_and, BitVec.toNat_ofInt, BitVec.toNat_ofInt, IntKind.wrap_u32]
  have ea : ((a : Int) % ((2 ^ 32 : Nat) : Int)).toNat = a := by omega
  have eb : ((b : Int) % ((2 ^ 32 : Nat) : Int)).toNat = b := by omega
  rw [ea, eb]
  omega
theorem last28 (H c : Nat) (hH : H < 268435456) (hc : c < 256) : bits BinOp.and IntKind.u32 (bits BinOp.xor IntKind.u32 ((IntKind.u64.wrap (IntKind.u64.wrap (IntKind.u64.wrap (H : Int) * 16) + IntKind.u64.wrap (c : Int))) % 4294967296) ((IntKind.u64.wrap (IntKind.u64.wrap (IntKind.u64.wrap (H : Int) * 16) + IntKind.u64.wrap (c : Int))) % 4294967296 / 268435456 * 16)) 268435455 = (hstep H c : Int) := by
  have e : (IntKind.u64.wrap (IntKind.u64.wrap (IntKind.u64.wrap (H : Int) * 16) + IntKind.u64.wrap (c : Int))) % 4294967296 = (((16 * H + c) % 4294967296 : Nat) : Int) := by
    simp only [IntKind.wrap_u64]
    omega
  rw [e]
  obtain ⟨T, hT⟩ : ∃ T, T = (16 * H + c) % 4294967296 := ⟨_, rfl⟩
  have hTl : T < 4294967296 := by omega
  rw [← hT, show (T : Int) / 268435456 * 16 = ((T / 268435456 * 16 : Nat) : Int) by omega, xor_u32 T _ hTl (by omega)]
  have hx : T ^^^ (T / 268435456 * 16) < 4294967296 := Nat.xor_lt_two_pow (n := 32) hTl (by omega)
  have := and_u32 (T ^^^ (T / 268435456 * 16)) 268435455 hx (by decide)
  rw [show ((268435455 : Nat) : Int) = 268435455 from rfl] at this
  rw [this, show (268435455 : Nat) = 2 ^ 28 - 1 from rfl, Nat.and_two_pow_sub_one_eq_mod]
  unfold hstep
  rw [← hT]
set_option maxHeartbeats 4000000 in
theorem numbers_walk (l : L8) (c : Nat) (hc : c < 256) (gs : List Sy) (v : Value) (ws : Nat) (hws : ws < 256) (w : World) (hs : SlY w v gs) (hb : ∀ g ∈ gs, g.Bd) :
    Calls Try.prog 6 #[.string ⟨l.toArray⟩, .int .u8 (c : Int), v, .int .u8 (ws : Int)] w fun e w' => e = .returned (.bool true) ∧ Below w.heap.size w w' := by
  have KA : Hid (∀ w', Calls Try.prog 8 #[] w' fun e w'' => e = .returned (.bool true) ∧ Below w'.heap.size w' w'') := awake8
  obtain ⟨S, hS⟩ : ∃ S : ByteArray, S = ⟨l.toArray⟩ := ⟨_, rfl⟩
  have hSz : S.size = l.length := by rw [← bt_len, hS, bal]
  rw [← hS]
  obtain ⟨ao, cap, hve, h1v, h2v, h3v, h4v⟩ := id hs
  subst hve
  by_cases h1 : 1000 < l.length
  · have i1 : (1000 : Int) < (S.size : Int) := by omega
    have d1 := decide_eq_true i1
    clear hS hSz h1 hc hws hb h1v h2v h3v h4v hs
    go_enter Try.func6, Try.ntmps6
    go_wp2_with fail
    refine (KA.out w).mono ?_
    rintro e w1 ⟨rfl, hb1⟩
    go_wp2
    go_ret
    exact ⟨rfl, hb1⟩
  have i1 : ¬ (1000 : Int) < (S.size : Int) := by omega
  have d1 := decide_eq_false i1
  by_cases h2 : 60 < gs.length
  · have i2 : (60 : Int) < (gs.length : Int) := by omega
    have d2 := decide_eq_true i2
    clear hS hSz h1 hc hws hb h1v h2v h3v h4v hs h2
    go_enter Try.func6, Try.ntmps6
    go_wp2_with fail
    refine (KA.out w).mono ?_
    rintro e w1 ⟨rfl, hb1⟩
    go_wp2
    go_ret
    exact ⟨rfl, hb1⟩
  have i2 : ¬ (60 : Int) < (gs.length : Int) := by omega
  have d2 := decide_eq_false i2
  have K17 := rfit17 gs _ w hs
  cases hf : fitL gs with
  | false =>
    rw [hf] at K17
    clear hS hSz h1 hc hws hb h1v h2v h3v h4v hs h2 hf
    go_enter Try.func6, Try.ntmps6
    go_wp2_with fail
    refine K17.mono ?_
    rintro e w1 ⟨rfl, hb1⟩
    clear K17
    go_wp2_with fail
    refine (KA.out w1).mono ?_
    rintro e w2 ⟨rfl, hb2⟩
    go_wp2
    go_ret
    exact ⟨rfl, below_tr hb1 hb2⟩
  | true =>
    rw [hf] at K17
    have K14 : Hid (∀ w', Calls Try.prog 14 #[.string S] w' fun e w'' => e = .returned (.int .u32 (hashL l : Int)) ∧ w'' = w') := fun w' => by
      have := hash14 S (by omega) w'
      rw [hS, bal] at this
      rw [hS]
      exact this
    obtain ⟨H, hH⟩ : ∃ z, z = hashL l := ⟨_, rfl⟩
    rw [← hH] at K14
    have HS : Hid (SlY w (.slice ao gs.length cap) gs ∧ (∀ g ∈ gs, g.Bd) ∧ S = ⟨l.toArray⟩ ∧ S.size = l.length ∧ l.length ≤ 1000 ∧ gs.length ≤ 60 ∧ fitL gs = true ∧ H = hashL l ∧ c < 256 ∧ ws < 256) := ⟨hs, hb, hS, hSz, by omega, by omega, hf, hH, hc, hws⟩
    clear hs hb hS hSz h1 h2 hf h1v h2v h3v h4v hH hc hws
    go_enter Try.func6, Try.ntmps6
    go_wp2_with fail
    refine K17.mono ?_
    rintro e w1 ⟨rfl, hb1⟩
    clear K17
    go_wp2_with fail
    refine (K14.out w1).mono ?_
    rintro e w2 ⟨rfl, rfl⟩
    have HB : Hid (Below w.heap.size w w2) := hb1
    clear hb1
    obtain ⟨ws1, hw1⟩ : ∃ z, z = ws % 64 := ⟨_, rfl⟩
    have ew : (ws : Int) % 64 = (ws1 : Int) := by omega
    have ew' : (ws : Int).tmod 64 = (ws1 : Int) := by rw [Int.tmod_eq_emod_of_nonneg (by omega)]; exact ew
    clear hw1
    go_wp2_with fail
    generalize hX : (IntKind.u64.wrap (IntKind.u64.wrap (IntKind.u64.wrap (H : Int) * 16) + IntKind.u64.wrap (c : Int))) = X
    obtain ⟨Y, hY⟩ : ∃ Y, bits BinOp.and IntKind.u32 (bits BinOp.xor IntKind.u32 (X % 4294967296) (X % 4294967296 / 268435456 * 16)) 268435455 = Y := ⟨_, rfl⟩
    rw [hY]
    have HY : Hid (Y = (hstep H c : Int)) := by
      show _ = _
      obtain ⟨_, _, _, _, _, _, _, h8, h9, _⟩ := HS.out
      rw [← hY, ← hX]
      exact last28 H c (by rw [h8]; exact hashL_lt l) h9
    have HT : Hid (wrT gs ((ws1 : Int) + 1) = ⟨symsL gs, strsL gs, hashB gs (ws1 + 1)⟩) := by
      show _ = _
      have h := HS.out.2.2.2.2.2.2.1
      unfold wrT okW
      rw [h, if_pos (by simp; omega)]
      rfl
    obtain ⟨h1, h2, h3⟩ := HS.out
    have K18 := write18 gs _ ((ws1 : Int) + 1) w2 (h1.keep HB.out) h2 (by omega)
    rw [HT.out] at K18
    clear hX hY h1 h2 h3
    refine K18.mono ?_
    rintro e w3 ⟨rfl, hb3⟩
    clear K18
    obtain ⟨V4, W4, hV4, hW4, ⟨q0, q1, q2⟩, ⟨f0, f1, f2⟩, e4, hb4, hz4⟩ := new3 w3 ⟨symsL gs, strsL gs, hashB gs (ws1 + 1)⟩
    have H4 : Hid (Below w.heap.size w W4) := below_tr HB.out (below_tr hb3 hb4)
    obtain ⟨r0, r1, r2⟩ := e4.cells
    have a0 : ((⟨(symsL gs).toArray⟩ : ByteArray).size : Int) = 16 * ((gs.length : Int) + 1) := by rw [← bt_len, bal, syms_len]; omega
    have a2 : ((⟨(hashB gs (ws1 + 1)).toArray⟩ : ByteArray).size : Int) = 4 * (2 + ((ws1 : Int) + 1) + ((gs.length : Int) + 1)) := by rw [← bt_len, bal]; unfold hashB; rw [flat4_len, nums_len]; omega
    unfold Tb.val
    simp only
    simp only at r0 r1 r2 hW4
    generalize (⟨(symsL gs).toArray⟩ : ByteArray) = SS at a0 r0 hW4 ⊢
    generalize (⟨(strsL gs).toArray⟩ : ByteArray) = QS at r1 hW4 ⊢
    generalize (⟨(hashB gs (ws1 + 1)).toArray⟩ : ByteArray) = HH at a2 r2 hW4 ⊢
    have iH : (H : Int) < 268435456 := by have := hashL_lt l; rw [← HS.out.2.2.2.2.2.2.2.1] at this; omega
    have dH := decide_eq_true iH
    obtain ⟨W5, hW5⟩ : ∃ z, W4.alloc (.cells #[.int .u8 (c : Int)] 5) = z := ⟨_, rfl⟩
    have hb5 : Below W4.heap.size W4 W5 := by rw [← hW5]; exact (Below.refl _ _).alloc (Nat.le_refl _) _
    have hR : W.RowAt W5 W4.heap.size [.int .u8 (c : Int)] := by rw [← hW5]; exact World.alloc_heap_new W4 _
    have hcv : Hid ((convert 46 9 (.slice (some ⟨W4.heap.size, 0, none⟩) 1 1)).run Try.prog W5 = .ok (.string ⟨#[UInt8.ofNat c]⟩) W5) := by
      show _ = _
      have := W.conv_row W5 W4.heap.size 1 [UInt8.ofNat c] (by
        have hc := HS.out.2.2.2.2.2.2.2.2.1
        simp only [List.map_cons, List.map_nil, W.byteC]
        rw [show ((UInt8.ofNat c).toNat : Int) = (c : Int) from by rw [u8_nat c hc]]
        exact hR)
      exact this
    have H5 : Hid (Below w.heap.size w W5 ∧ hstep H c = hashL (l ++ [UInt8.ofNat c])) := ⟨below_tr H4.out hb5, by
      have hc := HS.out.2.2.2.2.2.2.2.2.1
      rw [hashL_snoc, ← HS.out.2.2.2.2.2.2.2.1]
      rw [u8_nat c hc]⟩
    have K14b : Hid (∀ w', Calls Try.prog 14 #[.string (S ++ ⟨#[UInt8.ofNat c]⟩)] w' fun e w'' => e = .returned (.int .u32 Y) ∧ w'' = w') := fun w' => by
      have hap : S ++ ⟨#[UInt8.ofNat c]⟩ = ⟨(l ++ [UInt8.ofNat c]).toArray⟩ := by rw [HS.out.2.2.1]; exact ba_app l [UInt8.ofNat c]
      have := hash14 (S ++ ⟨#[UInt8.ofNat c]⟩) (by rw [← bt_len, hap, bal, List.length_append]; have := HS.out.2.2.2.2.1; simp; omega) w'
      rw [hap, bal, ← H5.out.2, ← HY.out, ← hap] at this
      exact this
    have HCS : Hid (¬ 9223372036854775807 < S.size + (⟨#[UInt8.ofNat c]⟩ : ByteArray).size) := by
      have h1 := HS.out.2.2.2.1
      have h2 := HS.out.2.2.2.2.1
      have h3 : (⟨#[UInt8.ofNat c]⟩ : ByteArray).size = 1 := rfl
      show ¬ _
      rw [h3]
      omega
    generalize (⟨#[UInt8.ofNat c]⟩ : ByteArray) = CC at hcv K14b HCS
    have r0 := keep_cell hb5 r0
    have r1 := keep_cell hb5 r1
    have r2 := keep_cell hb5 r2
    clear e4 hb4 hz4 hb3 HB hb5 hR
    have hW5' : Hid (W4.alloc (.cells #[.int .u8 (c : Int)] 5) = W5) := hW5
    clear hW5
    go_wp2_with fail
    rw [hW5'.out]
    rw [hcv.out]
    clear hcv hW5' iH dH
    go_wp2_with fail
    case isFalse =>
      clear HCS
      refine (K14b.out W5).mono ?_
      rintro e w6 ⟨rfl, rfl⟩
      clear q0 q1 q2 f0 f1 f2 hV4 hW4 K14b K14
      go_wp2_with fail
      refine (KA.out w6).mono ?_
      rintro e w7 ⟨rfl, hb7⟩
      go_wp2
      go_ret
      exact ⟨rfl, below_tr H5.out.1 hb7⟩
end Go.Proofs.Ytmkfgoacbehhcaa
