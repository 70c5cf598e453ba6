/- What is proved here: the document's numerals. -/
import Derived.Test.YtglkkeelocdanaaGreatDoorNj
import Derived.Laws.IdiomStrings
import Derived.Test.YtglkkeelocdanaaGreatDoorEach
namespace Go.Proofs.YtglkkeelocdanaaGreatDoor
open Go.RowKit
set_option linter.unusedVariables false
set_option linter.unusedSimpArgs false
set_option maxRecDepth 100000
theorem dec_step (n : Nat) (h : 10 ≤ n) : Lib.decDigits n = Lib.decDigits (n / 10) ++ [UInt8.ofNat (48 + n % 10)] := by
  conv => lhs; rw [Lib.decDigits]
  rw [dif_neg (by omega)]
theorem dec_one (n : Nat) (h : n < 10) : Lib.decDigits n = [UInt8.ofNat (48 + n)] := by
  rw [Lib.decDigits, dif_pos h]
theorem one55 (w : World) (c : Nat) (hc : c < 256) : (convert 55 9 (.slice (some ⟨w.heap.size, 0, none⟩) 1 1)).run Tryz.prog (w.alloc (.cells #[.int .u8 (c : Int)] 5)) = .ok (.string ⟨#[UInt8.ofNat c]⟩) (w.alloc (.cells #[.int .u8 (c : Int)] 5)) := by
  have h := run_convert_bytes_back (P := Tryz.prog) (w.alloc (.cells #[.int .u8 (c : Int)] 5)) 55 9 5 ⟨w.heap.size, 0, none⟩ 1 [UInt8.ofNat c] Tryz.underlying55 Tryz.underlying5 Tryz.underlying9 (by
    intro j hj
    have hj' : j = 0 := by simpa using hj
    subst hj'
    have ha : (Addr.add ⟨w.heap.size, 0, none⟩ 0) = ⟨w.heap.size, 0, none⟩ := by unfold Addr.add; split <;> simp_all
    rw [ha]
    have := (Boxed.new w 5 (.int .u8 (c : Int))).cell
    rw [this]
    simp
    omega)
  exact h
set_option maxHeartbeats 1000000 in
theorem digits59_n (n : Nat) (hn : n ≤ 4294967296) (w : World) : Calls Tryz.prog 59 #[.int .i64 (n : Int)] w fun e w' => e = .returned (.string ⟨(Lib.decDigits n).toArray⟩) ∧ Below w.heap.size w w' := by
  obtain ⟨DS, hDS⟩ : ∃ z, z = Lib.decDigits n := ⟨_, rfl⟩
  have hlen := dec_len n
  rw [← hDS] at hlen ⊢
  have HD : Hid (DS = Lib.decDigits n ∧ DS.length ≤ 4294967297) := ⟨hDS, by omega⟩
  clear hDS hlen
  go_enter Tryz.func59, Tryz.ntmps59
  go_wp2
  go_loopw [0, 3] (fun x y wr => ∃ (k : Nat) (s : L8), x = .int .i64 (k : Int) ∧ y = .string ⟨s.toArray⟩ ∧ k ≤ n ∧ DS = Lib.decDigits k ++ s ∧ Below w.heap.size w wr) (fun x _ _ => (intOf x).toNat)
  case atStart => exact ⟨n, [], rfl, rfl, Nat.le_refl _, by rw [List.append_nil]; exact HD.out.1, Below.refl _ _⟩
  case round =>
    obtain ⟨k, s, rfl, rfl, hk, hds, hb⟩ := hrel
    have HB : Hid (Below w.heap.size w wr) := hb
    have hsl : s.length ≤ 4294967297 := by have := HD.out.2; rw [hds] at this; simp at this; omega
    clear hb
    by_cases hlt : 10 ≤ k
    · have hik : (10 : Int) ≤ (k : Int) := by omega
      obtain ⟨c, hc⟩ : ∃ c : Nat, c = 48 + k % 10 := ⟨_, rfl⟩
      have hc2 : c < 256 := by omega
      have HDS : Hid (DS = Lib.decDigits (k / 10) ++ (UInt8.ofNat c :: s)) := by show _ = _; rw [hds, dec_step k hlt, ← hc]; simp
      have hcc : (48 : Int) + (k : Int) % 10 = (c : Int) := by omega
      have hcv := one55 wr c hc2
      obtain ⟨S, hS⟩ : ∃ z : ByteArray, z = ⟨s.toArray⟩ := ⟨_, rfl⟩
      have hSs : S.size = s.length := by rw [hS]; show Array.size _ = _; simp
      have hif : (9223372036854775807 < 1 + S.size) = False := eq_false (by omega)
      have HS : Hid (⟨#[UInt8.ofNat c]⟩ ++ S = (⟨(UInt8.ofNat c :: s).toArray⟩ : ByteArray)) := by show _ = _; rw [hS]; exact ba_app [UInt8.ofNat c] s
      rw [← hS]
      have hb1 : Below w.heap.size w (wr.alloc (.cells #[.int .u8 (c : Int)] 5)) := HB.out.alloc HB.out.size _
      have HB1 : Hid (Below w.heap.size w (wr.alloc (.cells #[.int .u8 (c : Int)] 5))) := hb1
      obtain ⟨q, hq0⟩ : ∃ q : Nat, q = k / 10 := ⟨_, rfl⟩
      have hq : (k : Int) / 10 = (q : Int) := by omega
      have hkm : Hid (q ≤ n ∧ q < k) := ⟨by omega, by omega⟩
      rw [← hq0] at HDS
      clear hds hS hSs hb1 hc hsl hq0
      go_wp2
      go_roundw
      case rel => exact ⟨q, UInt8.ofNat c :: s, by first | rfl | simp, by rw [HS.out], hkm.out.1, HDS.out, HB1.out⟩
      case measure => have := hkm.out.2; simp [intOf]; omega
    · have hik : ¬ (10 : Int) ≤ (k : Int) := by omega
      obtain ⟨c, hc⟩ : ∃ c : Nat, c = 48 + k := ⟨_, rfl⟩
      have hc2 : c < 256 := by omega
      have HDS : Hid (DS = UInt8.ofNat c :: s) := by show _ = _; rw [hds, dec_one k (by omega), ← hc]; rfl
      have hcc : (48 : Int) + (k : Int) = (c : Int) := by omega
      have hcv := one55 wr c hc2
      obtain ⟨S, hS⟩ : ∃ z : ByteArray, z = ⟨s.toArray⟩ := ⟨_, rfl⟩
      have hSs : S.size = s.length := by rw [hS]; show Array.size _ = _; simp
      have hif : (9223372036854775807 < 1 + S.size) = False := eq_false (by omega)
      have HS : Hid (⟨#[UInt8.ofNat c]⟩ ++ S = (⟨(UInt8.ofNat c :: s).toArray⟩ : ByteArray)) := by show _ = _; rw [hS]; exact ba_app [UInt8.ofNat c] s
      rw [← hS]
      have HB1 : Hid (Below w.heap.size w (wr.alloc (.cells #[.int .u8 (c : Int)] 5))) := HB.out.alloc HB.out.size _
      clear hds hS hSs hc hsl
      go_wp2
      first | go_ret | skip
      refine ⟨?_, HB1.out⟩
      first | (rw [HDS.out, ← HS.out]; rfl) | (rw [HDS.out, ← HS.out])
theorem digits59 (v : Int) (h0 : -4294967296 ≤ v) (h1 : v ≤ 4294967296) (w : World) : Calls Tryz.prog 59 #[.int .i64 v] w fun e w' => e = .returned (.string ⟨(Lib.itoa v).toArray⟩) ∧ Below w.heap.size w w' := by
  by_cases hv : 0 ≤ v
  · obtain ⟨n, rfl⟩ := Int.eq_ofNat_of_zero_le hv
    have e : Lib.itoa (n : Int) = Lib.decDigits n := by unfold Lib.itoa; rw [if_neg (by omega)]; simp
    rw [e]
    exact digits59_n n (by omega) w
  · obtain ⟨n, rfl⟩ : ∃ n : Nat, v = -(n : Int) := ⟨v.natAbs, by omega⟩
    have hn1 : 1 ≤ n := by omega
    have e : Lib.itoa (-(n : Int)) = 45 :: Lib.decDigits n := by unfold Lib.itoa; rw [if_pos (by omega)]; simp
    rw [e]
    have K := digits59_n n (by omega) w
    have hl := dec_len n
    obtain ⟨S, hS⟩ : ∃ z : ByteArray, z = ⟨(Lib.decDigits n).toArray⟩ := ⟨_, rfl⟩
    have hSs : S.size = (Lib.decDigits n).length := by rw [hS]; show Array.size _ = _; simp
    have hif : (9223372036854775807 < 1 + S.size) = False := eq_false (by omega)
    have HS : Hid (⟨#[45]⟩ ++ S = (⟨(45 :: Lib.decDigits n).toArray⟩ : ByteArray)) := by show _ = _; rw [hS]; exact ba_app [45] _
    rw [← hS] at K
    rw [← HS.out]
    have hlt : -(n : Int) < 0 := by omega
    have hw : wrap64 (n : Int) = (n : Int) := by unfold wrap64; omega
    clear hS hSs hl hn1 h0 h1 hv e HS
    go_enter Tryz.func59, Tryz.ntmps59
    go_wp2_with fail
    refine K.mono ?_
    rintro e w2 ⟨rfl, hb2⟩
    go_wp2
    go_ret
    exact ⟨rfl, hb2⟩
theorem reg58 (v : Int) (h0 : 0 ≤ v) (h1 : v < 32) (w : World) : Calls Tryz.prog 58 #[.int .i64 v] w fun e w' => e = .returned (.string ⟨(36 :: Lib.itoa v).toArray⟩) ∧ Below w.heap.size w w' := by
  have K := digits59 v (by omega) (by omega) w
  have hl := itoa_len v
  obtain ⟨S, hS⟩ : ∃ z : ByteArray, z = ⟨(Lib.itoa v).toArray⟩ := ⟨_, rfl⟩
  have hSs : S.size = (Lib.itoa v).length := by rw [hS]; show Array.size _ = _; simp
  have hif : (9223372036854775807 < 1 + S.size) = False := eq_false (by omega)
  have HS : Hid (⟨#[36]⟩ ++ S = (⟨(36 :: Lib.itoa v).toArray⟩ : ByteArray)) := by show _ = _; rw [hS]; exact ba_app [36] _
  rw [← hS] at K
  rw [← HS.out]
  clear hS hSs hl h0 h1 HS
  go_enter Tryz.func58, Tryz.ntmps58
  go_wp2_with fail
  refine K.mono ?_
  rintro e w2 ⟨rfl, hb2⟩
  go_wp2
  go_ret
  exact ⟨rfl, hb2⟩
end Go.Proofs.YtglkkeelocdanaaGreatDoor
namespace Go.Proofs.YtglkkeelocdanaaGreatDoor
open Go.RowKit
set_option linter.unusedVariables false
set_option linter.unusedSimpArgs false
set_option maxRecDepth 100000
/-- Imm as the document writes it. -/
def immL (i : In) : L8 := if i.name.toList == [97, 110, 100, 105] || (i.name.toList == [111, 114, 105] || (i.name.toList == [120, 111, 114, 105] || i.name.toList == [108, 117, 105])) then Lib.itoa (i.imm : Int) else if 32768 ≤ i.imm then Lib.itoa ((i.imm : Int) - 65536) else Lib.itoa (i.imm : Int)
/-- What stands behind the name, as the document writes it. -/
def behL (i : In) (f : L8) : L8 :=
  if f = [100, 115, 116] then (((((36 :: Lib.itoa i.rd) ++ [44, 32]) ++ (36 :: Lib.itoa i.rs)) ++ [44, 32]) ++ (36 :: Lib.itoa i.rt)) else
  if f = [100, 116, 97] then (((((36 :: Lib.itoa i.rd) ++ [44, 32]) ++ (36 :: Lib.itoa i.rt)) ++ [44, 32]) ++ Lib.itoa i.sa) else
  if f = [100, 116, 114] then (((((36 :: Lib.itoa i.rd) ++ [44, 32]) ++ (36 :: Lib.itoa i.rt)) ++ [44, 32]) ++ Lib.itoa i.sa) else
  if f = [100, 116, 115] then (((((36 :: Lib.itoa i.rd) ++ [44, 32]) ++ (36 :: Lib.itoa i.rt)) ++ [44, 32]) ++ (36 :: Lib.itoa i.rs)) else
  if f = [100, 116, 118] then (((((36 :: Lib.itoa i.rd) ++ [44, 32]) ++ (36 :: Lib.itoa i.rt)) ++ [44, 32]) ++ (36 :: Lib.itoa i.rs)) else
  if f = [100, 115] then (((36 :: Lib.itoa i.rd) ++ [44, 32]) ++ (36 :: Lib.itoa i.rs)) else
  if f = [100, 115, 100] then (((36 :: Lib.itoa i.rd) ++ [44, 32]) ++ (36 :: Lib.itoa i.rs)) else
  if f = [100, 116] then (((36 :: Lib.itoa i.rd) ++ [44, 32]) ++ (36 :: Lib.itoa i.rt)) else
  if f = [116, 100] then (((36 :: Lib.itoa i.rt) ++ [44, 32]) ++ (36 :: Lib.itoa i.rd)) else
  if f = [100] then (36 :: Lib.itoa i.rd) else
  if f = [115] then (36 :: Lib.itoa i.rs) else
  if f = [115, 116] then (((36 :: Lib.itoa i.rs) ++ [44, 32]) ++ (36 :: Lib.itoa i.rt)) else
  if f = [99] then (if i.imm = 0 then [] else Lib.itoa (i.imm : Int)) else
  if f = [106] then Lib.itoa (i.imm : Int) else
  if f = [115, 111] then (((36 :: Lib.itoa i.rs) ++ [44, 32]) ++ immL i) else
  if f = [115, 116, 111] then (((((36 :: Lib.itoa i.rs) ++ [44, 32]) ++ (36 :: Lib.itoa i.rt)) ++ [44, 32]) ++ immL i) else
  if f = [116, 115, 105] then (((((36 :: Lib.itoa i.rt) ++ [44, 32]) ++ (36 :: Lib.itoa i.rs)) ++ [44, 32]) ++ immL i) else
  if f = [116, 105] then (((36 :: Lib.itoa i.rt) ++ [44, 32]) ++ immL i) else
  if f = [116, 109] then ((((((36 :: Lib.itoa i.rt) ++ [44, 32]) ++ immL i) ++ [40]) ++ (36 :: Lib.itoa i.rs)) ++ [41]) else
  (((((((36 :: Lib.itoa i.rt) ++ [44, 32]) ++ (36 :: Lib.itoa i.rs)) ++ [44, 32]) ++ Lib.itoa i.sa) ++ [44, 32]) ++ Lib.itoa i.rd)
theorem imm_len (i : In) (hb : i.imm < 67108864) : (immL i).length ≤ 70000000 := by
  unfold immL
  repeat' split
  all_goals first | (have := itoa_len (i.imm : Int); omega) | (have := itoa_len ((i.imm : Int) - 65536); omega)
set_option maxHeartbeats 1000000 in
theorem imm60 (i : In) (hbd : Bd i) (w : World) : Calls Tryz.prog 60 #[i.val] w fun e w' => e = .returned (.string ⟨(immL i).toArray⟩) ∧ Below w.heap.size w w' := by
  obtain ⟨W, hW, hb, hz, d0, d1, d2, d3, d4, d5⟩ := box6 w (.string i.name) (.int .i64 i.rs) (.int .i64 i.rt) (.int .i64 i.rd) (.int .i64 i.sa) (.int .u32 (i.imm : Int)) 24
  have b1 := hbd.rs; have b2 := hbd.rt; have b3 := hbd.rd; have b4 := hbd.sa; have b5 := hbd.imm
  have HB : Hid (Below w.heap.size w W) := hb
  clear hb hz
  unfold In.val
  clear hbd
  cases n0 : (i.name.toList == [97, 110, 100, 105]) with
  | true =>
    have e : immL i = Lib.itoa (i.imm : Int) := by unfold immL; simp only [n0, Bool.true_or, Bool.false_or, if_true]
    rw [e]
    clear e
    have K := digits59 (i.imm : Int) (by omega) (by omega) W
    generalize Lib.itoa (i.imm : Int) = R at K ⊢
    go_enter Tryz.func60, Tryz.ntmps60
    go_wp2_with fail
    refine K.mono ?_
    rintro e w2 ⟨rfl, hb2⟩
    go_wp2
    go_ret
    exact ⟨rfl, below_tr HB.out hb2⟩
  | false =>
    cases n1 : (i.name.toList == [111, 114, 105]) with
    | true =>
      have e : immL i = Lib.itoa (i.imm : Int) := by unfold immL; simp only [n0, n1, Bool.true_or, Bool.false_or, if_true]
      rw [e]
      clear e
      have K := digits59 (i.imm : Int) (by omega) (by omega) W
      generalize Lib.itoa (i.imm : Int) = R at K ⊢
      go_enter Tryz.func60, Tryz.ntmps60
      go_wp2_with fail
      refine K.mono ?_
      rintro e w2 ⟨rfl, hb2⟩
      go_wp2
      go_ret
      exact ⟨rfl, below_tr HB.out hb2⟩
    | false =>
      cases n2 : (i.name.toList == [120, 111, 114, 105]) with
      | true =>
        have e : immL i = Lib.itoa (i.imm : Int) := by unfold immL; simp only [n0, n1, n2, Bool.true_or, Bool.false_or, if_true]
        rw [e]
        clear e
        have K := digits59 (i.imm : Int) (by omega) (by omega) W
        generalize Lib.itoa (i.imm : Int) = R at K ⊢
        go_enter Tryz.func60, Tryz.ntmps60
        go_wp2_with fail
        refine K.mono ?_
        rintro e w2 ⟨rfl, hb2⟩
        go_wp2
        go_ret
        exact ⟨rfl, below_tr HB.out hb2⟩
      | false =>
        cases n3 : (i.name.toList == [108, 117, 105]) with
        | true =>
          have e : immL i = Lib.itoa (i.imm : Int) := by unfold immL; simp only [n0, n1, n2, n3, Bool.true_or, Bool.false_or, if_true]
          rw [e]
          clear e
          have K := digits59 (i.imm : Int) (by omega) (by omega) W
          generalize Lib.itoa (i.imm : Int) = R at K ⊢
          go_enter Tryz.func60, Tryz.ntmps60
          go_wp2_with fail
          refine K.mono ?_
          rintro e w2 ⟨rfl, hb2⟩
          go_wp2
          go_ret
          exact ⟨rfl, below_tr HB.out hb2⟩
        | false =>
          by_cases hm : 32768 ≤ i.imm
          · have e : immL i = Lib.itoa ((i.imm : Int) - 65536) := by unfold immL; simp only [n0, n1, n2, n3, Bool.false_or, Bool.false_eq_true, if_false]; rw [if_pos hm]
            rw [e]
            clear e
            have K := digits59 ((i.imm : Int) - 65536) (by omega) (by omega) W
            have hi : (32768 : Int) ≤ (i.imm : Int) := by omega
            generalize Lib.itoa ((i.imm : Int) - 65536) = R at K ⊢
            go_enter Tryz.func60, Tryz.ntmps60
            go_wp2_with fail
            refine K.mono ?_
            rintro e w2 ⟨rfl, hb2⟩
            go_wp2
            go_ret
            exact ⟨rfl, below_tr HB.out hb2⟩
          · have e : immL i = Lib.itoa (i.imm : Int) := by unfold immL; simp only [n0, n1, n2, n3, Bool.false_or, Bool.false_eq_true, if_false]; rw [if_neg hm]
            rw [e]
            clear e
            have K := digits59 (i.imm : Int) (by omega) (by omega) W
            have hi : ¬ (32768 : Int) ≤ (i.imm : Int) := by omega
            generalize Lib.itoa (i.imm : Int) = R at K ⊢
            go_enter Tryz.func60, Tryz.ntmps60
            go_wp2_with fail
            refine K.mono ?_
            rintro e w2 ⟨rfl, hb2⟩
            go_wp2
            go_ret
            exact ⟨rfl, below_tr HB.out hb2⟩
set_option maxHeartbeats 2000000 in
theorem beh_dst (i : In) (hbd : Bd i) (w : World) : Calls Tryz.prog 25 #[i.val, .string ⟨#[100, 115, 116]⟩] w fun e w' => e = .returned (.string ⟨((((((36 :: Lib.itoa i.rd) ++ [44, 32]) ++ (36 :: Lib.itoa i.rs)) ++ [44, 32]) ++ (36 :: Lib.itoa i.rt))).toArray⟩) ∧ Below w.heap.size w w' := by
  obtain ⟨W, hW, hb, hz, d0, d1, d2, d3, d4, d5⟩ := box6 w (.string i.name) (.int .i64 i.rs) (.int .i64 i.rt) (.int .i64 i.rd) (.int .i64 i.sa) (.int .u32 (i.imm : Int)) 24
  have b1 := hbd.rs; have b2 := hbd.rt; have b3 := hbd.rd; have b4 := hbd.sa; have b5 := hbd.imm
  have HB : Hid (Below w.heap.size w W) := hb
  clear hb hz
  unfold In.val
  obtain ⟨X10, e10⟩ : ∃ z : ByteArray, z = ⟨((36 :: Lib.itoa i.rd)).toArray⟩ := ⟨_, rfl⟩
  have K10 : Hid (∀ w', Calls Tryz.prog 58 #[.int .i64 i.rd] w' fun e w'' => e = .returned (.string X10) ∧ Below w'.heap.size w' w'') := fun w' => by rw [e10]; exact reg58 i.rd (by omega) (by omega) w'
  have s10 : X10.size ≤ 100 := by rw [e10]; show Array.size _ ≤ _; have := itoa_len i.rd; simp; omega
  obtain ⟨X11, e11⟩ : ∃ z : ByteArray, z = X10 ++ (⟨#[44, 32]⟩ : ByteArray) := ⟨_, rfl⟩
  have s11 : X11.size ≤ 102 := by rw [e11, ByteArray.size_append]; have : (⟨#[44, 32]⟩ : ByteArray).size = 2 := rfl; omega
  have a11 : ∀ wx, (Op.stringOp .add X10 (⟨#[44, 32]⟩ : ByteArray)).run Tryz.prog wx = .ok (.string X11) wx := fun wx => by rw [e11]; exact run_string_add_sum wx _ _ (by rw [← ByteArray.size_append, ← e11]; omega)
  obtain ⟨X14, e14⟩ : ∃ z : ByteArray, z = ⟨((36 :: Lib.itoa i.rs)).toArray⟩ := ⟨_, rfl⟩
  have K14 : Hid (∀ w', Calls Tryz.prog 58 #[.int .i64 i.rs] w' fun e w'' => e = .returned (.string X14) ∧ Below w'.heap.size w' w'') := fun w' => by rw [e14]; exact reg58 i.rs (by omega) (by omega) w'
  have s14 : X14.size ≤ 100 := by rw [e14]; show Array.size _ ≤ _; have := itoa_len i.rs; simp; omega
  obtain ⟨X15, e15⟩ : ∃ z : ByteArray, z = X11 ++ X14 := ⟨_, rfl⟩
  have s15 : X15.size ≤ 202 := by rw [e15, ByteArray.size_append]; omega
  have a15 : ∀ wx, (Op.stringOp .add X11 X14).run Tryz.prog wx = .ok (.string X15) wx := fun wx => by rw [e15]; exact run_string_add_sum wx _ _ (by rw [← ByteArray.size_append, ← e15]; omega)
  obtain ⟨X16, e16⟩ : ∃ z : ByteArray, z = X15 ++ (⟨#[44, 32]⟩ : ByteArray) := ⟨_, rfl⟩
  have s16 : X16.size ≤ 204 := by rw [e16, ByteArray.size_append]; have : (⟨#[44, 32]⟩ : ByteArray).size = 2 := rfl; omega
  have a16 : ∀ wx, (Op.stringOp .add X15 (⟨#[44, 32]⟩ : ByteArray)).run Tryz.prog wx = .ok (.string X16) wx := fun wx => by rw [e16]; exact run_string_add_sum wx _ _ (by rw [← ByteArray.size_append, ← e16]; omega)
  obtain ⟨X19, e19⟩ : ∃ z : ByteArray, z = ⟨((36 :: Lib.itoa i.rt)).toArray⟩ := ⟨_, rfl⟩
  have K19 : Hid (∀ w', Calls Tryz.prog 58 #[.int .i64 i.rt] w' fun e w'' => e = .returned (.string X19) ∧ Below w'.heap.size w' w'') := fun w' => by rw [e19]; exact reg58 i.rt (by omega) (by omega) w'
  have s19 : X19.size ≤ 100 := by rw [e19]; show Array.size _ ≤ _; have := itoa_len i.rt; simp; omega
  obtain ⟨X20, e20⟩ : ∃ z : ByteArray, z = X16 ++ X19 := ⟨_, rfl⟩
  have s20 : X20.size ≤ 304 := by rw [e20, ByteArray.size_append]; omega
  have a20 : ∀ wx, (Op.stringOp .add X16 X19).run Tryz.prog wx = .ok (.string X20) wx := fun wx => by rw [e20]; exact run_string_add_sum wx _ _ (by rw [← ByteArray.size_append, ← e20]; omega)
  have HE : Hid (X20 = ⟨((((((36 :: Lib.itoa i.rd) ++ [44, 32]) ++ (36 :: Lib.itoa i.rs)) ++ [44, 32]) ++ (36 :: Lib.itoa i.rt))).toArray⟩) := by show _ = _; rw [e20, e19, e16, e15, e14, e11, e10]; simp only [ba_app]
  rw [← HE.out]
  clear HE hbd e10 s10 e11 s11 e14 s14 e15 s15 e16 s16 e19 s19 e20 s20 b1 b2 b3 b4 b5
  go_enter Tryz.func25, Tryz.ntmps25
  go_wp2
  refine wp_region_slots (R := Ext) [⟨8, fun v _ => v = .pointer (some ⟨w.heap.size, 3, none⟩), fun _ _ _ _ h => h⟩, ⟨9, fun v _ => v = .int .i64 i.rd, fun _ _ _ _ h => h⟩, ⟨10, fun v _ => v = .string X10, fun _ _ _ _ h => h⟩, ⟨11, fun v _ => v = .string X11, fun _ _ _ _ h => h⟩, ⟨12, fun v _ => v = .pointer (some ⟨w.heap.size, 1, none⟩), fun _ _ _ _ h => h⟩, ⟨13, fun v _ => v = .int .i64 i.rs, fun _ _ _ _ h => h⟩, ⟨14, fun v _ => v = .string X14, fun _ _ _ _ h => h⟩, ⟨15, fun v _ => v = .string X15, fun _ _ _ _ h => h⟩, ⟨16, fun v _ => v = .string X16, fun _ _ _ _ h => h⟩, ⟨17, fun v _ => v = .pointer (some ⟨w.heap.size, 2, none⟩), fun _ _ _ _ h => h⟩, ⟨18, fun v _ => v = .int .i64 i.rt, fun _ _ _ _ h => h⟩, ⟨19, fun v _ => v = .string X19, fun _ _ _ _ h => h⟩, ⟨20, fun v _ => v = .string X20, fun _ _ _ _ h => h⟩, ⟨4, fun v _ => v = .string X20, fun _ _ _ _ h => h⟩] _ (by kernel_rfl) rfl (by kernel_rfl) (Below.drew (Below.refl _ _)) (fun _ _ _ h1 h2 => below_tr h1 h2) (fun QQ => ⟨?_, ?_, ?_, ?_, ?_, ?_, ?_, ?_, ?_, ?_, ?_, ?_, ?_, ?_, trivial⟩) (fun f wy hR hf => ?_)
  · intro A wx hR hout hdep K hK
    have h2 : A.tmps[2]?.getD undef = .pointer (some ⟨w.heap.size, 0, none⟩) := hout 2 (by kernel_rfl)
    refine if_yes (by kernel_rfl) ?_
    simp [go_sem, h2, a11, a15, a16, a20]
    exact hK.out _ _ (Below.refl _ _) rfl
  · intro A wx hR hout hdep K hK
    have h8 : A.tmps[8]?.getD undef = .pointer (some ⟨w.heap.size, 3, none⟩) := hdep 8 (by kernel_rfl)
    refine if_yes (by kernel_rfl) ?_
    have d0 := keep_cell hR d0
    have d1 := keep_cell hR d1
    have d2 := keep_cell hR d2
    have d3 := keep_cell hR d3
    have d4 := keep_cell hR d4
    have d5 := keep_cell hR d5
    simp [go_sem, h8, d0, d1, d2, d3, d4, d5, a11, a15, a16, a20]
    exact hK.out _ _ (Below.refl _ _) rfl
  · intro A wx hR hout hdep K hK
    have h9 : A.tmps[9]?.getD undef = .int .i64 i.rd := hdep 9 (by kernel_rfl)
    refine if_yes (by kernel_rfl) ?_
    simp [go_sem, h9, a11, a15, a16, a20]
    refine (K10.out wx).mono ?_
    rintro e wG ⟨rfl, hbG⟩
    exact hK.out _ _ hbG rfl
  · intro A wx hR hout hdep K hK
    have h10 : A.tmps[10]?.getD undef = .string X10 := hdep 10 (by kernel_rfl)
    refine if_yes (by kernel_rfl) ?_
    simp [go_sem, h10, a11, a15, a16, a20]
    exact hK.out _ _ (Below.refl _ _) rfl
  · intro A wx hR hout hdep K hK
    have h2 : A.tmps[2]?.getD undef = .pointer (some ⟨w.heap.size, 0, none⟩) := hout 2 (by kernel_rfl)
    refine if_yes (by kernel_rfl) ?_
    simp [go_sem, h2, a11, a15, a16, a20]
    exact hK.out _ _ (Below.refl _ _) rfl
  · intro A wx hR hout hdep K hK
    have h12 : A.tmps[12]?.getD undef = .pointer (some ⟨w.heap.size, 1, none⟩) := hdep 12 (by kernel_rfl)
    refine if_yes (by kernel_rfl) ?_
    have d0 := keep_cell hR d0
    have d1 := keep_cell hR d1
    have d2 := keep_cell hR d2
    have d3 := keep_cell hR d3
    have d4 := keep_cell hR d4
    have d5 := keep_cell hR d5
    simp [go_sem, h12, d0, d1, d2, d3, d4, d5, a11, a15, a16, a20]
    exact hK.out _ _ (Below.refl _ _) rfl
  · intro A wx hR hout hdep K hK
    have h13 : A.tmps[13]?.getD undef = .int .i64 i.rs := hdep 13 (by kernel_rfl)
    refine if_yes (by kernel_rfl) ?_
    simp [go_sem, h13, a11, a15, a16, a20]
    refine (K14.out wx).mono ?_
    rintro e wG ⟨rfl, hbG⟩
    exact hK.out _ _ hbG rfl
  · intro A wx hR hout hdep K hK
    have h11 : A.tmps[11]?.getD undef = .string X11 := hdep 11 (by kernel_rfl)
    have h14 : A.tmps[14]?.getD undef = .string X14 := hdep 14 (by kernel_rfl)
    refine if_yes (by kernel_rfl) ?_
    simp [go_sem, h11, h14, a11, a15, a16, a20]
    exact hK.out _ _ (Below.refl _ _) rfl
  · intro A wx hR hout hdep K hK
    have h15 : A.tmps[15]?.getD undef = .string X15 := hdep 15 (by kernel_rfl)
    refine if_yes (by kernel_rfl) ?_
    simp [go_sem, h15, a11, a15, a16, a20]
    exact hK.out _ _ (Below.refl _ _) rfl
  · intro A wx hR hout hdep K hK
    have h2 : A.tmps[2]?.getD undef = .pointer (some ⟨w.heap.size, 0, none⟩) := hout 2 (by kernel_rfl)
    refine if_yes (by kernel_rfl) ?_
    simp [go_sem, h2, a11, a15, a16, a20]
    exact hK.out _ _ (Below.refl _ _) rfl
  · intro A wx hR hout hdep K hK
    have h17 : A.tmps[17]?.getD undef = .pointer (some ⟨w.heap.size, 2, none⟩) := hdep 17 (by kernel_rfl)
    refine if_yes (by kernel_rfl) ?_
    have d0 := keep_cell hR d0
    have d1 := keep_cell hR d1
    have d2 := keep_cell hR d2
    have d3 := keep_cell hR d3
    have d4 := keep_cell hR d4
    have d5 := keep_cell hR d5
    simp [go_sem, h17, d0, d1, d2, d3, d4, d5, a11, a15, a16, a20]
    exact hK.out _ _ (Below.refl _ _) rfl
  · intro A wx hR hout hdep K hK
    have h18 : A.tmps[18]?.getD undef = .int .i64 i.rt := hdep 18 (by kernel_rfl)
    refine if_yes (by kernel_rfl) ?_
    simp [go_sem, h18, a11, a15, a16, a20]
    refine (K19.out wx).mono ?_
    rintro e wG ⟨rfl, hbG⟩
    exact hK.out _ _ hbG rfl
  · intro A wx hR hout hdep K hK
    have h16 : A.tmps[16]?.getD undef = .string X16 := hdep 16 (by kernel_rfl)
    have h19 : A.tmps[19]?.getD undef = .string X19 := hdep 19 (by kernel_rfl)
    refine if_yes (by kernel_rfl) ?_
    simp [go_sem, h16, h19, a11, a15, a16, a20]
    exact hK.out _ _ (Below.refl _ _) rfl
  · intro A wx hR hout hdep K hK
    have h20 : A.tmps[20]?.getD undef = .string X20 := hdep 20 (by kernel_rfl)
    refine if_yes (by kernel_rfl) ?_
    simp [go_sem, h20, a11, a15, a16, a20]
    exact hK.out _ _ (Below.refl _ _) rfl
  have hv : f 4 = .string X20 := hf 4 (by kernel_rfl)
  simp only [putSl, Act.put, List.setIfInBounds_toArray, List.set_cons_zero, List.set_cons_succ, hv]
  have HB2 : Hid (Below w.heap.size w wy) := below_tr HB.out hR
  clear hf hv hR
  go_wp2
  go_ret
  exact ⟨rfl, HB2.out⟩
set_option maxHeartbeats 2000000 in
theorem beh_dta (i : In) (hbd : Bd i) (w : World) : Calls Tryz.prog 25 #[i.val, .string ⟨#[100, 116, 97]⟩] w fun e w' => e = .returned (.string ⟨((((((36 :: Lib.itoa i.rd) ++ [44, 32]) ++ (36 :: Lib.itoa i.rt)) ++ [44, 32]) ++ Lib.itoa i.sa)).toArray⟩) ∧ Below w.heap.size w w' := by
  obtain ⟨W, hW, hb, hz, d0, d1, d2, d3, d4, d5⟩ := box6 w (.string i.name) (.int .i64 i.rs) (.int .i64 i.rt) (.int .i64 i.rd) (.int .i64 i.sa) (.int .u32 (i.imm : Int)) 24
  have b1 := hbd.rs; have b2 := hbd.rt; have b3 := hbd.rd; have b4 := hbd.sa; have b5 := hbd.imm
  have HB : Hid (Below w.heap.size w W) := hb
  clear hb hz
  unfold In.val
  obtain ⟨X26, e26⟩ : ∃ z : ByteArray, z = ⟨((36 :: Lib.itoa i.rd)).toArray⟩ := ⟨_, rfl⟩
  have K26 : Hid (∀ w', Calls Tryz.prog 58 #[.int .i64 i.rd] w' fun e w'' => e = .returned (.string X26) ∧ Below w'.heap.size w' w'') := fun w' => by rw [e26]; exact reg58 i.rd (by omega) (by omega) w'
  have s26 : X26.size ≤ 100 := by rw [e26]; show Array.size _ ≤ _; have := itoa_len i.rd; simp; omega
  obtain ⟨X27, e27⟩ : ∃ z : ByteArray, z = X26 ++ (⟨#[44, 32]⟩ : ByteArray) := ⟨_, rfl⟩
  have s27 : X27.size ≤ 102 := by rw [e27, ByteArray.size_append]; have : (⟨#[44, 32]⟩ : ByteArray).size = 2 := rfl; omega
  have a27 : ∀ wx, (Op.stringOp .add X26 (⟨#[44, 32]⟩ : ByteArray)).run Tryz.prog wx = .ok (.string X27) wx := fun wx => by rw [e27]; exact run_string_add_sum wx _ _ (by rw [← ByteArray.size_append, ← e27]; omega)
  obtain ⟨X30, e30⟩ : ∃ z : ByteArray, z = ⟨((36 :: Lib.itoa i.rt)).toArray⟩ := ⟨_, rfl⟩
  have K30 : Hid (∀ w', Calls Tryz.prog 58 #[.int .i64 i.rt] w' fun e w'' => e = .returned (.string X30) ∧ Below w'.heap.size w' w'') := fun w' => by rw [e30]; exact reg58 i.rt (by omega) (by omega) w'
  have s30 : X30.size ≤ 100 := by rw [e30]; show Array.size _ ≤ _; have := itoa_len i.rt; simp; omega
  obtain ⟨X31, e31⟩ : ∃ z : ByteArray, z = X27 ++ X30 := ⟨_, rfl⟩
  have s31 : X31.size ≤ 202 := by rw [e31, ByteArray.size_append]; omega
  have a31 : ∀ wx, (Op.stringOp .add X27 X30).run Tryz.prog wx = .ok (.string X31) wx := fun wx => by rw [e31]; exact run_string_add_sum wx _ _ (by rw [← ByteArray.size_append, ← e31]; omega)
  obtain ⟨X32, e32⟩ : ∃ z : ByteArray, z = X31 ++ (⟨#[44, 32]⟩ : ByteArray) := ⟨_, rfl⟩
  have s32 : X32.size ≤ 204 := by rw [e32, ByteArray.size_append]; have : (⟨#[44, 32]⟩ : ByteArray).size = 2 := rfl; omega
  have a32 : ∀ wx, (Op.stringOp .add X31 (⟨#[44, 32]⟩ : ByteArray)).run Tryz.prog wx = .ok (.string X32) wx := fun wx => by rw [e32]; exact run_string_add_sum wx _ _ (by rw [← ByteArray.size_append, ← e32]; omega)
  obtain ⟨X35, e35⟩ : ∃ z : ByteArray, z = ⟨(Lib.itoa i.sa).toArray⟩ := ⟨_, rfl⟩
  have K35 : Hid (∀ w', Calls Tryz.prog 59 #[.int .i64 i.sa] w' fun e w'' => e = .returned (.string X35) ∧ Below w'.heap.size w' w'') := fun w' => by rw [e35]; exact digits59 i.sa (by omega) (by omega) w'
  have s35 : X35.size ≤ 70000000 := by rw [e35]; show Array.size _ ≤ _; have := itoa_len i.sa; simp; omega
  obtain ⟨X36, e36⟩ : ∃ z : ByteArray, z = X32 ++ X35 := ⟨_, rfl⟩
  have s36 : X36.size ≤ 70000204 := by rw [e36, ByteArray.size_append]; omega
  have a36 : ∀ wx, (Op.stringOp .add X32 X35).run Tryz.prog wx = .ok (.string X36) wx := fun wx => by rw [e36]; exact run_string_add_sum wx _ _ (by rw [← ByteArray.size_append, ← e36]; omega)
  have HE : Hid (X36 = ⟨((((((36 :: Lib.itoa i.rd) ++ [44, 32]) ++ (36 :: Lib.itoa i.rt)) ++ [44, 32]) ++ Lib.itoa i.sa)).toArray⟩) := by show _ = _; rw [e36, e35, e32, e31, e30, e27, e26]; simp only [ba_app]
  rw [← HE.out]
  clear HE hbd e26 s26 e27 s27 e30 s30 e31 s31 e32 s32 e35 s35 e36 s36 b1 b2 b3 b4 b5
  go_enter Tryz.func25, Tryz.ntmps25
  go_wp2
  refine wp_region_slots (R := Ext) [⟨24, fun v _ => v = .pointer (some ⟨w.heap.size, 3, none⟩), fun _ _ _ _ h => h⟩, ⟨25, fun v _ => v = .int .i64 i.rd, fun _ _ _ _ h => h⟩, ⟨26, fun v _ => v = .string X26, fun _ _ _ _ h => h⟩, ⟨27, fun v _ => v = .string X27, fun _ _ _ _ h => h⟩, ⟨28, fun v _ => v = .pointer (some ⟨w.heap.size, 2, none⟩), fun _ _ _ _ h => h⟩, ⟨29, fun v _ => v = .int .i64 i.rt, fun _ _ _ _ h => h⟩, ⟨30, fun v _ => v = .string X30, fun _ _ _ _ h => h⟩, ⟨31, fun v _ => v = .string X31, fun _ _ _ _ h => h⟩, ⟨32, fun v _ => v = .string X32, fun _ _ _ _ h => h⟩, ⟨33, fun v _ => v = .pointer (some ⟨w.heap.size, 4, none⟩), fun _ _ _ _ h => h⟩, ⟨34, fun v _ => v = .int .i64 i.sa, fun _ _ _ _ h => h⟩, ⟨35, fun v _ => v = .string X35, fun _ _ _ _ h => h⟩, ⟨36, fun v _ => v = .string X36, fun _ _ _ _ h => h⟩, ⟨4, fun v _ => v = .string X36, fun _ _ _ _ h => h⟩] _ (by kernel_rfl) rfl (by kernel_rfl) (Below.drew (Below.refl _ _)) (fun _ _ _ h1 h2 => below_tr h1 h2) (fun QQ => ⟨?_, ?_, ?_, ?_, ?_, ?_, ?_, ?_, ?_, ?_, ?_, ?_, ?_, ?_, trivial⟩) (fun f wy hR hf => ?_)
  · intro A wx hR hout hdep K hK
    have h2 : A.tmps[2]?.getD undef = .pointer (some ⟨w.heap.size, 0, none⟩) := hout 2 (by kernel_rfl)
    refine if_yes (by kernel_rfl) ?_
    simp [go_sem, h2, a27, a31, a32, a36]
    exact hK.out _ _ (Below.refl _ _) rfl
  · intro A wx hR hout hdep K hK
    have h24 : A.tmps[24]?.getD undef = .pointer (some ⟨w.heap.size, 3, none⟩) := hdep 24 (by kernel_rfl)
    refine if_yes (by kernel_rfl) ?_
    have d0 := keep_cell hR d0
    have d1 := keep_cell hR d1
    have d2 := keep_cell hR d2
    have d3 := keep_cell hR d3
    have d4 := keep_cell hR d4
    have d5 := keep_cell hR d5
    simp [go_sem, h24, d0, d1, d2, d3, d4, d5, a27, a31, a32, a36]
    exact hK.out _ _ (Below.refl _ _) rfl
  · intro A wx hR hout hdep K hK
    have h25 : A.tmps[25]?.getD undef = .int .i64 i.rd := hdep 25 (by kernel_rfl)
    refine if_yes (by kernel_rfl) ?_
    simp [go_sem, h25, a27, a31, a32, a36]
    refine (K26.out wx).mono ?_
    rintro e wG ⟨rfl, hbG⟩
    exact hK.out _ _ hbG rfl
  · intro A wx hR hout hdep K hK
    have h26 : A.tmps[26]?.getD undef = .string X26 := hdep 26 (by kernel_rfl)
    refine if_yes (by kernel_rfl) ?_
    simp [go_sem, h26, a27, a31, a32, a36]
    exact hK.out _ _ (Below.refl _ _) rfl
  · intro A wx hR hout hdep K hK
    have h2 : A.tmps[2]?.getD undef = .pointer (some ⟨w.heap.size, 0, none⟩) := hout 2 (by kernel_rfl)
    refine if_yes (by kernel_rfl) ?_
    simp [go_sem, h2, a27, a31, a32, a36]
    exact hK.out _ _ (Below.refl _ _) rfl
  · intro A wx hR hout hdep K hK
    have h28 : A.tmps[28]?.getD undef = .pointer (some ⟨w.heap.size, 2, none⟩) := hdep 28 (by kernel_rfl)
    refine if_yes (by kernel_rfl) ?_
    have d0 := keep_cell hR d0
    have d1 := keep_cell hR d1
    have d2 := keep_cell hR d2
    have d3 := keep_cell hR d3
    have d4 := keep_cell hR d4
    have d5 := keep_cell hR d5
    simp [go_sem, h28, d0, d1, d2, d3, d4, d5, a27, a31, a32, a36]
    exact hK.out _ _ (Below.refl _ _) rfl
  · intro A wx hR hout hdep K hK
    have h29 : A.tmps[29]?.getD undef = .int .i64 i.rt := hdep 29 (by kernel_rfl)
    refine if_yes (by kernel_rfl) ?_
    simp [go_sem, h29, a27, a31, a32, a36]
    refine (K30.out wx).mono ?_
    rintro e wG ⟨rfl, hbG⟩
    exact hK.out _ _ hbG rfl
  · intro A wx hR hout hdep K hK
    have h27 : A.tmps[27]?.getD undef = .string X27 := hdep 27 (by kernel_rfl)
    have h30 : A.tmps[30]?.getD undef = .string X30 := hdep 30 (by kernel_rfl)
    refine if_yes (by kernel_rfl) ?_
    simp [go_sem, h27, h30, a27, a31, a32, a36]
    exact hK.out _ _ (Below.refl _ _) rfl
  · intro A wx hR hout hdep K hK
    have h31 : A.tmps[31]?.getD undef = .string X31 := hdep 31 (by kernel_rfl)
    refine if_yes (by kernel_rfl) ?_
    simp [go_sem, h31, a27, a31, a32, a36]
    exact hK.out _ _ (Below.refl _ _) rfl
  · intro A wx hR hout hdep K hK
    have h2 : A.tmps[2]?.getD undef = .pointer (some ⟨w.heap.size, 0, none⟩) := hout 2 (by kernel_rfl)
    refine if_yes (by kernel_rfl) ?_
    simp [go_sem, h2, a27, a31, a32, a36]
    exact hK.out _ _ (Below.refl _ _) rfl
  · intro A wx hR hout hdep K hK
    have h33 : A.tmps[33]?.getD undef = .pointer (some ⟨w.heap.size, 4, none⟩) := hdep 33 (by kernel_rfl)
    refine if_yes (by kernel_rfl) ?_
    have d0 := keep_cell hR d0
    have d1 := keep_cell hR d1
    have d2 := keep_cell hR d2
    have d3 := keep_cell hR d3
    have d4 := keep_cell hR d4
    have d5 := keep_cell hR d5
    simp [go_sem, h33, d0, d1, d2, d3, d4, d5, a27, a31, a32, a36]
    exact hK.out _ _ (Below.refl _ _) rfl
  · intro A wx hR hout hdep K hK
    have h34 : A.tmps[34]?.getD undef = .int .i64 i.sa := hdep 34 (by kernel_rfl)
    refine if_yes (by kernel_rfl) ?_
    simp [go_sem, h34, a27, a31, a32, a36]
    refine (K35.out wx).mono ?_
    rintro e wG ⟨rfl, hbG⟩
    exact hK.out _ _ hbG rfl
  · intro A wx hR hout hdep K hK
    have h32 : A.tmps[32]?.getD undef = .string X32 := hdep 32 (by kernel_rfl)
    have h35 : A.tmps[35]?.getD undef = .string X35 := hdep 35 (by kernel_rfl)
    refine if_yes (by kernel_rfl) ?_
    simp [go_sem, h32, h35, a27, a31, a32, a36]
    exact hK.out _ _ (Below.refl _ _) rfl
  · intro A wx hR hout hdep K hK
    have h36 : A.tmps[36]?.getD undef = .string X36 := hdep 36 (by kernel_rfl)
    refine if_yes (by kernel_rfl) ?_
    simp [go_sem, h36, a27, a31, a32, a36]
    exact hK.out _ _ (Below.refl _ _) rfl
  have hv : f 4 = .string X36 := hf 4 (by kernel_rfl)
  simp only [putSl, Act.put, List.setIfInBounds_toArray, List.set_cons_zero, List.set_cons_succ, hv]
  have HB2 : Hid (Below w.heap.size w wy) := below_tr HB.out hR
  clear hf hv hR
  go_wp2
  go_ret
  exact ⟨rfl, HB2.out⟩
set_option maxHeartbeats 2000000 in
theorem beh_dtr (i : In) (hbd : Bd i) (w : World) : Calls Tryz.prog 25 #[i.val, .string ⟨#[100, 116, 114]⟩] w fun e w' => e = .returned (.string ⟨((((((36 :: Lib.itoa i.rd) ++ [44, 32]) ++ (36 :: Lib.itoa i.rt)) ++ [44, 32]) ++ Lib.itoa i.sa)).toArray⟩) ∧ Below w.heap.size w w' := by
  obtain ⟨W, hW, hb, hz, d0, d1, d2, d3, d4, d5⟩ := box6 w (.string i.name) (.int .i64 i.rs) (.int .i64 i.rt) (.int .i64 i.rd) (.int .i64 i.sa) (.int .u32 (i.imm : Int)) 24
  have b1 := hbd.rs; have b2 := hbd.rt; have b3 := hbd.rd; have b4 := hbd.sa; have b5 := hbd.imm
  have HB : Hid (Below w.heap.size w W) := hb
  clear hb hz
  unfold In.val
  obtain ⟨X26, e26⟩ : ∃ z : ByteArray, z = ⟨((36 :: Lib.itoa i.rd)).toArray⟩ := ⟨_, rfl⟩
  have K26 : Hid (∀ w', Calls Tryz.prog 58 #[.int .i64 i.rd] w' fun e w'' => e = .returned (.string X26) ∧ Below w'.heap.size w' w'') := fun w' => by rw [e26]; exact reg58 i.rd (by omega) (by omega) w'
  have s26 : X26.size ≤ 100 := by rw [e26]; show Array.size _ ≤ _; have := itoa_len i.rd; simp; omega
  obtain ⟨X27, e27⟩ : ∃ z : ByteArray, z = X26 ++ (⟨#[44, 32]⟩ : ByteArray) := ⟨_, rfl⟩
  have s27 : X27.size ≤ 102 := by rw [e27, ByteArray.size_append]; have : (⟨#[44, 32]⟩ : ByteArray).size = 2 := rfl; omega
  have a27 : ∀ wx, (Op.stringOp .add X26 (⟨#[44, 32]⟩ : ByteArray)).run Tryz.prog wx = .ok (.string X27) wx := fun wx => by rw [e27]; exact run_string_add_sum wx _ _ (by rw [← ByteArray.size_append, ← e27]; omega)
  obtain ⟨X30, e30⟩ : ∃ z : ByteArray, z = ⟨((36 :: Lib.itoa i.rt)).toArray⟩ := ⟨_, rfl⟩
  have K30 : Hid (∀ w', Calls Tryz.prog 58 #[.int .i64 i.rt] w' fun e w'' => e = .returned (.string X30) ∧ Below w'.heap.size w' w'') := fun w' => by rw [e30]; exact reg58 i.rt (by omega) (by omega) w'
  have s30 : X30.size ≤ 100 := by rw [e30]; show Array.size _ ≤ _; have := itoa_len i.rt; simp; omega
  obtain ⟨X31, e31⟩ : ∃ z : ByteArray, z = X27 ++ X30 := ⟨_, rfl⟩
  have s31 : X31.size ≤ 202 := by rw [e31, ByteArray.size_append]; omega
  have a31 : ∀ wx, (Op.stringOp .add X27 X30).run Tryz.prog wx = .ok (.string X31) wx := fun wx => by rw [e31]; exact run_string_add_sum wx _ _ (by rw [← ByteArray.size_append, ← e31]; omega)
  obtain ⟨X32, e32⟩ : ∃ z : ByteArray, z = X31 ++ (⟨#[44, 32]⟩ : ByteArray) := ⟨_, rfl⟩
  have s32 : X32.size ≤ 204 := by rw [e32, ByteArray.size_append]; have : (⟨#[44, 32]⟩ : ByteArray).size = 2 := rfl; omega
  have a32 : ∀ wx, (Op.stringOp .add X31 (⟨#[44, 32]⟩ : ByteArray)).run Tryz.prog wx = .ok (.string X32) wx := fun wx => by rw [e32]; exact run_string_add_sum wx _ _ (by rw [← ByteArray.size_append, ← e32]; omega)
  obtain ⟨X35, e35⟩ : ∃ z : ByteArray, z = ⟨(Lib.itoa i.sa).toArray⟩ := ⟨_, rfl⟩
  have K35 : Hid (∀ w', Calls Tryz.prog 59 #[.int .i64 i.sa] w' fun e w'' => e = .returned (.string X35) ∧ Below w'.heap.size w' w'') := fun w' => by rw [e35]; exact digits59 i.sa (by omega) (by omega) w'
  have s35 : X35.size ≤ 70000000 := by rw [e35]; show Array.size _ ≤ _; have := itoa_len i.sa; simp; omega
  obtain ⟨X36, e36⟩ : ∃ z : ByteArray, z = X32 ++ X35 := ⟨_, rfl⟩
  have s36 : X36.size ≤ 70000204 := by rw [e36, ByteArray.size_append]; omega
  have a36 : ∀ wx, (Op.stringOp .add X32 X35).run Tryz.prog wx = .ok (.string X36) wx := fun wx => by rw [e36]; exact run_string_add_sum wx _ _ (by rw [← ByteArray.size_append, ← e36]; omega)
  have HE : Hid (X36 = ⟨((((((36 :: Lib.itoa i.rd) ++ [44, 32]) ++ (36 :: Lib.itoa i.rt)) ++ [44, 32]) ++ Lib.itoa i.sa)).toArray⟩) := by show _ = _; rw [e36, e35, e32, e31, e30, e27, e26]; simp only [ba_app]
  rw [← HE.out]
  clear HE hbd e26 s26 e27 s27 e30 s30 e31 s31 e32 s32 e35 s35 e36 s36 b1 b2 b3 b4 b5
  go_enter Tryz.func25, Tryz.ntmps25
  go_wp2
  refine wp_region_slots (R := Ext) [⟨24, fun v _ => v = .pointer (some ⟨w.heap.size, 3, none⟩), fun _ _ _ _ h => h⟩, ⟨25, fun v _ => v = .int .i64 i.rd, fun _ _ _ _ h => h⟩, ⟨26, fun v _ => v = .string X26, fun _ _ _ _ h => h⟩, ⟨27, fun v _ => v = .string X27, fun _ _ _ _ h => h⟩, ⟨28, fun v _ => v = .pointer (some ⟨w.heap.size, 2, none⟩), fun _ _ _ _ h => h⟩, ⟨29, fun v _ => v = .int .i64 i.rt, fun _ _ _ _ h => h⟩, ⟨30, fun v _ => v = .string X30, fun _ _ _ _ h => h⟩, ⟨31, fun v _ => v = .string X31, fun _ _ _ _ h => h⟩, ⟨32, fun v _ => v = .string X32, fun _ _ _ _ h => h⟩, ⟨33, fun v _ => v = .pointer (some ⟨w.heap.size, 4, none⟩), fun _ _ _ _ h => h⟩, ⟨34, fun v _ => v = .int .i64 i.sa, fun _ _ _ _ h => h⟩, ⟨35, fun v _ => v = .string X35, fun _ _ _ _ h => h⟩, ⟨36, fun v _ => v = .string X36, fun _ _ _ _ h => h⟩, ⟨4, fun v _ => v = .string X36, fun _ _ _ _ h => h⟩] _ (by kernel_rfl) rfl (by kernel_rfl) (Below.drew (Below.refl _ _)) (fun _ _ _ h1 h2 => below_tr h1 h2) (fun QQ => ⟨?_, ?_, ?_, ?_, ?_, ?_, ?_, ?_, ?_, ?_, ?_, ?_, ?_, ?_, trivial⟩) (fun f wy hR hf => ?_)
  · intro A wx hR hout hdep K hK
    have h2 : A.tmps[2]?.getD undef = .pointer (some ⟨w.heap.size, 0, none⟩) := hout 2 (by kernel_rfl)
    refine if_yes (by kernel_rfl) ?_
    simp [go_sem, h2, a27, a31, a32, a36]
    exact hK.out _ _ (Below.refl _ _) rfl
  · intro A wx hR hout hdep K hK
    have h24 : A.tmps[24]?.getD undef = .pointer (some ⟨w.heap.size, 3, none⟩) := hdep 24 (by kernel_rfl)
    refine if_yes (by kernel_rfl) ?_
    have d0 := keep_cell hR d0
    have d1 := keep_cell hR d1
    have d2 := keep_cell hR d2
    have d3 := keep_cell hR d3
    have d4 := keep_cell hR d4
    have d5 := keep_cell hR d5
    simp [go_sem, h24, d0, d1, d2, d3, d4, d5, a27, a31, a32, a36]
    exact hK.out _ _ (Below.refl _ _) rfl
  · intro A wx hR hout hdep K hK
    have h25 : A.tmps[25]?.getD undef = .int .i64 i.rd := hdep 25 (by kernel_rfl)
    refine if_yes (by kernel_rfl) ?_
    simp [go_sem, h25, a27, a31, a32, a36]
    refine (K26.out wx).mono ?_
    rintro e wG ⟨rfl, hbG⟩
    exact hK.out _ _ hbG rfl
  · intro A wx hR hout hdep K hK
    have h26 : A.tmps[26]?.getD undef = .string X26 := hdep 26 (by kernel_rfl)
    refine if_yes (by kernel_rfl) ?_
    simp [go_sem, h26, a27, a31, a32, a36]
    exact hK.out _ _ (Below.refl _ _) rfl
  · intro A wx hR hout hdep K hK
    have h2 : A.tmps[2]?.getD undef = .pointer (some ⟨w.heap.size, 0, none⟩) := hout 2 (by kernel_rfl)
    refine if_yes (by kernel_rfl) ?_
    simp [go_sem, h2, a27, a31, a32, a36]
    exact hK.out _ _ (Below.refl _ _) rfl
  · intro A wx hR hout hdep K hK
    have h28 : A.tmps[28]?.getD undef = .pointer (some ⟨w.heap.size, 2, none⟩) := hdep 28 (by kernel_rfl)
    refine if_yes (by kernel_rfl) ?_
    have d0 := keep_cell hR d0
    have d1 := keep_cell hR d1
    have d2 := keep_cell hR d2
    have d3 := keep_cell hR d3
    have d4 := keep_cell hR d4
    have d5 := keep_cell hR d5
    simp [go_sem, h28, d0, d1, d2, d3, d4, d5, a27, a31, a32, a36]
    exact hK.out _ _ (Below.refl _ _) rfl
  · intro A wx hR hout hdep K hK
    have h29 : A.tmps[29]?.getD undef = .int .i64 i.rt := hdep 29 (by kernel_rfl)
    refine if_yes (by kernel_rfl) ?_
    simp [go_sem, h29, a27, a31, a32, a36]
    refine (K30.out wx).mono ?_
    rintro e wG ⟨rfl, hbG⟩
    exact hK.out _ _ hbG rfl
  · intro A wx hR hout hdep K hK
    have h27 : A.tmps[27]?.getD undef = .string X27 := hdep 27 (by kernel_rfl)
    have h30 : A.tmps[30]?.getD undef = .string X30 := hdep 30 (by kernel_rfl)
    refine if_yes (by kernel_rfl) ?_
    simp [go_sem, h27, h30, a27, a31, a32, a36]
    exact hK.out _ _ (Below.refl _ _) rfl
  · intro A wx hR hout hdep K hK
    have h31 : A.tmps[31]?.getD undef = .string X31 := hdep 31 (by kernel_rfl)
    refine if_yes (by kernel_rfl) ?_
    simp [go_sem, h31, a27, a31, a32, a36]
    exact hK.out _ _ (Below.refl _ _) rfl
  · intro A wx hR hout hdep K hK
    have h2 : A.tmps[2]?.getD undef = .pointer (some ⟨w.heap.size, 0, none⟩) := hout 2 (by kernel_rfl)
    refine if_yes (by kernel_rfl) ?_
    simp [go_sem, h2, a27, a31, a32, a36]
    exact hK.out _ _ (Below.refl _ _) rfl
  · intro A wx hR hout hdep K hK
    have h33 : A.tmps[33]?.getD undef = .pointer (some ⟨w.heap.size, 4, none⟩) := hdep 33 (by kernel_rfl)
    refine if_yes (by kernel_rfl) ?_
    have d0 := keep_cell hR d0
    have d1 := keep_cell hR d1
    have d2 := keep_cell hR d2
    have d3 := keep_cell hR d3
    have d4 := keep_cell hR d4
    have d5 := keep_cell hR d5
    simp [go_sem, h33, d0, d1, d2, d3, d4, d5, a27, a31, a32, a36]
    exact hK.out _ _ (Below.refl _ _) rfl
  · intro A wx hR hout hdep K hK
    have h34 : A.tmps[34]?.getD undef = .int .i64 i.sa := hdep 34 (by kernel_rfl)
    refine if_yes (by kernel_rfl) ?_
    simp [go_sem, h34, a27, a31, a32, a36]
    refine (K35.out wx).mono ?_
    rintro e wG ⟨rfl, hbG⟩
    exact hK.out _ _ hbG rfl
  · intro A wx hR hout hdep K hK
    have h32 : A.tmps[32]?.getD undef = .string X32 := hdep 32 (by kernel_rfl)
    have h35 : A.tmps[35]?.getD undef = .string X35 := hdep 35 (by kernel_rfl)
    refine if_yes (by kernel_rfl) ?_
    simp [go_sem, h32, h35, a27, a31, a32, a36]
    exact hK.out _ _ (Below.refl _ _) rfl
  · intro A wx hR hout hdep K hK
    have h36 : A.tmps[36]?.getD undef = .string X36 := hdep 36 (by kernel_rfl)
    refine if_yes (by kernel_rfl) ?_
    simp [go_sem, h36, a27, a31, a32, a36]
    exact hK.out _ _ (Below.refl _ _) rfl
  have hv : f 4 = .string X36 := hf 4 (by kernel_rfl)
  simp only [putSl, Act.put, List.setIfInBounds_toArray, List.set_cons_zero, List.set_cons_succ, hv]
  have HB2 : Hid (Below w.heap.size w wy) := below_tr HB.out hR
  clear hf hv hR
  go_wp2
  go_ret
  exact ⟨rfl, HB2.out⟩
set_option maxHeartbeats 2000000 in
theorem beh_dts (i : In) (hbd : Bd i) (w : World) : Calls Tryz.prog 25 #[i.val, .string ⟨#[100, 116, 115]⟩] w fun e w' => e = .returned (.string ⟨((((((36 :: Lib.itoa i.rd) ++ [44, 32]) ++ (36 :: Lib.itoa i.rt)) ++ [44, 32]) ++ (36 :: Lib.itoa i.rs))).toArray⟩) ∧ Below w.heap.size w w' := by
  obtain ⟨W, hW, hb, hz, d0, d1, d2, d3, d4, d5⟩ := box6 w (.string i.name) (.int .i64 i.rs) (.int .i64 i.rt) (.int .i64 i.rd) (.int .i64 i.sa) (.int .u32 (i.imm : Int)) 24
  have b1 := hbd.rs; have b2 := hbd.rt; have b3 := hbd.rd; have b4 := hbd.sa; have b5 := hbd.imm
  have HB : Hid (Below w.heap.size w W) := hb
  clear hb hz
  unfold In.val
  obtain ⟨X42, e42⟩ : ∃ z : ByteArray, z = ⟨((36 :: Lib.itoa i.rd)).toArray⟩ := ⟨_, rfl⟩
  have K42 : Hid (∀ w', Calls Tryz.prog 58 #[.int .i64 i.rd] w' fun e w'' => e = .returned (.string X42) ∧ Below w'.heap.size w' w'') := fun w' => by rw [e42]; exact reg58 i.rd (by omega) (by omega) w'
  have s42 : X42.size ≤ 100 := by rw [e42]; show Array.size _ ≤ _; have := itoa_len i.rd; simp; omega
  obtain ⟨X43, e43⟩ : ∃ z : ByteArray, z = X42 ++ (⟨#[44, 32]⟩ : ByteArray) := ⟨_, rfl⟩
  have s43 : X43.size ≤ 102 := by rw [e43, ByteArray.size_append]; have : (⟨#[44, 32]⟩ : ByteArray).size = 2 := rfl; omega
  have a43 : ∀ wx, (Op.stringOp .add X42 (⟨#[44, 32]⟩ : ByteArray)).run Tryz.prog wx = .ok (.string X43) wx := fun wx => by rw [e43]; exact run_string_add_sum wx _ _ (by rw [← ByteArray.size_append, ← e43]; omega)
  obtain ⟨X46, e46⟩ : ∃ z : ByteArray, z = ⟨((36 :: Lib.itoa i.rt)).toArray⟩ := ⟨_, rfl⟩
  have K46 : Hid (∀ w', Calls Tryz.prog 58 #[.int .i64 i.rt] w' fun e w'' => e = .returned (.string X46) ∧ Below w'.heap.size w' w'') := fun w' => by rw [e46]; exact reg58 i.rt (by omega) (by omega) w'
  have s46 : X46.size ≤ 100 := by rw [e46]; show Array.size _ ≤ _; have := itoa_len i.rt; simp; omega
  obtain ⟨X47, e47⟩ : ∃ z : ByteArray, z = X43 ++ X46 := ⟨_, rfl⟩
  have s47 : X47.size ≤ 202 := by rw [e47, ByteArray.size_append]; omega
  have a47 : ∀ wx, (Op.stringOp .add X43 X46).run Tryz.prog wx = .ok (.string X47) wx := fun wx => by rw [e47]; exact run_string_add_sum wx _ _ (by rw [← ByteArray.size_append, ← e47]; omega)
  obtain ⟨X48, e48⟩ : ∃ z : ByteArray, z = X47 ++ (⟨#[44, 32]⟩ : ByteArray) := ⟨_, rfl⟩
  have s48 : X48.size ≤ 204 := by rw [e48, ByteArray.size_append]; have : (⟨#[44, 32]⟩ : ByteArray).size = 2 := rfl; omega
  have a48 : ∀ wx, (Op.stringOp .add X47 (⟨#[44, 32]⟩ : ByteArray)).run Tryz.prog wx = .ok (.string X48) wx := fun wx => by rw [e48]; exact run_string_add_sum wx _ _ (by rw [← ByteArray.size_append, ← e48]; omega)
  obtain ⟨X51, e51⟩ : ∃ z : ByteArray, z = ⟨((36 :: Lib.itoa i.rs)).toArray⟩ := ⟨_, rfl⟩
  have K51 : Hid (∀ w', Calls Tryz.prog 58 #[.int .i64 i.rs] w' fun e w'' => e = .returned (.string X51) ∧ Below w'.heap.size w' w'') := fun w' => by rw [e51]; exact reg58 i.rs (by omega) (by omega) w'
  have s51 : X51.size ≤ 100 := by rw [e51]; show Array.size _ ≤ _; have := itoa_len i.rs; simp; omega
  obtain ⟨X52, e52⟩ : ∃ z : ByteArray, z = X48 ++ X51 := ⟨_, rfl⟩
  have s52 : X52.size ≤ 304 := by rw [e52, ByteArray.size_append]; omega
  have a52 : ∀ wx, (Op.stringOp .add X48 X51).run Tryz.prog wx = .ok (.string X52) wx := fun wx => by rw [e52]; exact run_string_add_sum wx _ _ (by rw [← ByteArray.size_append, ← e52]; omega)
  have HE : Hid (X52 = ⟨((((((36 :: Lib.itoa i.rd) ++ [44, 32]) ++ (36 :: Lib.itoa i.rt)) ++ [44, 32]) ++ (36 :: Lib.itoa i.rs))).toArray⟩) := by show _ = _; rw [e52, e51, e48, e47, e46, e43, e42]; simp only [ba_app]
  rw [← HE.out]
  clear HE hbd e42 s42 e43 s43 e46 s46 e47 s47 e48 s48 e51 s51 e52 s52 b1 b2 b3 b4 b5
  go_enter Tryz.func25, Tryz.ntmps25
  go_wp2
  refine wp_region_slots (R := Ext) [⟨40, fun v _ => v = .pointer (some ⟨w.heap.size, 3, none⟩), fun _ _ _ _ h => h⟩, ⟨41, fun v _ => v = .int .i64 i.rd, fun _ _ _ _ h => h⟩, ⟨42, fun v _ => v = .string X42, fun _ _ _ _ h => h⟩, ⟨43, fun v _ => v = .string X43, fun _ _ _ _ h => h⟩, ⟨44, fun v _ => v = .pointer (some ⟨w.heap.size, 2, none⟩), fun _ _ _ _ h => h⟩, ⟨45, fun v _ => v = .int .i64 i.rt, fun _ _ _ _ h => h⟩, ⟨46, fun v _ => v = .string X46, fun _ _ _ _ h => h⟩, ⟨47, fun v _ => v = .string X47, fun _ _ _ _ h => h⟩, ⟨48, fun v _ => v = .string X48, fun _ _ _ _ h => h⟩, ⟨49, fun v _ => v = .pointer (some ⟨w.heap.size, 1, none⟩), fun _ _ _ _ h => h⟩, ⟨50, fun v _ => v = .int .i64 i.rs, fun _ _ _ _ h => h⟩, ⟨51, fun v _ => v = .string X51, fun _ _ _ _ h => h⟩, ⟨52, fun v _ => v = .string X52, fun _ _ _ _ h => h⟩, ⟨4, fun v _ => v = .string X52, fun _ _ _ _ h => h⟩] _ (by kernel_rfl) rfl (by kernel_rfl) (Below.drew (Below.refl _ _)) (fun _ _ _ h1 h2 => below_tr h1 h2) (fun QQ => ⟨?_, ?_, ?_, ?_, ?_, ?_, ?_, ?_, ?_, ?_, ?_, ?_, ?_, ?_, trivial⟩) (fun f wy hR hf => ?_)
  · intro A wx hR hout hdep K hK
    have h2 : A.tmps[2]?.getD undef = .pointer (some ⟨w.heap.size, 0, none⟩) := hout 2 (by kernel_rfl)
    refine if_yes (by kernel_rfl) ?_
    simp [go_sem, h2, a43, a47, a48, a52]
    exact hK.out _ _ (Below.refl _ _) rfl
  · intro A wx hR hout hdep K hK
    have h40 : A.tmps[40]?.getD undef = .pointer (some ⟨w.heap.size, 3, none⟩) := hdep 40 (by kernel_rfl)
    refine if_yes (by kernel_rfl) ?_
    have d0 := keep_cell hR d0
    have d1 := keep_cell hR d1
    have d2 := keep_cell hR d2
    have d3 := keep_cell hR d3
    have d4 := keep_cell hR d4
    have d5 := keep_cell hR d5
    simp [go_sem, h40, d0, d1, d2, d3, d4, d5, a43, a47, a48, a52]
    exact hK.out _ _ (Below.refl _ _) rfl
  · intro A wx hR hout hdep K hK
    have h41 : A.tmps[41]?.getD undef = .int .i64 i.rd := hdep 41 (by kernel_rfl)
    refine if_yes (by kernel_rfl) ?_
    simp [go_sem, h41, a43, a47, a48, a52]
    refine (K42.out wx).mono ?_
    rintro e wG ⟨rfl, hbG⟩
    exact hK.out _ _ hbG rfl
  · intro A wx hR hout hdep K hK
    have h42 : A.tmps[42]?.getD undef = .string X42 := hdep 42 (by kernel_rfl)
    refine if_yes (by kernel_rfl) ?_
    simp [go_sem, h42, a43, a47, a48, a52]
    exact hK.out _ _ (Below.refl _ _) rfl
  · intro A wx hR hout hdep K hK
    have h2 : A.tmps[2]?.getD undef = .pointer (some ⟨w.heap.size, 0, none⟩) := hout 2 (by kernel_rfl)
    refine if_yes (by kernel_rfl) ?_
    simp [go_sem, h2, a43, a47, a48, a52]
    exact hK.out _ _ (Below.refl _ _) rfl
  · intro A wx hR hout hdep K hK
    have h44 : A.tmps[44]?.getD undef = .pointer (some ⟨w.heap.size, 2, none⟩) := hdep 44 (by kernel_rfl)
    refine if_yes (by kernel_rfl) ?_
    have d0 := keep_cell hR d0
    have d1 := keep_cell hR d1
    have d2 := keep_cell hR d2
    have d3 := keep_cell hR d3
    have d4 := keep_cell hR d4
    have d5 := keep_cell hR d5
    simp [go_sem, h44, d0, d1, d2, d3, d4, d5, a43, a47, a48, a52]
    exact hK.out _ _ (Below.refl _ _) rfl
  · intro A wx hR hout hdep K hK
    have h45 : A.tmps[45]?.getD undef = .int .i64 i.rt := hdep 45 (by kernel_rfl)
    refine if_yes (by kernel_rfl) ?_
    simp [go_sem, h45, a43, a47, a48, a52]
    refine (K46.out wx).mono ?_
    rintro e wG ⟨rfl, hbG⟩
    exact hK.out _ _ hbG rfl
  · intro A wx hR hout hdep K hK
    have h43 : A.tmps[43]?.getD undef = .string X43 := hdep 43 (by kernel_rfl)
    have h46 : A.tmps[46]?.getD undef = .string X46 := hdep 46 (by kernel_rfl)
    refine if_yes (by kernel_rfl) ?_
    simp [go_sem, h43, h46, a43, a47, a48, a52]
    exact hK.out _ _ (Below.refl _ _) rfl
  · intro A wx hR hout hdep K hK
    have h47 : A.tmps[47]?.getD undef = .string X47 := hdep 47 (by kernel_rfl)
    refine if_yes (by kernel_rfl) ?_
    simp [go_sem, h47, a43, a47, a48, a52]
    exact hK.out _ _ (Below.refl _ _) rfl
  · intro A wx hR hout hdep K hK
    have h2 : A.tmps[2]?.getD undef = .pointer (some ⟨w.heap.size, 0, none⟩) := hout 2 (by kernel_rfl)
    refine if_yes (by kernel_rfl) ?_
    simp [go_sem, h2, a43, a47, a48, a52]
    exact hK.out _ _ (Below.refl _ _) rfl
  · intro A wx hR hout hdep K hK
    have h49 : A.tmps[49]?.getD undef = .pointer (some ⟨w.heap.size, 1, none⟩) := hdep 49 (by kernel_rfl)
    refine if_yes (by kernel_rfl) ?_
    have d0 := keep_cell hR d0
    have d1 := keep_cell hR d1
    have d2 := keep_cell hR d2
    have d3 := keep_cell hR d3
    have d4 := keep_cell hR d4
    have d5 := keep_cell hR d5
    simp [go_sem, h49, d0, d1, d2, d3, d4, d5, a43, a47, a48, a52]
    exact hK.out _ _ (Below.refl _ _) rfl
  · intro A wx hR hout hdep K hK
    have h50 : A.tmps[50]?.getD undef = .int .i64 i.rs := hdep 50 (by kernel_rfl)
    refine if_yes (by kernel_rfl) ?_
    simp [go_sem, h50, a43, a47, a48, a52]
    refine (K51.out wx).mono ?_
    rintro e wG ⟨rfl, hbG⟩
    exact hK.out _ _ hbG rfl
  · intro A wx hR hout hdep K hK
    have h48 : A.tmps[48]?.getD undef = .string X48 := hdep 48 (by kernel_rfl)
    have h51 : A.tmps[51]?.getD undef = .string X51 := hdep 51 (by kernel_rfl)
    refine if_yes (by kernel_rfl) ?_
    simp [go_sem, h48, h51, a43, a47, a48, a52]
    exact hK.out _ _ (Below.refl _ _) rfl
  · intro A wx hR hout hdep K hK
    have h52 : A.tmps[52]?.getD undef = .string X52 := hdep 52 (by kernel_rfl)
    refine if_yes (by kernel_rfl) ?_
    simp [go_sem, h52, a43, a47, a48, a52]
    exact hK.out _ _ (Below.refl _ _) rfl
  have hv : f 4 = .string X52 := hf 4 (by kernel_rfl)
  simp only [putSl, Act.put, List.setIfInBounds_toArray, List.set_cons_zero, List.set_cons_succ, hv]
  have HB2 : Hid (Below w.heap.size w wy) := below_tr HB.out hR
  clear hf hv hR
  go_wp2
  go_ret
  exact ⟨rfl, HB2.out⟩
set_option maxHeartbeats 2000000 in
theorem beh_dtv (i : In) (hbd : Bd i) (w : World) : Calls Tryz.prog 25 #[i.val, .string ⟨#[100, 116, 118]⟩] w fun e w' => e = .returned (.string ⟨((((((36 :: Lib.itoa i.rd) ++ [44, 32]) ++ (36 :: Lib.itoa i.rt)) ++ [44, 32]) ++ (36 :: Lib.itoa i.rs))).toArray⟩) ∧ Below w.heap.size w w' := by
  obtain ⟨W, hW, hb, hz, d0, d1, d2, d3, d4, d5⟩ := box6 w (.string i.name) (.int .i64 i.rs) (.int .i64 i.rt) (.int .i64 i.rd) (.int .i64 i.sa) (.int .u32 (i.imm : Int)) 24
  have b1 := hbd.rs; have b2 := hbd.rt; have b3 := hbd.rd; have b4 := hbd.sa; have b5 := hbd.imm
  have HB : Hid (Below w.heap.size w W) := hb
  clear hb hz
  unfold In.val
  obtain ⟨X42, e42⟩ : ∃ z : ByteArray, z = ⟨((36 :: Lib.itoa i.rd)).toArray⟩ := ⟨_, rfl⟩
  have K42 : Hid (∀ w', Calls Tryz.prog 58 #[.int .i64 i.rd] w' fun e w'' => e = .returned (.string X42) ∧ Below w'.heap.size w' w'') := fun w' => by rw [e42]; exact reg58 i.rd (by omega) (by omega) w'
  have s42 : X42.size ≤ 100 := by rw [e42]; show Array.size _ ≤ _; have := itoa_len i.rd; simp; omega
  obtain ⟨X43, e43⟩ : ∃ z : ByteArray, z = X42 ++ (⟨#[44, 32]⟩ : ByteArray) := ⟨_, rfl⟩
  have s43 : X43.size ≤ 102 := by rw [e43, ByteArray.size_append]; have : (⟨#[44, 32]⟩ : ByteArray).size = 2 := rfl; omega
  have a43 : ∀ wx, (Op.stringOp .add X42 (⟨#[44, 32]⟩ : ByteArray)).run Tryz.prog wx = .ok (.string X43) wx := fun wx => by rw [e43]; exact run_string_add_sum wx _ _ (by rw [← ByteArray.size_append, ← e43]; omega)
  obtain ⟨X46, e46⟩ : ∃ z : ByteArray, z = ⟨((36 :: Lib.itoa i.rt)).toArray⟩ := ⟨_, rfl⟩
  have K46 : Hid (∀ w', Calls Tryz.prog 58 #[.int .i64 i.rt] w' fun e w'' => e = .returned (.string X46) ∧ Below w'.heap.size w' w'') := fun w' => by rw [e46]; exact reg58 i.rt (by omega) (by omega) w'
  have s46 : X46.size ≤ 100 := by rw [e46]; show Array.size _ ≤ _; have := itoa_len i.rt; simp; omega
  obtain ⟨X47, e47⟩ : ∃ z : ByteArray, z = X43 ++ X46 := ⟨_, rfl⟩
  have s47 : X47.size ≤ 202 := by rw [e47, ByteArray.size_append]; omega
  have a47 : ∀ wx, (Op.stringOp .add X43 X46).run Tryz.prog wx = .ok (.string X47) wx := fun wx => by rw [e47]; exact run_string_add_sum wx _ _ (by rw [← ByteArray.size_append, ← e47]; omega)
  obtain ⟨X48, e48⟩ : ∃ z : ByteArray, z = X47 ++ (⟨#[44, 32]⟩ : ByteArray) := ⟨_, rfl⟩
  have s48 : X48.size ≤ 204 := by rw [e48, ByteArray.size_append]; have : (⟨#[44, 32]⟩ : ByteArray).size = 2 := rfl; omega
  have a48 : ∀ wx, (Op.stringOp .add X47 (⟨#[44, 32]⟩ : ByteArray)).run Tryz.prog wx = .ok (.string X48) wx := fun wx => by rw [e48]; exact run_string_add_sum wx _ _ (by rw [← ByteArray.size_append, ← e48]; omega)
  obtain ⟨X51, e51⟩ : ∃ z : ByteArray, z = ⟨((36 :: Lib.itoa i.rs)).toArray⟩ := ⟨_, rfl⟩
  have K51 : Hid (∀ w', Calls Tryz.prog 58 #[.int .i64 i.rs] w' fun e w'' => e = .returned (.string X51) ∧ Below w'.heap.size w' w'') := fun w' => by rw [e51]; exact reg58 i.rs (by omega) (by omega) w'
  have s51 : X51.size ≤ 100 := by rw [e51]; show Array.size _ ≤ _; have := itoa_len i.rs; simp; omega
  obtain ⟨X52, e52⟩ : ∃ z : ByteArray, z = X48 ++ X51 := ⟨_, rfl⟩
  have s52 : X52.size ≤ 304 := by rw [e52, ByteArray.size_append]; omega
  have a52 : ∀ wx, (Op.stringOp .add X48 X51).run Tryz.prog wx = .ok (.string X52) wx := fun wx => by rw [e52]; exact run_string_add_sum wx _ _ (by rw [← ByteArray.size_append, ← e52]; omega)
  have HE : Hid (X52 = ⟨((((((36 :: Lib.itoa i.rd) ++ [44, 32]) ++ (36 :: Lib.itoa i.rt)) ++ [44, 32]) ++ (36 :: Lib.itoa i.rs))).toArray⟩) := by show _ = _; rw [e52, e51, e48, e47, e46, e43, e42]; simp only [ba_app]
  rw [← HE.out]
  clear HE hbd e42 s42 e43 s43 e46 s46 e47 s47 e48 s48 e51 s51 e52 s52 b1 b2 b3 b4 b5
  go_enter Tryz.func25, Tryz.ntmps25
  go_wp2
  refine wp_region_slots (R := Ext) [⟨40, fun v _ => v = .pointer (some ⟨w.heap.size, 3, none⟩), fun _ _ _ _ h => h⟩, ⟨41, fun v _ => v = .int .i64 i.rd, fun _ _ _ _ h => h⟩, ⟨42, fun v _ => v = .string X42, fun _ _ _ _ h => h⟩, ⟨43, fun v _ => v = .string X43, fun _ _ _ _ h => h⟩, ⟨44, fun v _ => v = .pointer (some ⟨w.heap.size, 2, none⟩), fun _ _ _ _ h => h⟩, ⟨45, fun v _ => v = .int .i64 i.rt, fun _ _ _ _ h => h⟩, ⟨46, fun v _ => v = .string X46, fun _ _ _ _ h => h⟩, ⟨47, fun v _ => v = .string X47, fun _ _ _ _ h => h⟩, ⟨48, fun v _ => v = .string X48, fun _ _ _ _ h => h⟩, ⟨49, fun v _ => v = .pointer (some ⟨w.heap.size, 1, none⟩), fun _ _ _ _ h => h⟩, ⟨50, fun v _ => v = .int .i64 i.rs, fun _ _ _ _ h => h⟩, ⟨51, fun v _ => v = .string X51, fun _ _ _ _ h => h⟩, ⟨52, fun v _ => v = .string X52, fun _ _ _ _ h => h⟩, ⟨4, fun v _ => v = .string X52, fun _ _ _ _ h => h⟩] _ (by kernel_rfl) rfl (by kernel_rfl) (Below.drew (Below.refl _ _)) (fun _ _ _ h1 h2 => below_tr h1 h2) (fun QQ => ⟨?_, ?_, ?_, ?_, ?_, ?_, ?_, ?_, ?_, ?_, ?_, ?_, ?_, ?_, trivial⟩) (fun f wy hR hf => ?_)
  · intro A wx hR hout hdep K hK
    have h2 : A.tmps[2]?.getD undef = .pointer (some ⟨w.heap.size, 0, none⟩) := hout 2 (by kernel_rfl)
    refine if_yes (by kernel_rfl) ?_
    simp [go_sem, h2, a43, a47, a48, a52]
    exact hK.out _ _ (Below.refl _ _) rfl
  · intro A wx hR hout hdep K hK
    have h40 : A.tmps[40]?.getD undef = .pointer (some ⟨w.heap.size, 3, none⟩) := hdep 40 (by kernel_rfl)
    refine if_yes (by kernel_rfl) ?_
    have d0 := keep_cell hR d0
    have d1 := keep_cell hR d1
    have d2 := keep_cell hR d2
    have d3 := keep_cell hR d3
    have d4 := keep_cell hR d4
    have d5 := keep_cell hR d5
    simp [go_sem, h40, d0, d1, d2, d3, d4, d5, a43, a47, a48, a52]
    exact hK.out _ _ (Below.refl _ _) rfl
  · intro A wx hR hout hdep K hK
    have h41 : A.tmps[41]?.getD undef = .int .i64 i.rd := hdep 41 (by kernel_rfl)
    refine if_yes (by kernel_rfl) ?_
    simp [go_sem, h41, a43, a47, a48, a52]
    refine (K42.out wx).mono ?_
    rintro e wG ⟨rfl, hbG⟩
    exact hK.out _ _ hbG rfl
  · intro A wx hR hout hdep K hK
    have h42 : A.tmps[42]?.getD undef = .string X42 := hdep 42 (by kernel_rfl)
    refine if_yes (by kernel_rfl) ?_
    simp [go_sem, h42, a43, a47, a48, a52]
    exact hK.out _ _ (Below.refl _ _) rfl
  · intro A wx hR hout hdep K hK
    have h2 : A.tmps[2]?.getD undef = .pointer (some ⟨w.heap.size, 0, none⟩) := hout 2 (by kernel_rfl)
    refine if_yes (by kernel_rfl) ?_
    simp [go_sem, h2, a43, a47, a48, a52]
    exact hK.out _ _ (Below.refl _ _) rfl
  · intro A wx hR hout hdep K hK
    have h44 : A.tmps[44]?.getD undef = .pointer (some ⟨w.heap.size, 2, none⟩) := hdep 44 (by kernel_rfl)
    refine if_yes (by kernel_rfl) ?_
    have d0 := keep_cell hR d0
    have d1 := keep_cell hR d1
    have d2 := keep_cell hR d2
    have d3 := keep_cell hR d3
    have d4 := keep_cell hR d4
    have d5 := keep_cell hR d5
    simp [go_sem, h44, d0, d1, d2, d3, d4, d5, a43, a47, a48, a52]
    exact hK.out _ _ (Below.refl _ _) rfl
  · intro A wx hR hout hdep K hK
    have h45 : A.tmps[45]?.getD undef = .int .i64 i.rt := hdep 45 (by kernel_rfl)
    refine if_yes (by kernel_rfl) ?_
    simp [go_sem, h45, a43, a47, a48, a52]
    refine (K46.out wx).mono ?_
    rintro e wG ⟨rfl, hbG⟩
    exact hK.out _ _ hbG rfl
  · intro A wx hR hout hdep K hK
    have h43 : A.tmps[43]?.getD undef = .string X43 := hdep 43 (by kernel_rfl)
    have h46 : A.tmps[46]?.getD undef = .string X46 := hdep 46 (by kernel_rfl)
    refine if_yes (by kernel_rfl) ?_
    simp [go_sem, h43, h46, a43, a47, a48, a52]
    exact hK.out _ _ (Below.refl _ _) rfl
  · intro A wx hR hout hdep K hK
    have h47 : A.tmps[47]?.getD undef = .string X47 := hdep 47 (by kernel_rfl)
    refine if_yes (by kernel_rfl) ?_
    simp [go_sem, h47, a43, a47, a48, a52]
    exact hK.out _ _ (Below.refl _ _) rfl
  · intro A wx hR hout hdep K hK
    have h2 : A.tmps[2]?.getD undef = .pointer (some ⟨w.heap.size, 0, none⟩) := hout 2 (by kernel_rfl)
    refine if_yes (by kernel_rfl) ?_
    simp [go_sem, h2, a43, a47, a48, a52]
    exact hK.out _ _ (Below.refl _ _) rfl
  · intro A wx hR hout hdep K hK
    have h49 : A.tmps[49]?.getD undef = .pointer (some ⟨w.heap.size, 1, none⟩) := hdep 49 (by kernel_rfl)
    refine if_yes (by kernel_rfl) ?_
    have d0 := keep_cell hR d0
    have d1 := keep_cell hR d1
    have d2 := keep_cell hR d2
    have d3 := keep_cell hR d3
    have d4 := keep_cell hR d4
    have d5 := keep_cell hR d5
    simp [go_sem, h49, d0, d1, d2, d3, d4, d5, a43, a47, a48, a52]
    exact hK.out _ _ (Below.refl _ _) rfl
  · intro A wx hR hout hdep K hK
    have h50 : A.tmps[50]?.getD undef = .int .i64 i.rs := hdep 50 (by kernel_rfl)
    refine if_yes (by kernel_rfl) ?_
    simp [go_sem, h50, a43, a47, a48, a52]
    refine (K51.out wx).mono ?_
    rintro e wG ⟨rfl, hbG⟩
    exact hK.out _ _ hbG rfl
  · intro A wx hR hout hdep K hK
    have h48 : A.tmps[48]?.getD undef = .string X48 := hdep 48 (by kernel_rfl)
    have h51 : A.tmps[51]?.getD undef = .string X51 := hdep 51 (by kernel_rfl)
    refine if_yes (by kernel_rfl) ?_
    simp [go_sem, h48, h51, a43, a47, a48, a52]
    exact hK.out _ _ (Below.refl _ _) rfl
  · intro A wx hR hout hdep K hK
    have h52 : A.tmps[52]?.getD undef = .string X52 := hdep 52 (by kernel_rfl)
    refine if_yes (by kernel_rfl) ?_
    simp [go_sem, h52, a43, a47, a48, a52]
    exact hK.out _ _ (Below.refl _ _) rfl
  have hv : f 4 = .string X52 := hf 4 (by kernel_rfl)
  simp only [putSl, Act.put, List.setIfInBounds_toArray, List.set_cons_zero, List.set_cons_succ, hv]
  have HB2 : Hid (Below w.heap.size w wy) := below_tr HB.out hR
  clear hf hv hR
  go_wp2
  go_ret
  exact ⟨rfl, HB2.out⟩
set_option maxHeartbeats 2000000 in
theorem beh_ds (i : In) (hbd : Bd i) (w : World) : Calls Tryz.prog 25 #[i.val, .string ⟨#[100, 115]⟩] w fun e w' => e = .returned (.string ⟨((((36 :: Lib.itoa i.rd) ++ [44, 32]) ++ (36 :: Lib.itoa i.rs))).toArray⟩) ∧ Below w.heap.size w w' := by
  obtain ⟨W, hW, hb, hz, d0, d1, d2, d3, d4, d5⟩ := box6 w (.string i.name) (.int .i64 i.rs) (.int .i64 i.rt) (.int .i64 i.rd) (.int .i64 i.sa) (.int .u32 (i.imm : Int)) 24
  have b1 := hbd.rs; have b2 := hbd.rt; have b3 := hbd.rd; have b4 := hbd.sa; have b5 := hbd.imm
  have HB : Hid (Below w.heap.size w W) := hb
  clear hb hz
  unfold In.val
  obtain ⟨X58, e58⟩ : ∃ z : ByteArray, z = ⟨((36 :: Lib.itoa i.rd)).toArray⟩ := ⟨_, rfl⟩
  have K58 : Hid (∀ w', Calls Tryz.prog 58 #[.int .i64 i.rd] w' fun e w'' => e = .returned (.string X58) ∧ Below w'.heap.size w' w'') := fun w' => by rw [e58]; exact reg58 i.rd (by omega) (by omega) w'
  have s58 : X58.size ≤ 100 := by rw [e58]; show Array.size _ ≤ _; have := itoa_len i.rd; simp; omega
  obtain ⟨X59, e59⟩ : ∃ z : ByteArray, z = X58 ++ (⟨#[44, 32]⟩ : ByteArray) := ⟨_, rfl⟩
  have s59 : X59.size ≤ 102 := by rw [e59, ByteArray.size_append]; have : (⟨#[44, 32]⟩ : ByteArray).size = 2 := rfl; omega
  have a59 : ∀ wx, (Op.stringOp .add X58 (⟨#[44, 32]⟩ : ByteArray)).run Tryz.prog wx = .ok (.string X59) wx := fun wx => by rw [e59]; exact run_string_add_sum wx _ _ (by rw [← ByteArray.size_append, ← e59]; omega)
  obtain ⟨X62, e62⟩ : ∃ z : ByteArray, z = ⟨((36 :: Lib.itoa i.rs)).toArray⟩ := ⟨_, rfl⟩
  have K62 : Hid (∀ w', Calls Tryz.prog 58 #[.int .i64 i.rs] w' fun e w'' => e = .returned (.string X62) ∧ Below w'.heap.size w' w'') := fun w' => by rw [e62]; exact reg58 i.rs (by omega) (by omega) w'
  have s62 : X62.size ≤ 100 := by rw [e62]; show Array.size _ ≤ _; have := itoa_len i.rs; simp; omega
  obtain ⟨X63, e63⟩ : ∃ z : ByteArray, z = X59 ++ X62 := ⟨_, rfl⟩
  have s63 : X63.size ≤ 202 := by rw [e63, ByteArray.size_append]; omega
  have a63 : ∀ wx, (Op.stringOp .add X59 X62).run Tryz.prog wx = .ok (.string X63) wx := fun wx => by rw [e63]; exact run_string_add_sum wx _ _ (by rw [← ByteArray.size_append, ← e63]; omega)
  have HE : Hid (X63 = ⟨((((36 :: Lib.itoa i.rd) ++ [44, 32]) ++ (36 :: Lib.itoa i.rs))).toArray⟩) := by show _ = _; rw [e63, e62, e59, e58]; simp only [ba_app]
  rw [← HE.out]
  clear HE hbd e58 s58 e59 s59 e62 s62 e63 s63 b1 b2 b3 b4 b5
  go_enter Tryz.func25, Tryz.ntmps25
  go_wp2
  refine wp_region_slots (R := Ext) [⟨56, fun v _ => v = .pointer (some ⟨w.heap.size, 3, none⟩), fun _ _ _ _ h => h⟩, ⟨57, fun v _ => v = .int .i64 i.rd, fun _ _ _ _ h => h⟩, ⟨58, fun v _ => v = .string X58, fun _ _ _ _ h => h⟩, ⟨59, fun v _ => v = .string X59, fun _ _ _ _ h => h⟩, ⟨60, fun v _ => v = .pointer (some ⟨w.heap.size, 1, none⟩), fun _ _ _ _ h => h⟩, ⟨61, fun v _ => v = .int .i64 i.rs, fun _ _ _ _ h => h⟩, ⟨62, fun v _ => v = .string X62, fun _ _ _ _ h => h⟩, ⟨63, fun v _ => v = .string X63, fun _ _ _ _ h => h⟩, ⟨4, fun v _ => v = .string X63, fun _ _ _ _ h => h⟩] _ (by kernel_rfl) rfl (by kernel_rfl) (Below.drew (Below.refl _ _)) (fun _ _ _ h1 h2 => below_tr h1 h2) (fun QQ => ⟨?_, ?_, ?_, ?_, ?_, ?_, ?_, ?_, ?_, trivial⟩) (fun f wy hR hf => ?_)
  · intro A wx hR hout hdep K hK
    have h2 : A.tmps[2]?.getD undef = .pointer (some ⟨w.heap.size, 0, none⟩) := hout 2 (by kernel_rfl)
    refine if_yes (by kernel_rfl) ?_
    simp [go_sem, h2, a59, a63]
    exact hK.out _ _ (Below.refl _ _) rfl
  · intro A wx hR hout hdep K hK
    have h56 : A.tmps[56]?.getD undef = .pointer (some ⟨w.heap.size, 3, none⟩) := hdep 56 (by kernel_rfl)
    refine if_yes (by kernel_rfl) ?_
    have d0 := keep_cell hR d0
    have d1 := keep_cell hR d1
    have d2 := keep_cell hR d2
    have d3 := keep_cell hR d3
    have d4 := keep_cell hR d4
    have d5 := keep_cell hR d5
    simp [go_sem, h56, d0, d1, d2, d3, d4, d5, a59, a63]
    exact hK.out _ _ (Below.refl _ _) rfl
  · intro A wx hR hout hdep K hK
    have h57 : A.tmps[57]?.getD undef = .int .i64 i.rd := hdep 57 (by kernel_rfl)
    refine if_yes (by kernel_rfl) ?_
    simp [go_sem, h57, a59, a63]
    refine (K58.out wx).mono ?_
    rintro e wG ⟨rfl, hbG⟩
    exact hK.out _ _ hbG rfl
  · intro A wx hR hout hdep K hK
    have h58 : A.tmps[58]?.getD undef = .string X58 := hdep 58 (by kernel_rfl)
    refine if_yes (by kernel_rfl) ?_
    simp [go_sem, h58, a59, a63]
    exact hK.out _ _ (Below.refl _ _) rfl
  · intro A wx hR hout hdep K hK
    have h2 : A.tmps[2]?.getD undef = .pointer (some ⟨w.heap.size, 0, none⟩) := hout 2 (by kernel_rfl)
    refine if_yes (by kernel_rfl) ?_
    simp [go_sem, h2, a59, a63]
    exact hK.out _ _ (Below.refl _ _) rfl
  · intro A wx hR hout hdep K hK
    have h60 : A.tmps[60]?.getD undef = .pointer (some ⟨w.heap.size, 1, none⟩) := hdep 60 (by kernel_rfl)
    refine if_yes (by kernel_rfl) ?_
    have d0 := keep_cell hR d0
    have d1 := keep_cell hR d1
    have d2 := keep_cell hR d2
    have d3 := keep_cell hR d3
    have d4 := keep_cell hR d4
    have d5 := keep_cell hR d5
    simp [go_sem, h60, d0, d1, d2, d3, d4, d5, a59, a63]
    exact hK.out _ _ (Below.refl _ _) rfl
  · intro A wx hR hout hdep K hK
    have h61 : A.tmps[61]?.getD undef = .int .i64 i.rs := hdep 61 (by kernel_rfl)
    refine if_yes (by kernel_rfl) ?_
    simp [go_sem, h61, a59, a63]
    refine (K62.out wx).mono ?_
    rintro e wG ⟨rfl, hbG⟩
    exact hK.out _ _ hbG rfl
  · intro A wx hR hout hdep K hK
    have h59 : A.tmps[59]?.getD undef = .string X59 := hdep 59 (by kernel_rfl)
    have h62 : A.tmps[62]?.getD undef = .string X62 := hdep 62 (by kernel_rfl)
    refine if_yes (by kernel_rfl) ?_
    simp [go_sem, h59, h62, a59, a63]
    exact hK.out _ _ (Below.refl _ _) rfl
  · intro A wx hR hout hdep K hK
    have h63 : A.tmps[63]?.getD undef = .string X63 := hdep 63 (by kernel_rfl)
    refine if_yes (by kernel_rfl) ?_
    simp [go_sem, h63, a59, a63]
    exact hK.out _ _ (Below.refl _ _) rfl
  have hv : f 4 = .string X63 := hf 4 (by kernel_rfl)
  simp only [putSl, Act.put, List.setIfInBounds_toArray, List.set_cons_zero, List.set_cons_succ, hv]
  have HB2 : Hid (Below w.heap.size w wy) := below_tr HB.out hR
  clear hf hv hR
  go_wp2
  go_ret
  exact ⟨rfl, HB2.out⟩
set_option maxHeartbeats 2000000 in
theorem beh_dsd (i : In) (hbd : Bd i) (w : World) : Calls Tryz.prog 25 #[i.val, .string ⟨#[100, 115, 100]⟩] w fun e w' => e = .returned (.string ⟨((((36 :: Lib.itoa i.rd) ++ [44, 32]) ++ (36 :: Lib.itoa i.rs))).toArray⟩) ∧ Below w.heap.size w w' := by
  obtain ⟨W, hW, hb, hz, d0, d1, d2, d3, d4, d5⟩ := box6 w (.string i.name) (.int .i64 i.rs) (.int .i64 i.rt) (.int .i64 i.rd) (.int .i64 i.sa) (.int .u32 (i.imm : Int)) 24
  have b1 := hbd.rs; have b2 := hbd.rt; have b3 := hbd.rd; have b4 := hbd.sa; have b5 := hbd.imm
  have HB : Hid (Below w.heap.size w W) := hb
  clear hb hz
  unfold In.val
  obtain ⟨X58, e58⟩ : ∃ z : ByteArray, z = ⟨((36 :: Lib.itoa i.rd)).toArray⟩ := ⟨_, rfl⟩
  have K58 : Hid (∀ w', Calls Tryz.prog 58 #[.int .i64 i.rd] w' fun e w'' => e = .returned (.string X58) ∧ Below w'.heap.size w' w'') := fun w' => by rw [e58]; exact reg58 i.rd (by omega) (by omega) w'
  have s58 : X58.size ≤ 100 := by rw [e58]; show Array.size _ ≤ _; have := itoa_len i.rd; simp; omega
  obtain ⟨X59, e59⟩ : ∃ z : ByteArray, z = X58 ++ (⟨#[44, 32]⟩ : ByteArray) := ⟨_, rfl⟩
  have s59 : X59.size ≤ 102 := by rw [e59, ByteArray.size_append]; have : (⟨#[44, 32]⟩ : ByteArray).size = 2 := rfl; omega
  have a59 : ∀ wx, (Op.stringOp .add X58 (⟨#[44, 32]⟩ : ByteArray)).run Tryz.prog wx = .ok (.string X59) wx := fun wx => by rw [e59]; exact run_string_add_sum wx _ _ (by rw [← ByteArray.size_append, ← e59]; omega)
  obtain ⟨X62, e62⟩ : ∃ z : ByteArray, z = ⟨((36 :: Lib.itoa i.rs)).toArray⟩ := ⟨_, rfl⟩
  have K62 : Hid (∀ w', Calls Tryz.prog 58 #[.int .i64 i.rs] w' fun e w'' => e = .returned (.string X62) ∧ Below w'.heap.size w' w'') := fun w' => by rw [e62]; exact reg58 i.rs (by omega) (by omega) w'
  have s62 : X62.size ≤ 100 := by rw [e62]; show Array.size _ ≤ _; have := itoa_len i.rs; simp; omega
  obtain ⟨X63, e63⟩ : ∃ z : ByteArray, z = X59 ++ X62 := ⟨_, rfl⟩
  have s63 : X63.size ≤ 202 := by rw [e63, ByteArray.size_append]; omega
  have a63 : ∀ wx, (Op.stringOp .add X59 X62).run Tryz.prog wx = .ok (.string X63) wx := fun wx => by rw [e63]; exact run_string_add_sum wx _ _ (by rw [← ByteArray.size_append, ← e63]; omega)
  have HE : Hid (X63 = ⟨((((36 :: Lib.itoa i.rd) ++ [44, 32]) ++ (36 :: Lib.itoa i.rs))).toArray⟩) := by show _ = _; rw [e63, e62, e59, e58]; simp only [ba_app]
  rw [← HE.out]
  clear HE hbd e58 s58 e59 s59 e62 s62 e63 s63 b1 b2 b3 b4 b5
  go_enter Tryz.func25, Tryz.ntmps25
  go_wp2
  refine wp_region_slots (R := Ext) [⟨56, fun v _ => v = .pointer (some ⟨w.heap.size, 3, none⟩), fun _ _ _ _ h => h⟩, ⟨57, fun v _ => v = .int .i64 i.rd, fun _ _ _ _ h => h⟩, ⟨58, fun v _ => v = .string X58, fun _ _ _ _ h => h⟩, ⟨59, fun v _ => v = .string X59, fun _ _ _ _ h => h⟩, ⟨60, fun v _ => v = .pointer (some ⟨w.heap.size, 1, none⟩), fun _ _ _ _ h => h⟩, ⟨61, fun v _ => v = .int .i64 i.rs, fun _ _ _ _ h => h⟩, ⟨62, fun v _ => v = .string X62, fun _ _ _ _ h => h⟩, ⟨63, fun v _ => v = .string X63, fun _ _ _ _ h => h⟩, ⟨4, fun v _ => v = .string X63, fun _ _ _ _ h => h⟩] _ (by kernel_rfl) rfl (by kernel_rfl) (Below.drew (Below.refl _ _)) (fun _ _ _ h1 h2 => below_tr h1 h2) (fun QQ => ⟨?_, ?_, ?_, ?_, ?_, ?_, ?_, ?_, ?_, trivial⟩) (fun f wy hR hf => ?_)
  · intro A wx hR hout hdep K hK
    have h2 : A.tmps[2]?.getD undef = .pointer (some ⟨w.heap.size, 0, none⟩) := hout 2 (by kernel_rfl)
    refine if_yes (by kernel_rfl) ?_
    simp [go_sem, h2, a59, a63]
    exact hK.out _ _ (Below.refl _ _) rfl
  · intro A wx hR hout hdep K hK
    have h56 : A.tmps[56]?.getD undef = .pointer (some ⟨w.heap.size, 3, none⟩) := hdep 56 (by kernel_rfl)
    refine if_yes (by kernel_rfl) ?_
    have d0 := keep_cell hR d0
    have d1 := keep_cell hR d1
    have d2 := keep_cell hR d2
    have d3 := keep_cell hR d3
    have d4 := keep_cell hR d4
    have d5 := keep_cell hR d5
    simp [go_sem, h56, d0, d1, d2, d3, d4, d5, a59, a63]
    exact hK.out _ _ (Below.refl _ _) rfl
  · intro A wx hR hout hdep K hK
    have h57 : A.tmps[57]?.getD undef = .int .i64 i.rd := hdep 57 (by kernel_rfl)
    refine if_yes (by kernel_rfl) ?_
    simp [go_sem, h57, a59, a63]
    refine (K58.out wx).mono ?_
    rintro e wG ⟨rfl, hbG⟩
    exact hK.out _ _ hbG rfl
  · intro A wx hR hout hdep K hK
    have h58 : A.tmps[58]?.getD undef = .string X58 := hdep 58 (by kernel_rfl)
    refine if_yes (by kernel_rfl) ?_
    simp [go_sem, h58, a59, a63]
    exact hK.out _ _ (Below.refl _ _) rfl
  · intro A wx hR hout hdep K hK
    have h2 : A.tmps[2]?.getD undef = .pointer (some ⟨w.heap.size, 0, none⟩) := hout 2 (by kernel_rfl)
    refine if_yes (by kernel_rfl) ?_
    simp [go_sem, h2, a59, a63]
    exact hK.out _ _ (Below.refl _ _) rfl
  · intro A wx hR hout hdep K hK
    have h60 : A.tmps[60]?.getD undef = .pointer (some ⟨w.heap.size, 1, none⟩) := hdep 60 (by kernel_rfl)
    refine if_yes (by kernel_rfl) ?_
    have d0 := keep_cell hR d0
    have d1 := keep_cell hR d1
    have d2 := keep_cell hR d2
    have d3 := keep_cell hR d3
    have d4 := keep_cell hR d4
    have d5 := keep_cell hR d5
    simp [go_sem, h60, d0, d1, d2, d3, d4, d5, a59, a63]
    exact hK.out _ _ (Below.refl _ _) rfl
  · intro A wx hR hout hdep K hK
    have h61 : A.tmps[61]?.getD undef = .int .i64 i.rs := hdep 61 (by kernel_rfl)
    refine if_yes (by kernel_rfl) ?_
    simp [go_sem, h61, a59, a63]
    refine (K62.out wx).mono ?_
    rintro e wG ⟨rfl, hbG⟩
    exact hK.out _ _ hbG rfl
  · intro A wx hR hout hdep K hK
    have h59 : A.tmps[59]?.getD undef = .string X59 := hdep 59 (by kernel_rfl)
    have h62 : A.tmps[62]?.getD undef = .string X62 := hdep 62 (by kernel_rfl)
    refine if_yes (by kernel_rfl) ?_
    simp [go_sem, h59, h62, a59, a63]
    exact hK.out _ _ (Below.refl _ _) rfl
  · intro A wx hR hout hdep K hK
    have h63 : A.tmps[63]?.getD undef = .string X63 := hdep 63 (by kernel_rfl)
    refine if_yes (by kernel_rfl) ?_
    simp [go_sem, h63, a59, a63]
    exact hK.out _ _ (Below.refl _ _) rfl
  have hv : f 4 = .string X63 := hf 4 (by kernel_rfl)
  simp only [putSl, Act.put, List.setIfInBounds_toArray, List.set_cons_zero, List.set_cons_succ, hv]
  have HB2 : Hid (Below w.heap.size w wy) := below_tr HB.out hR
  clear hf hv hR
  go_wp2
  go_ret
  exact ⟨rfl, HB2.out⟩
set_option maxHeartbeats 2000000 in
theorem beh_dt (i : In) (hbd : Bd i) (w : World) : Calls Tryz.prog 25 #[i.val, .string ⟨#[100, 116]⟩] w fun e w' => e = .returned (.string ⟨((((36 :: Lib.itoa i.rd) ++ [44, 32]) ++ (36 :: Lib.itoa i.rt))).toArray⟩) ∧ Below w.heap.size w w' := by
  obtain ⟨W, hW, hb, hz, d0, d1, d2, d3, d4, d5⟩ := box6 w (.string i.name) (.int .i64 i.rs) (.int .i64 i.rt) (.int .i64 i.rd) (.int .i64 i.sa) (.int .u32 (i.imm : Int)) 24
  have b1 := hbd.rs; have b2 := hbd.rt; have b3 := hbd.rd; have b4 := hbd.sa; have b5 := hbd.imm
  have HB : Hid (Below w.heap.size w W) := hb
  clear hb hz
  unfold In.val
  obtain ⟨X68, e68⟩ : ∃ z : ByteArray, z = ⟨((36 :: Lib.itoa i.rd)).toArray⟩ := ⟨_, rfl⟩
  have K68 : Hid (∀ w', Calls Tryz.prog 58 #[.int .i64 i.rd] w' fun e w'' => e = .returned (.string X68) ∧ Below w'.heap.size w' w'') := fun w' => by rw [e68]; exact reg58 i.rd (by omega) (by omega) w'
  have s68 : X68.size ≤ 100 := by rw [e68]; show Array.size _ ≤ _; have := itoa_len i.rd; simp; omega
  obtain ⟨X69, e69⟩ : ∃ z : ByteArray, z = X68 ++ (⟨#[44, 32]⟩ : ByteArray) := ⟨_, rfl⟩
  have s69 : X69.size ≤ 102 := by rw [e69, ByteArray.size_append]; have : (⟨#[44, 32]⟩ : ByteArray).size = 2 := rfl; omega
  have a69 : ∀ wx, (Op.stringOp .add X68 (⟨#[44, 32]⟩ : ByteArray)).run Tryz.prog wx = .ok (.string X69) wx := fun wx => by rw [e69]; exact run_string_add_sum wx _ _ (by rw [← ByteArray.size_append, ← e69]; omega)
  obtain ⟨X72, e72⟩ : ∃ z : ByteArray, z = ⟨((36 :: Lib.itoa i.rt)).toArray⟩ := ⟨_, rfl⟩
  have K72 : Hid (∀ w', Calls Tryz.prog 58 #[.int .i64 i.rt] w' fun e w'' => e = .returned (.string X72) ∧ Below w'.heap.size w' w'') := fun w' => by rw [e72]; exact reg58 i.rt (by omega) (by omega) w'
  have s72 : X72.size ≤ 100 := by rw [e72]; show Array.size _ ≤ _; have := itoa_len i.rt; simp; omega
  obtain ⟨X73, e73⟩ : ∃ z : ByteArray, z = X69 ++ X72 := ⟨_, rfl⟩
  have s73 : X73.size ≤ 202 := by rw [e73, ByteArray.size_append]; omega
  have a73 : ∀ wx, (Op.stringOp .add X69 X72).run Tryz.prog wx = .ok (.string X73) wx := fun wx => by rw [e73]; exact run_string_add_sum wx _ _ (by rw [← ByteArray.size_append, ← e73]; omega)
  have HE : Hid (X73 = ⟨((((36 :: Lib.itoa i.rd) ++ [44, 32]) ++ (36 :: Lib.itoa i.rt))).toArray⟩) := by show _ = _; rw [e73, e72, e69, e68]; simp only [ba_app]
  rw [← HE.out]
  clear HE hbd e68 s68 e69 s69 e72 s72 e73 s73 b1 b2 b3 b4 b5
  go_enter Tryz.func25, Tryz.ntmps25
  go_wp2
  refine wp_region_slots (R := Ext) [⟨66, fun v _ => v = .pointer (some ⟨w.heap.size, 3, none⟩), fun _ _ _ _ h => h⟩, ⟨67, fun v _ => v = .int .i64 i.rd, fun _ _ _ _ h => h⟩, ⟨68, fun v _ => v = .string X68, fun _ _ _ _ h => h⟩, ⟨69, fun v _ => v = .string X69, fun _ _ _ _ h => h⟩, ⟨70, fun v _ => v = .pointer (some ⟨w.heap.size, 2, none⟩), fun _ _ _ _ h => h⟩, ⟨71, fun v _ => v = .int .i64 i.rt, fun _ _ _ _ h => h⟩, ⟨72, fun v _ => v = .string X72, fun _ _ _ _ h => h⟩, ⟨73, fun v _ => v = .string X73, fun _ _ _ _ h => h⟩, ⟨4, fun v _ => v = .string X73, fun _ _ _ _ h => h⟩] _ (by kernel_rfl) rfl (by kernel_rfl) (Below.drew (Below.refl _ _)) (fun _ _ _ h1 h2 => below_tr h1 h2) (fun QQ => ⟨?_, ?_, ?_, ?_, ?_, ?_, ?_, ?_, ?_, trivial⟩) (fun f wy hR hf => ?_)
  · intro A wx hR hout hdep K hK
    have h2 : A.tmps[2]?.getD undef = .pointer (some ⟨w.heap.size, 0, none⟩) := hout 2 (by kernel_rfl)
    refine if_yes (by kernel_rfl) ?_
    simp [go_sem, h2, a69, a73]
    exact hK.out _ _ (Below.refl _ _) rfl
  · intro A wx hR hout hdep K hK
    have h66 : A.tmps[66]?.getD undef = .pointer (some ⟨w.heap.size, 3, none⟩) := hdep 66 (by kernel_rfl)
    refine if_yes (by kernel_rfl) ?_
    have d0 := keep_cell hR d0
    have d1 := keep_cell hR d1
    have d2 := keep_cell hR d2
    have d3 := keep_cell hR d3
    have d4 := keep_cell hR d4
    have d5 := keep_cell hR d5
    simp [go_sem, h66, d0, d1, d2, d3, d4, d5, a69, a73]
    exact hK.out _ _ (Below.refl _ _) rfl
  · intro A wx hR hout hdep K hK
    have h67 : A.tmps[67]?.getD undef = .int .i64 i.rd := hdep 67 (by kernel_rfl)
    refine if_yes (by kernel_rfl) ?_
    simp [go_sem, h67, a69, a73]
    refine (K68.out wx).mono ?_
    rintro e wG ⟨rfl, hbG⟩
    exact hK.out _ _ hbG rfl
  · intro A wx hR hout hdep K hK
    have h68 : A.tmps[68]?.getD undef = .string X68 := hdep 68 (by kernel_rfl)
    refine if_yes (by kernel_rfl) ?_
    simp [go_sem, h68, a69, a73]
    exact hK.out _ _ (Below.refl _ _) rfl
  · intro A wx hR hout hdep K hK
    have h2 : A.tmps[2]?.getD undef = .pointer (some ⟨w.heap.size, 0, none⟩) := hout 2 (by kernel_rfl)
    refine if_yes (by kernel_rfl) ?_
    simp [go_sem, h2, a69, a73]
    exact hK.out _ _ (Below.refl _ _) rfl
  · intro A wx hR hout hdep K hK
    have h70 : A.tmps[70]?.getD undef = .pointer (some ⟨w.heap.size, 2, none⟩) := hdep 70 (by kernel_rfl)
    refine if_yes (by kernel_rfl) ?_
    have d0 := keep_cell hR d0
    have d1 := keep_cell hR d1
    have d2 := keep_cell hR d2
    have d3 := keep_cell hR d3
    have d4 := keep_cell hR d4
    have d5 := keep_cell hR d5
    simp [go_sem, h70, d0, d1, d2, d3, d4, d5, a69, a73]
    exact hK.out _ _ (Below.refl _ _) rfl
  · intro A wx hR hout hdep K hK
    have h71 : A.tmps[71]?.getD undef = .int .i64 i.rt := hdep 71 (by kernel_rfl)
    refine if_yes (by kernel_rfl) ?_
    simp [go_sem, h71, a69, a73]
    refine (K72.out wx).mono ?_
    rintro e wG ⟨rfl, hbG⟩
    exact hK.out _ _ hbG rfl
  · intro A wx hR hout hdep K hK
    have h69 : A.tmps[69]?.getD undef = .string X69 := hdep 69 (by kernel_rfl)
    have h72 : A.tmps[72]?.getD undef = .string X72 := hdep 72 (by kernel_rfl)
    refine if_yes (by kernel_rfl) ?_
    simp [go_sem, h69, h72, a69, a73]
    exact hK.out _ _ (Below.refl _ _) rfl
  · intro A wx hR hout hdep K hK
    have h73 : A.tmps[73]?.getD undef = .string X73 := hdep 73 (by kernel_rfl)
    refine if_yes (by kernel_rfl) ?_
    simp [go_sem, h73, a69, a73]
    exact hK.out _ _ (Below.refl _ _) rfl
  have hv : f 4 = .string X73 := hf 4 (by kernel_rfl)
  simp only [putSl, Act.put, List.setIfInBounds_toArray, List.set_cons_zero, List.set_cons_succ, hv]
  have HB2 : Hid (Below w.heap.size w wy) := below_tr HB.out hR
  clear hf hv hR
  go_wp2
  go_ret
  exact ⟨rfl, HB2.out⟩
set_option maxHeartbeats 2000000 in
theorem beh_td (i : In) (hbd : Bd i) (w : World) : Calls Tryz.prog 25 #[i.val, .string ⟨#[116, 100]⟩] w fun e w' => e = .returned (.string ⟨((((36 :: Lib.itoa i.rt) ++ [44, 32]) ++ (36 :: Lib.itoa i.rd))).toArray⟩) ∧ Below w.heap.size w w' := by
  obtain ⟨W, hW, hb, hz, d0, d1, d2, d3, d4, d5⟩ := box6 w (.string i.name) (.int .i64 i.rs) (.int .i64 i.rt) (.int .i64 i.rd) (.int .i64 i.sa) (.int .u32 (i.imm : Int)) 24
  have b1 := hbd.rs; have b2 := hbd.rt; have b3 := hbd.rd; have b4 := hbd.sa; have b5 := hbd.imm
  have HB : Hid (Below w.heap.size w W) := hb
  clear hb hz
  unfold In.val
  obtain ⟨X78, e78⟩ : ∃ z : ByteArray, z = ⟨((36 :: Lib.itoa i.rt)).toArray⟩ := ⟨_, rfl⟩
  have K78 : Hid (∀ w', Calls Tryz.prog 58 #[.int .i64 i.rt] w' fun e w'' => e = .returned (.string X78) ∧ Below w'.heap.size w' w'') := fun w' => by rw [e78]; exact reg58 i.rt (by omega) (by omega) w'
  have s78 : X78.size ≤ 100 := by rw [e78]; show Array.size _ ≤ _; have := itoa_len i.rt; simp; omega
  obtain ⟨X79, e79⟩ : ∃ z : ByteArray, z = X78 ++ (⟨#[44, 32]⟩ : ByteArray) := ⟨_, rfl⟩
  have s79 : X79.size ≤ 102 := by rw [e79, ByteArray.size_append]; have : (⟨#[44, 32]⟩ : ByteArray).size = 2 := rfl; omega
  have a79 : ∀ wx, (Op.stringOp .add X78 (⟨#[44, 32]⟩ : ByteArray)).run Tryz.prog wx = .ok (.string X79) wx := fun wx => by rw [e79]; exact run_string_add_sum wx _ _ (by rw [← ByteArray.size_append, ← e79]; omega)
  obtain ⟨X82, e82⟩ : ∃ z : ByteArray, z = ⟨((36 :: Lib.itoa i.rd)).toArray⟩ := ⟨_, rfl⟩
  have K82 : Hid (∀ w', Calls Tryz.prog 58 #[.int .i64 i.rd] w' fun e w'' => e = .returned (.string X82) ∧ Below w'.heap.size w' w'') := fun w' => by rw [e82]; exact reg58 i.rd (by omega) (by omega) w'
  have s82 : X82.size ≤ 100 := by rw [e82]; show Array.size _ ≤ _; have := itoa_len i.rd; simp; omega
  obtain ⟨X83, e83⟩ : ∃ z : ByteArray, z = X79 ++ X82 := ⟨_, rfl⟩
  have s83 : X83.size ≤ 202 := by rw [e83, ByteArray.size_append]; omega
  have a83 : ∀ wx, (Op.stringOp .add X79 X82).run Tryz.prog wx = .ok (.string X83) wx := fun wx => by rw [e83]; exact run_string_add_sum wx _ _ (by rw [← ByteArray.size_append, ← e83]; omega)
  have HE : Hid (X83 = ⟨((((36 :: Lib.itoa i.rt) ++ [44, 32]) ++ (36 :: Lib.itoa i.rd))).toArray⟩) := by show _ = _; rw [e83, e82, e79, e78]; simp only [ba_app]
  rw [← HE.out]
  clear HE hbd e78 s78 e79 s79 e82 s82 e83 s83 b1 b2 b3 b4 b5
  go_enter Tryz.func25, Tryz.ntmps25
  go_wp2
  refine wp_region_slots (R := Ext) [⟨76, fun v _ => v = .pointer (some ⟨w.heap.size, 2, none⟩), fun _ _ _ _ h => h⟩, ⟨77, fun v _ => v = .int .i64 i.rt, fun _ _ _ _ h => h⟩, ⟨78, fun v _ => v = .string X78, fun _ _ _ _ h => h⟩, ⟨79, fun v _ => v = .string X79, fun _ _ _ _ h => h⟩, ⟨80, fun v _ => v = .pointer (some ⟨w.heap.size, 3, none⟩), fun _ _ _ _ h => h⟩, ⟨81, fun v _ => v = .int .i64 i.rd, fun _ _ _ _ h => h⟩, ⟨82, fun v _ => v = .string X82, fun _ _ _ _ h => h⟩, ⟨83, fun v _ => v = .string X83, fun _ _ _ _ h => h⟩, ⟨4, fun v _ => v = .string X83, fun _ _ _ _ h => h⟩] _ (by kernel_rfl) rfl (by kernel_rfl) (Below.drew (Below.refl _ _)) (fun _ _ _ h1 h2 => below_tr h1 h2) (fun QQ => ⟨?_, ?_, ?_, ?_, ?_, ?_, ?_, ?_, ?_, trivial⟩) (fun f wy hR hf => ?_)
  · intro A wx hR hout hdep K hK
    have h2 : A.tmps[2]?.getD undef = .pointer (some ⟨w.heap.size, 0, none⟩) := hout 2 (by kernel_rfl)
    refine if_yes (by kernel_rfl) ?_
    simp [go_sem, h2, a79, a83]
    exact hK.out _ _ (Below.refl _ _) rfl
  · intro A wx hR hout hdep K hK
    have h76 : A.tmps[76]?.getD undef = .pointer (some ⟨w.heap.size, 2, none⟩) := hdep 76 (by kernel_rfl)
    refine if_yes (by kernel_rfl) ?_
    have d0 := keep_cell hR d0
    have d1 := keep_cell hR d1
    have d2 := keep_cell hR d2
    have d3 := keep_cell hR d3
    have d4 := keep_cell hR d4
    have d5 := keep_cell hR d5
    simp [go_sem, h76, d0, d1, d2, d3, d4, d5, a79, a83]
    exact hK.out _ _ (Below.refl _ _) rfl
  · intro A wx hR hout hdep K hK
    have h77 : A.tmps[77]?.getD undef = .int .i64 i.rt := hdep 77 (by kernel_rfl)
    refine if_yes (by kernel_rfl) ?_
    simp [go_sem, h77, a79, a83]
    refine (K78.out wx).mono ?_
    rintro e wG ⟨rfl, hbG⟩
    exact hK.out _ _ hbG rfl
  · intro A wx hR hout hdep K hK
    have h78 : A.tmps[78]?.getD undef = .string X78 := hdep 78 (by kernel_rfl)
    refine if_yes (by kernel_rfl) ?_
    simp [go_sem, h78, a79, a83]
    exact hK.out _ _ (Below.refl _ _) rfl
  · intro A wx hR hout hdep K hK
    have h2 : A.tmps[2]?.getD undef = .pointer (some ⟨w.heap.size, 0, none⟩) := hout 2 (by kernel_rfl)
    refine if_yes (by kernel_rfl) ?_
    simp [go_sem, h2, a79, a83]
    exact hK.out _ _ (Below.refl _ _) rfl
  · intro A wx hR hout hdep K hK
    have h80 : A.tmps[80]?.getD undef = .pointer (some ⟨w.heap.size, 3, none⟩) := hdep 80 (by kernel_rfl)
    refine if_yes (by kernel_rfl) ?_
    have d0 := keep_cell hR d0
    have d1 := keep_cell hR d1
    have d2 := keep_cell hR d2
    have d3 := keep_cell hR d3
    have d4 := keep_cell hR d4
    have d5 := keep_cell hR d5
    simp [go_sem, h80, d0, d1, d2, d3, d4, d5, a79, a83]
    exact hK.out _ _ (Below.refl _ _) rfl
  · intro A wx hR hout hdep K hK
    have h81 : A.tmps[81]?.getD undef = .int .i64 i.rd := hdep 81 (by kernel_rfl)
    refine if_yes (by kernel_rfl) ?_
    simp [go_sem, h81, a79, a83]
    refine (K82.out wx).mono ?_
    rintro e wG ⟨rfl, hbG⟩
    exact hK.out _ _ hbG rfl
  · intro A wx hR hout hdep K hK
    have h79 : A.tmps[79]?.getD undef = .string X79 := hdep 79 (by kernel_rfl)
    have h82 : A.tmps[82]?.getD undef = .string X82 := hdep 82 (by kernel_rfl)
    refine if_yes (by kernel_rfl) ?_
    simp [go_sem, h79, h82, a79, a83]
    exact hK.out _ _ (Below.refl _ _) rfl
  · intro A wx hR hout hdep K hK
    have h83 : A.tmps[83]?.getD undef = .string X83 := hdep 83 (by kernel_rfl)
    refine if_yes (by kernel_rfl) ?_
    simp [go_sem, h83, a79, a83]
    exact hK.out _ _ (Below.refl _ _) rfl
  have hv : f 4 = .string X83 := hf 4 (by kernel_rfl)
  simp only [putSl, Act.put, List.setIfInBounds_toArray, List.set_cons_zero, List.set_cons_succ, hv]
  have HB2 : Hid (Below w.heap.size w wy) := below_tr HB.out hR
  clear hf hv hR
  go_wp2
  go_ret
  exact ⟨rfl, HB2.out⟩
set_option maxHeartbeats 2000000 in
theorem beh_d (i : In) (hbd : Bd i) (w : World) : Calls Tryz.prog 25 #[i.val, .string ⟨#[100]⟩] w fun e w' => e = .returned (.string ⟨((36 :: Lib.itoa i.rd)).toArray⟩) ∧ Below w.heap.size w w' := by
  obtain ⟨W, hW, hb, hz, d0, d1, d2, d3, d4, d5⟩ := box6 w (.string i.name) (.int .i64 i.rs) (.int .i64 i.rt) (.int .i64 i.rd) (.int .i64 i.sa) (.int .u32 (i.imm : Int)) 24
  have b1 := hbd.rs; have b2 := hbd.rt; have b3 := hbd.rd; have b4 := hbd.sa; have b5 := hbd.imm
  have HB : Hid (Below w.heap.size w W) := hb
  clear hb hz
  unfold In.val
  have K := reg58 i.rd (by omega) (by omega) W
  generalize 36 :: Lib.itoa i.rd = R at K ⊢
  clear hbd
  go_enter Tryz.func25, Tryz.ntmps25
  go_wp2_with fail
  refine K.mono ?_
  rintro e w2 ⟨rfl, hb2⟩
  go_wp2
  go_ret
  exact ⟨rfl, below_tr HB.out hb2⟩
set_option maxHeartbeats 2000000 in
theorem beh_s (i : In) (hbd : Bd i) (w : World) : Calls Tryz.prog 25 #[i.val, .string ⟨#[115]⟩] w fun e w' => e = .returned (.string ⟨((36 :: Lib.itoa i.rs)).toArray⟩) ∧ Below w.heap.size w w' := by
  obtain ⟨W, hW, hb, hz, d0, d1, d2, d3, d4, d5⟩ := box6 w (.string i.name) (.int .i64 i.rs) (.int .i64 i.rt) (.int .i64 i.rd) (.int .i64 i.sa) (.int .u32 (i.imm : Int)) 24
  have b1 := hbd.rs; have b2 := hbd.rt; have b3 := hbd.rd; have b4 := hbd.sa; have b5 := hbd.imm
  have HB : Hid (Below w.heap.size w W) := hb
  clear hb hz
  unfold In.val
  have K := reg58 i.rs (by omega) (by omega) W
  generalize 36 :: Lib.itoa i.rs = R at K ⊢
  clear hbd
  go_enter Tryz.func25, Tryz.ntmps25
  go_wp2_with fail
  refine K.mono ?_
  rintro e w2 ⟨rfl, hb2⟩
  go_wp2
  go_ret
  exact ⟨rfl, below_tr HB.out hb2⟩
set_option maxHeartbeats 2000000 in
theorem beh_st (i : In) (hbd : Bd i) (w : World) : Calls Tryz.prog 25 #[i.val, .string ⟨#[115, 116]⟩] w fun e w' => e = .returned (.string ⟨((((36 :: Lib.itoa i.rs) ++ [44, 32]) ++ (36 :: Lib.itoa i.rt))).toArray⟩) ∧ Below w.heap.size w w' := by
  obtain ⟨W, hW, hb, hz, d0, d1, d2, d3, d4, d5⟩ := box6 w (.string i.name) (.int .i64 i.rs) (.int .i64 i.rt) (.int .i64 i.rd) (.int .i64 i.sa) (.int .u32 (i.imm : Int)) 24
  have b1 := hbd.rs; have b2 := hbd.rt; have b3 := hbd.rd; have b4 := hbd.sa; have b5 := hbd.imm
  have HB : Hid (Below w.heap.size w W) := hb
  clear hb hz
  unfold In.val
  obtain ⟨X98, e98⟩ : ∃ z : ByteArray, z = ⟨((36 :: Lib.itoa i.rs)).toArray⟩ := ⟨_, rfl⟩
  have K98 : Hid (∀ w', Calls Tryz.prog 58 #[.int .i64 i.rs] w' fun e w'' => e = .returned (.string X98) ∧ Below w'.heap.size w' w'') := fun w' => by rw [e98]; exact reg58 i.rs (by omega) (by omega) w'
  have s98 : X98.size ≤ 100 := by rw [e98]; show Array.size _ ≤ _; have := itoa_len i.rs; simp; omega
  obtain ⟨X99, e99⟩ : ∃ z : ByteArray, z = X98 ++ (⟨#[44, 32]⟩ : ByteArray) := ⟨_, rfl⟩
  have s99 : X99.size ≤ 102 := by rw [e99, ByteArray.size_append]; have : (⟨#[44, 32]⟩ : ByteArray).size = 2 := rfl; omega
  have a99 : ∀ wx, (Op.stringOp .add X98 (⟨#[44, 32]⟩ : ByteArray)).run Tryz.prog wx = .ok (.string X99) wx := fun wx => by rw [e99]; exact run_string_add_sum wx _ _ (by rw [← ByteArray.size_append, ← e99]; omega)
  obtain ⟨X102, e102⟩ : ∃ z : ByteArray, z = ⟨((36 :: Lib.itoa i.rt)).toArray⟩ := ⟨_, rfl⟩
  have K102 : Hid (∀ w', Calls Tryz.prog 58 #[.int .i64 i.rt] w' fun e w'' => e = .returned (.string X102) ∧ Below w'.heap.size w' w'') := fun w' => by rw [e102]; exact reg58 i.rt (by omega) (by omega) w'
  have s102 : X102.size ≤ 100 := by rw [e102]; show Array.size _ ≤ _; have := itoa_len i.rt; simp; omega
  obtain ⟨X103, e103⟩ : ∃ z : ByteArray, z = X99 ++ X102 := ⟨_, rfl⟩
  have s103 : X103.size ≤ 202 := by rw [e103, ByteArray.size_append]; omega
  have a103 : ∀ wx, (Op.stringOp .add X99 X102).run Tryz.prog wx = .ok (.string X103) wx := fun wx => by rw [e103]; exact run_string_add_sum wx _ _ (by rw [← ByteArray.size_append, ← e103]; omega)
  have HE : Hid (X103 = ⟨((((36 :: Lib.itoa i.rs) ++ [44, 32]) ++ (36 :: Lib.itoa i.rt))).toArray⟩) := by show _ = _; rw [e103, e102, e99, e98]; simp only [ba_app]
  rw [← HE.out]
  clear HE hbd e98 s98 e99 s99 e102 s102 e103 s103 b1 b2 b3 b4 b5
  go_enter Tryz.func25, Tryz.ntmps25
  go_wp2
  refine wp_region_slots (R := Ext) [⟨96, fun v _ => v = .pointer (some ⟨w.heap.size, 1, none⟩), fun _ _ _ _ h => h⟩, ⟨97, fun v _ => v = .int .i64 i.rs, fun _ _ _ _ h => h⟩, ⟨98, fun v _ => v = .string X98, fun _ _ _ _ h => h⟩, ⟨99, fun v _ => v = .string X99, fun _ _ _ _ h => h⟩, ⟨100, fun v _ => v = .pointer (some ⟨w.heap.size, 2, none⟩), fun _ _ _ _ h => h⟩, ⟨101, fun v _ => v = .int .i64 i.rt, fun _ _ _ _ h => h⟩, ⟨102, fun v _ => v = .string X102, fun _ _ _ _ h => h⟩, ⟨103, fun v _ => v = .string X103, fun _ _ _ _ h => h⟩, ⟨4, fun v _ => v = .string X103, fun _ _ _ _ h => h⟩] _ (by kernel_rfl) rfl (by kernel_rfl) (Below.drew (Below.refl _ _)) (fun _ _ _ h1 h2 => below_tr h1 h2) (fun QQ => ⟨?_, ?_, ?_, ?_, ?_, ?_, ?_, ?_, ?_, trivial⟩) (fun f wy hR hf => ?_)
  · intro A wx hR hout hdep K hK
    have h2 : A.tmps[2]?.getD undef = .pointer (some ⟨w.heap.size, 0, none⟩) := hout 2 (by kernel_rfl)
    refine if_yes (by kernel_rfl) ?_
    simp [go_sem, h2, a99, a103]
    exact hK.out _ _ (Below.refl _ _) rfl
  · intro A wx hR hout hdep K hK
    have h96 : A.tmps[96]?.getD undef = .pointer (some ⟨w.heap.size, 1, none⟩) := hdep 96 (by kernel_rfl)
    refine if_yes (by kernel_rfl) ?_
    have d0 := keep_cell hR d0
    have d1 := keep_cell hR d1
    have d2 := keep_cell hR d2
    have d3 := keep_cell hR d3
    have d4 := keep_cell hR d4
    have d5 := keep_cell hR d5
    simp [go_sem, h96, d0, d1, d2, d3, d4, d5, a99, a103]
    exact hK.out _ _ (Below.refl _ _) rfl
  · intro A wx hR hout hdep K hK
    have h97 : A.tmps[97]?.getD undef = .int .i64 i.rs := hdep 97 (by kernel_rfl)
    refine if_yes (by kernel_rfl) ?_
    simp [go_sem, h97, a99, a103]
    refine (K98.out wx).mono ?_
    rintro e wG ⟨rfl, hbG⟩
    exact hK.out _ _ hbG rfl
  · intro A wx hR hout hdep K hK
    have h98 : A.tmps[98]?.getD undef = .string X98 := hdep 98 (by kernel_rfl)
    refine if_yes (by kernel_rfl) ?_
    simp [go_sem, h98, a99, a103]
    exact hK.out _ _ (Below.refl _ _) rfl
  · intro A wx hR hout hdep K hK
    have h2 : A.tmps[2]?.getD undef = .pointer (some ⟨w.heap.size, 0, none⟩) := hout 2 (by kernel_rfl)
    refine if_yes (by kernel_rfl) ?_
    simp [go_sem, h2, a99, a103]
    exact hK.out _ _ (Below.refl _ _) rfl
  · intro A wx hR hout hdep K hK
    have h100 : A.tmps[100]?.getD undef = .pointer (some ⟨w.heap.size, 2, none⟩) := hdep 100 (by kernel_rfl)
    refine if_yes (by kernel_rfl) ?_
    have d0 := keep_cell hR d0
    have d1 := keep_cell hR d1
    have d2 := keep_cell hR d2
    have d3 := keep_cell hR d3
    have d4 := keep_cell hR d4
    have d5 := keep_cell hR d5
    simp [go_sem, h100, d0, d1, d2, d3, d4, d5, a99, a103]
    exact hK.out _ _ (Below.refl _ _) rfl
  · intro A wx hR hout hdep K hK
    have h101 : A.tmps[101]?.getD undef = .int .i64 i.rt := hdep 101 (by kernel_rfl)
    refine if_yes (by kernel_rfl) ?_
    simp [go_sem, h101, a99, a103]
    refine (K102.out wx).mono ?_
    rintro e wG ⟨rfl, hbG⟩
    exact hK.out _ _ hbG rfl
  · intro A wx hR hout hdep K hK
    have h99 : A.tmps[99]?.getD undef = .string X99 := hdep 99 (by kernel_rfl)
    have h102 : A.tmps[102]?.getD undef = .string X102 := hdep 102 (by kernel_rfl)
    refine if_yes (by kernel_rfl) ?_
    simp [go_sem, h99, h102, a99, a103]
    exact hK.out _ _ (Below.refl _ _) rfl
  · intro A wx hR hout hdep K hK
    have h103 : A.tmps[103]?.getD undef = .string X103 := hdep 103 (by kernel_rfl)
    refine if_yes (by kernel_rfl) ?_
    simp [go_sem, h103, a99, a103]
    exact hK.out _ _ (Below.refl _ _) rfl
  have hv : f 4 = .string X103 := hf 4 (by kernel_rfl)
  simp only [putSl, Act.put, List.setIfInBounds_toArray, List.set_cons_zero, List.set_cons_succ, hv]
  have HB2 : Hid (Below w.heap.size w wy) := below_tr HB.out hR
  clear hf hv hR
  go_wp2
  go_ret
  exact ⟨rfl, HB2.out⟩
set_option maxHeartbeats 2000000 in
theorem beh_c (i : In) (hbd : Bd i) (w : World) : Calls Tryz.prog 25 #[i.val, .string ⟨#[99]⟩] w fun e w' => e = .returned (.string ⟨(if i.imm = 0 then [] else Lib.itoa (i.imm : Int)).toArray⟩) ∧ Below w.heap.size w w' := by
  obtain ⟨W, hW, hb, hz, d0, d1, d2, d3, d4, d5⟩ := box6 w (.string i.name) (.int .i64 i.rs) (.int .i64 i.rt) (.int .i64 i.rd) (.int .i64 i.sa) (.int .u32 (i.imm : Int)) 24
  have b1 := hbd.rs; have b2 := hbd.rt; have b3 := hbd.rd; have b4 := hbd.sa; have b5 := hbd.imm
  have HB : Hid (Below w.heap.size w W) := hb
  clear hb hz
  unfold In.val
  by_cases h0 : i.imm = 0
  · rw [if_pos h0]
    have hi : ((i.imm : Int) == 0) = true := by simpa using h0
    clear hbd h0
    go_enter Tryz.func25, Tryz.ntmps25
    go_wp2
    go_ret
    exact ⟨rfl, HB.out⟩
  · rw [if_neg h0]
    have hi : ((i.imm : Int) == 0) = false := by simpa using h0
    have K := digits59 (i.imm : Int) (by omega) (by omega) W
    generalize Lib.itoa (i.imm : Int) = R at K ⊢
    clear hbd h0
    go_enter Tryz.func25, Tryz.ntmps25
    go_wp2_with fail
    refine K.mono ?_
    rintro e w2 ⟨rfl, hb2⟩
    go_wp2
    go_ret
    exact ⟨rfl, below_tr HB.out hb2⟩
set_option maxHeartbeats 2000000 in
theorem beh_j (i : In) (hbd : Bd i) (w : World) : Calls Tryz.prog 25 #[i.val, .string ⟨#[106]⟩] w fun e w' => e = .returned (.string ⟨(Lib.itoa (i.imm : Int)).toArray⟩) ∧ Below w.heap.size w w' := by
  obtain ⟨W, hW, hb, hz, d0, d1, d2, d3, d4, d5⟩ := box6 w (.string i.name) (.int .i64 i.rs) (.int .i64 i.rt) (.int .i64 i.rd) (.int .i64 i.sa) (.int .u32 (i.imm : Int)) 24
  have b1 := hbd.rs; have b2 := hbd.rt; have b3 := hbd.rd; have b4 := hbd.sa; have b5 := hbd.imm
  have HB : Hid (Below w.heap.size w W) := hb
  clear hb hz
  unfold In.val
  have K := digits59 (i.imm : Int) (by omega) (by omega) W
  generalize Lib.itoa (i.imm : Int) = R at K ⊢
  clear hbd
  go_enter Tryz.func25, Tryz.ntmps25
  go_wp2_with fail
  refine K.mono ?_
  rintro e w2 ⟨rfl, hb2⟩
  go_wp2
  go_ret
  exact ⟨rfl, below_tr HB.out hb2⟩
set_option maxHeartbeats 2000000 in
theorem beh_so (i : In) (hbd : Bd i) (w : World) : Calls Tryz.prog 25 #[i.val, .string ⟨#[115, 111]⟩] w fun e w' => e = .returned (.string ⟨((((36 :: Lib.itoa i.rs) ++ [44, 32]) ++ immL i)).toArray⟩) ∧ Below w.heap.size w w' := by
  obtain ⟨W, hW, hb, hz, d0, d1, d2, d3, d4, d5⟩ := box6 w (.string i.name) (.int .i64 i.rs) (.int .i64 i.rt) (.int .i64 i.rd) (.int .i64 i.sa) (.int .u32 (i.imm : Int)) 24
  have b1 := hbd.rs; have b2 := hbd.rt; have b3 := hbd.rd; have b4 := hbd.sa; have b5 := hbd.imm
  have HB : Hid (Below w.heap.size w W) := hb
  clear hb hz
  unfold In.val
  obtain ⟨X123, e123⟩ : ∃ z : ByteArray, z = ⟨((36 :: Lib.itoa i.rs)).toArray⟩ := ⟨_, rfl⟩
  have K123 : Hid (∀ w', Calls Tryz.prog 58 #[.int .i64 i.rs] w' fun e w'' => e = .returned (.string X123) ∧ Below w'.heap.size w' w'') := fun w' => by rw [e123]; exact reg58 i.rs (by omega) (by omega) w'
  have s123 : X123.size ≤ 100 := by rw [e123]; show Array.size _ ≤ _; have := itoa_len i.rs; simp; omega
  obtain ⟨X124, e124⟩ : ∃ z : ByteArray, z = X123 ++ (⟨#[44, 32]⟩ : ByteArray) := ⟨_, rfl⟩
  have s124 : X124.size ≤ 102 := by rw [e124, ByteArray.size_append]; have : (⟨#[44, 32]⟩ : ByteArray).size = 2 := rfl; omega
  have a124 : ∀ wx, (Op.stringOp .add X123 (⟨#[44, 32]⟩ : ByteArray)).run Tryz.prog wx = .ok (.string X124) wx := fun wx => by rw [e124]; exact run_string_add_sum wx _ _ (by rw [← ByteArray.size_append, ← e124]; omega)
  obtain ⟨X126, e126⟩ : ∃ z : ByteArray, z = ⟨(immL i).toArray⟩ := ⟨_, rfl⟩
  have K126 : Hid (∀ w', Calls Tryz.prog 60 #[.agg #[.string i.name, .int .i64 i.rs, .int .i64 i.rt, .int .i64 i.rd, .int .i64 i.sa, .int .u32 (i.imm : Int)]] w' fun e w'' => e = .returned (.string X126) ∧ Below w'.heap.size w' w'') := fun w' => by rw [e126]; exact imm60 i hbd w'
  have s126 : X126.size ≤ 70000000 := by rw [e126]; show Array.size _ ≤ _; have := imm_len i b5; simp; omega
  obtain ⟨X127, e127⟩ : ∃ z : ByteArray, z = X124 ++ X126 := ⟨_, rfl⟩
  have s127 : X127.size ≤ 70000102 := by rw [e127, ByteArray.size_append]; omega
  have a127 : ∀ wx, (Op.stringOp .add X124 X126).run Tryz.prog wx = .ok (.string X127) wx := fun wx => by rw [e127]; exact run_string_add_sum wx _ _ (by rw [← ByteArray.size_append, ← e127]; omega)
  have HE : Hid (X127 = ⟨((((36 :: Lib.itoa i.rs) ++ [44, 32]) ++ immL i)).toArray⟩) := by show _ = _; rw [e127, e126, e124, e123]; simp only [ba_app]
  rw [← HE.out]
  clear HE hbd e123 s123 e124 s124 e126 s126 e127 s127 b1 b2 b3 b4 b5
  go_enter Tryz.func25, Tryz.ntmps25
  go_wp2
  refine wp_region_slots (R := Ext) [⟨121, fun v _ => v = .pointer (some ⟨w.heap.size, 1, none⟩), fun _ _ _ _ h => h⟩, ⟨122, fun v _ => v = .int .i64 i.rs, fun _ _ _ _ h => h⟩, ⟨123, fun v _ => v = .string X123, fun _ _ _ _ h => h⟩, ⟨124, fun v _ => v = .string X124, fun _ _ _ _ h => h⟩, ⟨125, fun v _ => v = .agg #[.string i.name, .int .i64 i.rs, .int .i64 i.rt, .int .i64 i.rd, .int .i64 i.sa, .int .u32 (i.imm : Int)], fun _ _ _ _ h => h⟩, ⟨126, fun v _ => v = .string X126, fun _ _ _ _ h => h⟩, ⟨127, fun v _ => v = .string X127, fun _ _ _ _ h => h⟩, ⟨4, fun v _ => v = .string X127, fun _ _ _ _ h => h⟩] _ (by kernel_rfl) rfl (by kernel_rfl) (Below.drew (Below.refl _ _)) (fun _ _ _ h1 h2 => below_tr h1 h2) (fun QQ => ⟨?_, ?_, ?_, ?_, ?_, ?_, ?_, ?_, trivial⟩) (fun f wy hR hf => ?_)
  · intro A wx hR hout hdep K hK
    have h2 : A.tmps[2]?.getD undef = .pointer (some ⟨w.heap.size, 0, none⟩) := hout 2 (by kernel_rfl)
    refine if_yes (by kernel_rfl) ?_
    simp [go_sem, h2, a124, a127]
    exact hK.out _ _ (Below.refl _ _) rfl
  · intro A wx hR hout hdep K hK
    have h121 : A.tmps[121]?.getD undef = .pointer (some ⟨w.heap.size, 1, none⟩) := hdep 121 (by kernel_rfl)
    refine if_yes (by kernel_rfl) ?_
    have d0 := keep_cell hR d0
    have d1 := keep_cell hR d1
    have d2 := keep_cell hR d2
    have d3 := keep_cell hR d3
    have d4 := keep_cell hR d4
    have d5 := keep_cell hR d5
    simp [go_sem, h121, d0, d1, d2, d3, d4, d5, a124, a127]
    exact hK.out _ _ (Below.refl _ _) rfl
  · intro A wx hR hout hdep K hK
    have h122 : A.tmps[122]?.getD undef = .int .i64 i.rs := hdep 122 (by kernel_rfl)
    refine if_yes (by kernel_rfl) ?_
    simp [go_sem, h122, a124, a127]
    refine (K123.out wx).mono ?_
    rintro e wG ⟨rfl, hbG⟩
    exact hK.out _ _ hbG rfl
  · intro A wx hR hout hdep K hK
    have h123 : A.tmps[123]?.getD undef = .string X123 := hdep 123 (by kernel_rfl)
    refine if_yes (by kernel_rfl) ?_
    simp [go_sem, h123, a124, a127]
    exact hK.out _ _ (Below.refl _ _) rfl
  · intro A wx hR hout hdep K hK
    have h2 : A.tmps[2]?.getD undef = .pointer (some ⟨w.heap.size, 0, none⟩) := hout 2 (by kernel_rfl)
    refine if_yes (by kernel_rfl) ?_
    have d0 := keep_cell hR d0
    have d1 := keep_cell hR d1
    have d2 := keep_cell hR d2
    have d3 := keep_cell hR d3
    have d4 := keep_cell hR d4
    have d5 := keep_cell hR d5
    simp [go_sem, h2, d0, d1, d2, d3, d4, d5, a124, a127]
    exact hK.out _ _ (Below.refl _ _) rfl
  · intro A wx hR hout hdep K hK
    have h125 : A.tmps[125]?.getD undef = .agg #[.string i.name, .int .i64 i.rs, .int .i64 i.rt, .int .i64 i.rd, .int .i64 i.sa, .int .u32 (i.imm : Int)] := hdep 125 (by kernel_rfl)
    refine if_yes (by kernel_rfl) ?_
    simp [go_sem, h125, a124, a127]
    refine (K126.out wx).mono ?_
    rintro e wG ⟨rfl, hbG⟩
    exact hK.out _ _ hbG rfl
  · intro A wx hR hout hdep K hK
    have h124 : A.tmps[124]?.getD undef = .string X124 := hdep 124 (by kernel_rfl)
    have h126 : A.tmps[126]?.getD undef = .string X126 := hdep 126 (by kernel_rfl)
    refine if_yes (by kernel_rfl) ?_
    simp [go_sem, h124, h126, a124, a127]
    exact hK.out _ _ (Below.refl _ _) rfl
  · intro A wx hR hout hdep K hK
    have h127 : A.tmps[127]?.getD undef = .string X127 := hdep 127 (by kernel_rfl)
    refine if_yes (by kernel_rfl) ?_
    simp [go_sem, h127, a124, a127]
    exact hK.out _ _ (Below.refl _ _) rfl
  have hv : f 4 = .string X127 := hf 4 (by kernel_rfl)
  simp only [putSl, Act.put, List.setIfInBounds_toArray, List.set_cons_zero, List.set_cons_succ, hv]
  have HB2 : Hid (Below w.heap.size w wy) := below_tr HB.out hR
  clear hf hv hR
  go_wp2
  go_ret
  exact ⟨rfl, HB2.out⟩
set_option maxHeartbeats 2000000 in
theorem beh_sto (i : In) (hbd : Bd i) (w : World) : Calls Tryz.prog 25 #[i.val, .string ⟨#[115, 116, 111]⟩] w fun e w' => e = .returned (.string ⟨((((((36 :: Lib.itoa i.rs) ++ [44, 32]) ++ (36 :: Lib.itoa i.rt)) ++ [44, 32]) ++ immL i)).toArray⟩) ∧ Below w.heap.size w w' := by
  obtain ⟨W, hW, hb, hz, d0, d1, d2, d3, d4, d5⟩ := box6 w (.string i.name) (.int .i64 i.rs) (.int .i64 i.rt) (.int .i64 i.rd) (.int .i64 i.sa) (.int .u32 (i.imm : Int)) 24
  have b1 := hbd.rs; have b2 := hbd.rt; have b3 := hbd.rd; have b4 := hbd.sa; have b5 := hbd.imm
  have HB : Hid (Below w.heap.size w W) := hb
  clear hb hz
  unfold In.val
  obtain ⟨X132, e132⟩ : ∃ z : ByteArray, z = ⟨((36 :: Lib.itoa i.rs)).toArray⟩ := ⟨_, rfl⟩
  have K132 : Hid (∀ w', Calls Tryz.prog 58 #[.int .i64 i.rs] w' fun e w'' => e = .returned (.string X132) ∧ Below w'.heap.size w' w'') := fun w' => by rw [e132]; exact reg58 i.rs (by omega) (by omega) w'
  have s132 : X132.size ≤ 100 := by rw [e132]; show Array.size _ ≤ _; have := itoa_len i.rs; simp; omega
  obtain ⟨X133, e133⟩ : ∃ z : ByteArray, z = X132 ++ (⟨#[44, 32]⟩ : ByteArray) := ⟨_, rfl⟩
  have s133 : X133.size ≤ 102 := by rw [e133, ByteArray.size_append]; have : (⟨#[44, 32]⟩ : ByteArray).size = 2 := rfl; omega
  have a133 : ∀ wx, (Op.stringOp .add X132 (⟨#[44, 32]⟩ : ByteArray)).run Tryz.prog wx = .ok (.string X133) wx := fun wx => by rw [e133]; exact run_string_add_sum wx _ _ (by rw [← ByteArray.size_append, ← e133]; omega)
  obtain ⟨X136, e136⟩ : ∃ z : ByteArray, z = ⟨((36 :: Lib.itoa i.rt)).toArray⟩ := ⟨_, rfl⟩
  have K136 : Hid (∀ w', Calls Tryz.prog 58 #[.int .i64 i.rt] w' fun e w'' => e = .returned (.string X136) ∧ Below w'.heap.size w' w'') := fun w' => by rw [e136]; exact reg58 i.rt (by omega) (by omega) w'
  have s136 : X136.size ≤ 100 := by rw [e136]; show Array.size _ ≤ _; have := itoa_len i.rt; simp; omega
  obtain ⟨X137, e137⟩ : ∃ z : ByteArray, z = X133 ++ X136 := ⟨_, rfl⟩
  have s137 : X137.size ≤ 202 := by rw [e137, ByteArray.size_append]; omega
  have a137 : ∀ wx, (Op.stringOp .add X133 X136).run Tryz.prog wx = .ok (.string X137) wx := fun wx => by rw [e137]; exact run_string_add_sum wx _ _ (by rw [← ByteArray.size_append, ← e137]; omega)
  obtain ⟨X138, e138⟩ : ∃ z : ByteArray, z = X137 ++ (⟨#[44, 32]⟩ : ByteArray) := ⟨_, rfl⟩
  have s138 : X138.size ≤ 204 := by rw [e138, ByteArray.size_append]; have : (⟨#[44, 32]⟩ : ByteArray).size = 2 := rfl; omega
  have a138 : ∀ wx, (Op.stringOp .add X137 (⟨#[44, 32]⟩ : ByteArray)).run Tryz.prog wx = .ok (.string X138) wx := fun wx => by rw [e138]; exact run_string_add_sum wx _ _ (by rw [← ByteArray.size_append, ← e138]; omega)
  obtain ⟨X140, e140⟩ : ∃ z : ByteArray, z = ⟨(immL i).toArray⟩ := ⟨_, rfl⟩
  have K140 : Hid (∀ w', Calls Tryz.prog 60 #[.agg #[.string i.name, .int .i64 i.rs, .int .i64 i.rt, .int .i64 i.rd, .int .i64 i.sa, .int .u32 (i.imm : Int)]] w' fun e w'' => e = .returned (.string X140) ∧ Below w'.heap.size w' w'') := fun w' => by rw [e140]; exact imm60 i hbd w'
  have s140 : X140.size ≤ 70000000 := by rw [e140]; show Array.size _ ≤ _; have := imm_len i b5; simp; omega
  obtain ⟨X141, e141⟩ : ∃ z : ByteArray, z = X138 ++ X140 := ⟨_, rfl⟩
  have s141 : X141.size ≤ 70000204 := by rw [e141, ByteArray.size_append]; omega
  have a141 : ∀ wx, (Op.stringOp .add X138 X140).run Tryz.prog wx = .ok (.string X141) wx := fun wx => by rw [e141]; exact run_string_add_sum wx _ _ (by rw [← ByteArray.size_append, ← e141]; omega)
  have HE : Hid (X141 = ⟨((((((36 :: Lib.itoa i.rs) ++ [44, 32]) ++ (36 :: Lib.itoa i.rt)) ++ [44, 32]) ++ immL i)).toArray⟩) := by show _ = _; rw [e141, e140, e138, e137, e136, e133, e132]; simp only [ba_app]
  rw [← HE.out]
  clear HE hbd e132 s132 e133 s133 e136 s136 e137 s137 e138 s138 e140 s140 e141 s141 b1 b2 b3 b4 b5
  go_enter Tryz.func25, Tryz.ntmps25
  go_wp2
  refine wp_region_slots (R := Ext) [⟨130, fun v _ => v = .pointer (some ⟨w.heap.size, 1, none⟩), fun _ _ _ _ h => h⟩, ⟨131, fun v _ => v = .int .i64 i.rs, fun _ _ _ _ h => h⟩, ⟨132, fun v _ => v = .string X132, fun _ _ _ _ h => h⟩, ⟨133, fun v _ => v = .string X133, fun _ _ _ _ h => h⟩, ⟨134, fun v _ => v = .pointer (some ⟨w.heap.size, 2, none⟩), fun _ _ _ _ h => h⟩, ⟨135, fun v _ => v = .int .i64 i.rt, fun _ _ _ _ h => h⟩, ⟨136, fun v _ => v = .string X136, fun _ _ _ _ h => h⟩, ⟨137, fun v _ => v = .string X137, fun _ _ _ _ h => h⟩, ⟨138, fun v _ => v = .string X138, fun _ _ _ _ h => h⟩, ⟨139, fun v _ => v = .agg #[.string i.name, .int .i64 i.rs, .int .i64 i.rt, .int .i64 i.rd, .int .i64 i.sa, .int .u32 (i.imm : Int)], fun _ _ _ _ h => h⟩, ⟨140, fun v _ => v = .string X140, fun _ _ _ _ h => h⟩, ⟨141, fun v _ => v = .string X141, fun _ _ _ _ h => h⟩, ⟨4, fun v _ => v = .string X141, fun _ _ _ _ h => h⟩] _ (by kernel_rfl) rfl (by kernel_rfl) (Below.drew (Below.refl _ _)) (fun _ _ _ h1 h2 => below_tr h1 h2) (fun QQ => ⟨?_, ?_, ?_, ?_, ?_, ?_, ?_, ?_, ?_, ?_, ?_, ?_, ?_, trivial⟩) (fun f wy hR hf => ?_)
  · intro A wx hR hout hdep K hK
    have h2 : A.tmps[2]?.getD undef = .pointer (some ⟨w.heap.size, 0, none⟩) := hout 2 (by kernel_rfl)
    refine if_yes (by kernel_rfl) ?_
    simp [go_sem, h2, a133, a137, a138, a141]
    exact hK.out _ _ (Below.refl _ _) rfl
  · intro A wx hR hout hdep K hK
    have h130 : A.tmps[130]?.getD undef = .pointer (some ⟨w.heap.size, 1, none⟩) := hdep 130 (by kernel_rfl)
    refine if_yes (by kernel_rfl) ?_
    have d0 := keep_cell hR d0
    have d1 := keep_cell hR d1
    have d2 := keep_cell hR d2
    have d3 := keep_cell hR d3
    have d4 := keep_cell hR d4
    have d5 := keep_cell hR d5
    simp [go_sem, h130, d0, d1, d2, d3, d4, d5, a133, a137, a138, a141]
    exact hK.out _ _ (Below.refl _ _) rfl
  · intro A wx hR hout hdep K hK
    have h131 : A.tmps[131]?.getD undef = .int .i64 i.rs := hdep 131 (by kernel_rfl)
    refine if_yes (by kernel_rfl) ?_
    simp [go_sem, h131, a133, a137, a138, a141]
    refine (K132.out wx).mono ?_
    rintro e wG ⟨rfl, hbG⟩
    exact hK.out _ _ hbG rfl
  · intro A wx hR hout hdep K hK
    have h132 : A.tmps[132]?.getD undef = .string X132 := hdep 132 (by kernel_rfl)
    refine if_yes (by kernel_rfl) ?_
    simp [go_sem, h132, a133, a137, a138, a141]
    exact hK.out _ _ (Below.refl _ _) rfl
  · intro A wx hR hout hdep K hK
    have h2 : A.tmps[2]?.getD undef = .pointer (some ⟨w.heap.size, 0, none⟩) := hout 2 (by kernel_rfl)
    refine if_yes (by kernel_rfl) ?_
    simp [go_sem, h2, a133, a137, a138, a141]
    exact hK.out _ _ (Below.refl _ _) rfl
  · intro A wx hR hout hdep K hK
    have h134 : A.tmps[134]?.getD undef = .pointer (some ⟨w.heap.size, 2, none⟩) := hdep 134 (by kernel_rfl)
    refine if_yes (by kernel_rfl) ?_
    have d0 := keep_cell hR d0
    have d1 := keep_cell hR d1
    have d2 := keep_cell hR d2
    have d3 := keep_cell hR d3
    have d4 := keep_cell hR d4
    have d5 := keep_cell hR d5
    simp [go_sem, h134, d0, d1, d2, d3, d4, d5, a133, a137, a138, a141]
    exact hK.out _ _ (Below.refl _ _) rfl
  · intro A wx hR hout hdep K hK
    have h135 : A.tmps[135]?.getD undef = .int .i64 i.rt := hdep 135 (by kernel_rfl)
    refine if_yes (by kernel_rfl) ?_
    simp [go_sem, h135, a133, a137, a138, a141]
    refine (K136.out wx).mono ?_
    rintro e wG ⟨rfl, hbG⟩
    exact hK.out _ _ hbG rfl
  · intro A wx hR hout hdep K hK
    have h133 : A.tmps[133]?.getD undef = .string X133 := hdep 133 (by kernel_rfl)
    have h136 : A.tmps[136]?.getD undef = .string X136 := hdep 136 (by kernel_rfl)
    refine if_yes (by kernel_rfl) ?_
    simp [go_sem, h133, h136, a133, a137, a138, a141]
    exact hK.out _ _ (Below.refl _ _) rfl
  · intro A wx hR hout hdep K hK
    have h137 : A.tmps[137]?.getD undef = .string X137 := hdep 137 (by kernel_rfl)
    refine if_yes (by kernel_rfl) ?_
    simp [go_sem, h137, a133, a137, a138, a141]
    exact hK.out _ _ (Below.refl _ _) rfl
  · intro A wx hR hout hdep K hK
    have h2 : A.tmps[2]?.getD undef = .pointer (some ⟨w.heap.size, 0, none⟩) := hout 2 (by kernel_rfl)
    refine if_yes (by kernel_rfl) ?_
    have d0 := keep_cell hR d0
    have d1 := keep_cell hR d1
    have d2 := keep_cell hR d2
    have d3 := keep_cell hR d3
    have d4 := keep_cell hR d4
    have d5 := keep_cell hR d5
    simp [go_sem, h2, d0, d1, d2, d3, d4, d5, a133, a137, a138, a141]
    exact hK.out _ _ (Below.refl _ _) rfl
  · intro A wx hR hout hdep K hK
    have h139 : A.tmps[139]?.getD undef = .agg #[.string i.name, .int .i64 i.rs, .int .i64 i.rt, .int .i64 i.rd, .int .i64 i.sa, .int .u32 (i.imm : Int)] := hdep 139 (by kernel_rfl)
    refine if_yes (by kernel_rfl) ?_
    simp [go_sem, h139, a133, a137, a138, a141]
    refine (K140.out wx).mono ?_
    rintro e wG ⟨rfl, hbG⟩
    exact hK.out _ _ hbG rfl
  · intro A wx hR hout hdep K hK
    have h138 : A.tmps[138]?.getD undef = .string X138 := hdep 138 (by kernel_rfl)
    have h140 : A.tmps[140]?.getD undef = .string X140 := hdep 140 (by kernel_rfl)
    refine if_yes (by kernel_rfl) ?_
    simp [go_sem, h138, h140, a133, a137, a138, a141]
    exact hK.out _ _ (Below.refl _ _) rfl
  · intro A wx hR hout hdep K hK
    have h141 : A.tmps[141]?.getD undef = .string X141 := hdep 141 (by kernel_rfl)
    refine if_yes (by kernel_rfl) ?_
    simp [go_sem, h141, a133, a137, a138, a141]
    exact hK.out _ _ (Below.refl _ _) rfl
  have hv : f 4 = .string X141 := hf 4 (by kernel_rfl)
  simp only [putSl, Act.put, List.setIfInBounds_toArray, List.set_cons_zero, List.set_cons_succ, hv]
  have HB2 : Hid (Below w.heap.size w wy) := below_tr HB.out hR
  clear hf hv hR
  go_wp2
  go_ret
  exact ⟨rfl, HB2.out⟩
set_option maxHeartbeats 2000000 in
theorem beh_tsi (i : In) (hbd : Bd i) (w : World) : Calls Tryz.prog 25 #[i.val, .string ⟨#[116, 115, 105]⟩] w fun e w' => e = .returned (.string ⟨((((((36 :: Lib.itoa i.rt) ++ [44, 32]) ++ (36 :: Lib.itoa i.rs)) ++ [44, 32]) ++ immL i)).toArray⟩) ∧ Below w.heap.size w w' := by
  obtain ⟨W, hW, hb, hz, d0, d1, d2, d3, d4, d5⟩ := box6 w (.string i.name) (.int .i64 i.rs) (.int .i64 i.rt) (.int .i64 i.rd) (.int .i64 i.sa) (.int .u32 (i.imm : Int)) 24
  have b1 := hbd.rs; have b2 := hbd.rt; have b3 := hbd.rd; have b4 := hbd.sa; have b5 := hbd.imm
  have HB : Hid (Below w.heap.size w W) := hb
  clear hb hz
  unfold In.val
  obtain ⟨X146, e146⟩ : ∃ z : ByteArray, z = ⟨((36 :: Lib.itoa i.rt)).toArray⟩ := ⟨_, rfl⟩
  have K146 : Hid (∀ w', Calls Tryz.prog 58 #[.int .i64 i.rt] w' fun e w'' => e = .returned (.string X146) ∧ Below w'.heap.size w' w'') := fun w' => by rw [e146]; exact reg58 i.rt (by omega) (by omega) w'
  have s146 : X146.size ≤ 100 := by rw [e146]; show Array.size _ ≤ _; have := itoa_len i.rt; simp; omega
  obtain ⟨X147, e147⟩ : ∃ z : ByteArray, z = X146 ++ (⟨#[44, 32]⟩ : ByteArray) := ⟨_, rfl⟩
  have s147 : X147.size ≤ 102 := by rw [e147, ByteArray.size_append]; have : (⟨#[44, 32]⟩ : ByteArray).size = 2 := rfl; omega
  have a147 : ∀ wx, (Op.stringOp .add X146 (⟨#[44, 32]⟩ : ByteArray)).run Tryz.prog wx = .ok (.string X147) wx := fun wx => by rw [e147]; exact run_string_add_sum wx _ _ (by rw [← ByteArray.size_append, ← e147]; omega)
  obtain ⟨X150, e150⟩ : ∃ z : ByteArray, z = ⟨((36 :: Lib.itoa i.rs)).toArray⟩ := ⟨_, rfl⟩
  have K150 : Hid (∀ w', Calls Tryz.prog 58 #[.int .i64 i.rs] w' fun e w'' => e = .returned (.string X150) ∧ Below w'.heap.size w' w'') := fun w' => by rw [e150]; exact reg58 i.rs (by omega) (by omega) w'
  have s150 : X150.size ≤ 100 := by rw [e150]; show Array.size _ ≤ _; have := itoa_len i.rs; simp; omega
  obtain ⟨X151, e151⟩ : ∃ z : ByteArray, z = X147 ++ X150 := ⟨_, rfl⟩
  have s151 : X151.size ≤ 202 := by rw [e151, ByteArray.size_append]; omega
  have a151 : ∀ wx, (Op.stringOp .add X147 X150).run Tryz.prog wx = .ok (.string X151) wx := fun wx => by rw [e151]; exact run_string_add_sum wx _ _ (by rw [← ByteArray.size_append, ← e151]; omega)
  obtain ⟨X152, e152⟩ : ∃ z : ByteArray, z = X151 ++ (⟨#[44, 32]⟩ : ByteArray) := ⟨_, rfl⟩
  have s152 : X152.size ≤ 204 := by rw [e152, ByteArray.size_append]; have : (⟨#[44, 32]⟩ : ByteArray).size = 2 := rfl; omega
  have a152 : ∀ wx, (Op.stringOp .add X151 (⟨#[44, 32]⟩ : ByteArray)).run Tryz.prog wx = .ok (.string X152) wx := fun wx => by rw [e152]; exact run_string_add_sum wx _ _ (by rw [← ByteArray.size_append, ← e152]; omega)
  obtain ⟨X154, e154⟩ : ∃ z : ByteArray, z = ⟨(immL i).toArray⟩ := ⟨_, rfl⟩
  have K154 : Hid (∀ w', Calls Tryz.prog 60 #[.agg #[.string i.name, .int .i64 i.rs, .int .i64 i.rt, .int .i64 i.rd, .int .i64 i.sa, .int .u32 (i.imm : Int)]] w' fun e w'' => e = .returned (.string X154) ∧ Below w'.heap.size w' w'') := fun w' => by rw [e154]; exact imm60 i hbd w'
  have s154 : X154.size ≤ 70000000 := by rw [e154]; show Array.size _ ≤ _; have := imm_len i b5; simp; omega
  obtain ⟨X155, e155⟩ : ∃ z : ByteArray, z = X152 ++ X154 := ⟨_, rfl⟩
  have s155 : X155.size ≤ 70000204 := by rw [e155, ByteArray.size_append]; omega
  have a155 : ∀ wx, (Op.stringOp .add X152 X154).run Tryz.prog wx = .ok (.string X155) wx := fun wx => by rw [e155]; exact run_string_add_sum wx _ _ (by rw [← ByteArray.size_append, ← e155]; omega)
  have HE : Hid (X155 = ⟨((((((36 :: Lib.itoa i.rt) ++ [44, 32]) ++ (36 :: Lib.itoa i.rs)) ++ [44, 32]) ++ immL i)).toArray⟩) := by show _ = _; rw [e155, e154, e152, e151, e150, e147, e146]; simp only [ba_app]
  rw [← HE.out]
  clear HE hbd e146 s146 e147 s147 e150 s150 e151 s151 e152 s152 e154 s154 e155 s155 b1 b2 b3 b4 b5
  go_enter Tryz.func25, Tryz.ntmps25
  go_wp2
  refine wp_region_slots (R := Ext) [⟨144, fun v _ => v = .pointer (some ⟨w.heap.size, 2, none⟩), fun _ _ _ _ h => h⟩, ⟨145, fun v _ => v = .int .i64 i.rt, fun _ _ _ _ h => h⟩, ⟨146, fun v _ => v = .string X146, fun _ _ _ _ h => h⟩, ⟨147, fun v _ => v = .string X147, fun _ _ _ _ h => h⟩, ⟨148, fun v _ => v = .pointer (some ⟨w.heap.size, 1, none⟩), fun _ _ _ _ h => h⟩, ⟨149, fun v _ => v = .int .i64 i.rs, fun _ _ _ _ h => h⟩, ⟨150, fun v _ => v = .string X150, fun _ _ _ _ h => h⟩, ⟨151, fun v _ => v = .string X151, fun _ _ _ _ h => h⟩, ⟨152, fun v _ => v = .string X152, fun _ _ _ _ h => h⟩, ⟨153, fun v _ => v = .agg #[.string i.name, .int .i64 i.rs, .int .i64 i.rt, .int .i64 i.rd, .int .i64 i.sa, .int .u32 (i.imm : Int)], fun _ _ _ _ h => h⟩, ⟨154, fun v _ => v = .string X154, fun _ _ _ _ h => h⟩, ⟨155, fun v _ => v = .string X155, fun _ _ _ _ h => h⟩, ⟨4, fun v _ => v = .string X155, fun _ _ _ _ h => h⟩] _ (by kernel_rfl) rfl (by kernel_rfl) (Below.drew (Below.refl _ _)) (fun _ _ _ h1 h2 => below_tr h1 h2) (fun QQ => ⟨?_, ?_, ?_, ?_, ?_, ?_, ?_, ?_, ?_, ?_, ?_, ?_, ?_, trivial⟩) (fun f wy hR hf => ?_)
  · intro A wx hR hout hdep K hK
    have h2 : A.tmps[2]?.getD undef = .pointer (some ⟨w.heap.size, 0, none⟩) := hout 2 (by kernel_rfl)
    refine if_yes (by kernel_rfl) ?_
    simp [go_sem, h2, a147, a151, a152, a155]
    exact hK.out _ _ (Below.refl _ _) rfl
  · intro A wx hR hout hdep K hK
    have h144 : A.tmps[144]?.getD undef = .pointer (some ⟨w.heap.size, 2, none⟩) := hdep 144 (by kernel_rfl)
    refine if_yes (by kernel_rfl) ?_
    have d0 := keep_cell hR d0
    have d1 := keep_cell hR d1
    have d2 := keep_cell hR d2
    have d3 := keep_cell hR d3
    have d4 := keep_cell hR d4
    have d5 := keep_cell hR d5
    simp [go_sem, h144, d0, d1, d2, d3, d4, d5, a147, a151, a152, a155]
    exact hK.out _ _ (Below.refl _ _) rfl
  · intro A wx hR hout hdep K hK
    have h145 : A.tmps[145]?.getD undef = .int .i64 i.rt := hdep 145 (by kernel_rfl)
    refine if_yes (by kernel_rfl) ?_
    simp [go_sem, h145, a147, a151, a152, a155]
    refine (K146.out wx).mono ?_
    rintro e wG ⟨rfl, hbG⟩
    exact hK.out _ _ hbG rfl
  · intro A wx hR hout hdep K hK
    have h146 : A.tmps[146]?.getD undef = .string X146 := hdep 146 (by kernel_rfl)
    refine if_yes (by kernel_rfl) ?_
    simp [go_sem, h146, a147, a151, a152, a155]
    exact hK.out _ _ (Below.refl _ _) rfl
  · intro A wx hR hout hdep K hK
    have h2 : A.tmps[2]?.getD undef = .pointer (some ⟨w.heap.size, 0, none⟩) := hout 2 (by kernel_rfl)
    refine if_yes (by kernel_rfl) ?_
    simp [go_sem, h2, a147, a151, a152, a155]
    exact hK.out _ _ (Below.refl _ _) rfl
  · intro A wx hR hout hdep K hK
    have h148 : A.tmps[148]?.getD undef = .pointer (some ⟨w.heap.size, 1, none⟩) := hdep 148 (by kernel_rfl)
    refine if_yes (by kernel_rfl) ?_
    have d0 := keep_cell hR d0
    have d1 := keep_cell hR d1
    have d2 := keep_cell hR d2
    have d3 := keep_cell hR d3
    have d4 := keep_cell hR d4
    have d5 := keep_cell hR d5
    simp [go_sem, h148, d0, d1, d2, d3, d4, d5, a147, a151, a152, a155]
    exact hK.out _ _ (Below.refl _ _) rfl
  · intro A wx hR hout hdep K hK
    have h149 : A.tmps[149]?.getD undef = .int .i64 i.rs := hdep 149 (by kernel_rfl)
    refine if_yes (by kernel_rfl) ?_
    simp [go_sem, h149, a147, a151, a152, a155]
    refine (K150.out wx).mono ?_
    rintro e wG ⟨rfl, hbG⟩
    exact hK.out _ _ hbG rfl
  · intro A wx hR hout hdep K hK
    have h147 : A.tmps[147]?.getD undef = .string X147 := hdep 147 (by kernel_rfl)
    have h150 : A.tmps[150]?.getD undef = .string X150 := hdep 150 (by kernel_rfl)
    refine if_yes (by kernel_rfl) ?_
    simp [go_sem, h147, h150, a147, a151, a152, a155]
    exact hK.out _ _ (Below.refl _ _) rfl
  · intro A wx hR hout hdep K hK
    have h151 : A.tmps[151]?.getD undef = .string X151 := hdep 151 (by kernel_rfl)
    refine if_yes (by kernel_rfl) ?_
    simp [go_sem, h151, a147, a151, a152, a155]
    exact hK.out _ _ (Below.refl _ _) rfl
  · intro A wx hR hout hdep K hK
    have h2 : A.tmps[2]?.getD undef = .pointer (some ⟨w.heap.size, 0, none⟩) := hout 2 (by kernel_rfl)
    refine if_yes (by kernel_rfl) ?_
    have d0 := keep_cell hR d0
    have d1 := keep_cell hR d1
    have d2 := keep_cell hR d2
    have d3 := keep_cell hR d3
    have d4 := keep_cell hR d4
    have d5 := keep_cell hR d5
    simp [go_sem, h2, d0, d1, d2, d3, d4, d5, a147, a151, a152, a155]
    exact hK.out _ _ (Below.refl _ _) rfl
  · intro A wx hR hout hdep K hK
    have h153 : A.tmps[153]?.getD undef = .agg #[.string i.name, .int .i64 i.rs, .int .i64 i.rt, .int .i64 i.rd, .int .i64 i.sa, .int .u32 (i.imm : Int)] := hdep 153 (by kernel_rfl)
    refine if_yes (by kernel_rfl) ?_
    simp [go_sem, h153, a147, a151, a152, a155]
    refine (K154.out wx).mono ?_
    rintro e wG ⟨rfl, hbG⟩
    exact hK.out _ _ hbG rfl
  · intro A wx hR hout hdep K hK
    have h152 : A.tmps[152]?.getD undef = .string X152 := hdep 152 (by kernel_rfl)
    have h154 : A.tmps[154]?.getD undef = .string X154 := hdep 154 (by kernel_rfl)
    refine if_yes (by kernel_rfl) ?_
    simp [go_sem, h152, h154, a147, a151, a152, a155]
    exact hK.out _ _ (Below.refl _ _) rfl
  · intro A wx hR hout hdep K hK
    have h155 : A.tmps[155]?.getD undef = .string X155 := hdep 155 (by kernel_rfl)
    refine if_yes (by kernel_rfl) ?_
    simp [go_sem, h155, a147, a151, a152, a155]
    exact hK.out _ _ (Below.refl _ _) rfl
  have hv : f 4 = .string X155 := hf 4 (by kernel_rfl)
  simp only [putSl, Act.put, List.setIfInBounds_toArray, List.set_cons_zero, List.set_cons_succ, hv]
  have HB2 : Hid (Below w.heap.size w wy) := below_tr HB.out hR
  clear hf hv hR
  go_wp2
  go_ret
  exact ⟨rfl, HB2.out⟩
set_option maxHeartbeats 2000000 in
theorem beh_ti (i : In) (hbd : Bd i) (w : World) : Calls Tryz.prog 25 #[i.val, .string ⟨#[116, 105]⟩] w fun e w' => e = .returned (.string ⟨((((36 :: Lib.itoa i.rt) ++ [44, 32]) ++ immL i)).toArray⟩) ∧ Below w.heap.size w w' := by
  obtain ⟨W, hW, hb, hz, d0, d1, d2, d3, d4, d5⟩ := box6 w (.string i.name) (.int .i64 i.rs) (.int .i64 i.rt) (.int .i64 i.rd) (.int .i64 i.sa) (.int .u32 (i.imm : Int)) 24
  have b1 := hbd.rs; have b2 := hbd.rt; have b3 := hbd.rd; have b4 := hbd.sa; have b5 := hbd.imm
  have HB : Hid (Below w.heap.size w W) := hb
  clear hb hz
  unfold In.val
  obtain ⟨X160, e160⟩ : ∃ z : ByteArray, z = ⟨((36 :: Lib.itoa i.rt)).toArray⟩ := ⟨_, rfl⟩
  have K160 : Hid (∀ w', Calls Tryz.prog 58 #[.int .i64 i.rt] w' fun e w'' => e = .returned (.string X160) ∧ Below w'.heap.size w' w'') := fun w' => by rw [e160]; exact reg58 i.rt (by omega) (by omega) w'
  have s160 : X160.size ≤ 100 := by rw [e160]; show Array.size _ ≤ _; have := itoa_len i.rt; simp; omega
  obtain ⟨X161, e161⟩ : ∃ z : ByteArray, z = X160 ++ (⟨#[44, 32]⟩ : ByteArray) := ⟨_, rfl⟩
  have s161 : X161.size ≤ 102 := by rw [e161, ByteArray.size_append]; have : (⟨#[44, 32]⟩ : ByteArray).size = 2 := rfl; omega
  have a161 : ∀ wx, (Op.stringOp .add X160 (⟨#[44, 32]⟩ : ByteArray)).run Tryz.prog wx = .ok (.string X161) wx := fun wx => by rw [e161]; exact run_string_add_sum wx _ _ (by rw [← ByteArray.size_append, ← e161]; omega)
  obtain ⟨X163, e163⟩ : ∃ z : ByteArray, z = ⟨(immL i).toArray⟩ := ⟨_, rfl⟩
  have K163 : Hid (∀ w', Calls Tryz.prog 60 #[.agg #[.string i.name, .int .i64 i.rs, .int .i64 i.rt, .int .i64 i.rd, .int .i64 i.sa, .int .u32 (i.imm : Int)]] w' fun e w'' => e = .returned (.string X163) ∧ Below w'.heap.size w' w'') := fun w' => by rw [e163]; exact imm60 i hbd w'
  have s163 : X163.size ≤ 70000000 := by rw [e163]; show Array.size _ ≤ _; have := imm_len i b5; simp; omega
  obtain ⟨X164, e164⟩ : ∃ z : ByteArray, z = X161 ++ X163 := ⟨_, rfl⟩
  have s164 : X164.size ≤ 70000102 := by rw [e164, ByteArray.size_append]; omega
  have a164 : ∀ wx, (Op.stringOp .add X161 X163).run Tryz.prog wx = .ok (.string X164) wx := fun wx => by rw [e164]; exact run_string_add_sum wx _ _ (by rw [← ByteArray.size_append, ← e164]; omega)
  have HE : Hid (X164 = ⟨((((36 :: Lib.itoa i.rt) ++ [44, 32]) ++ immL i)).toArray⟩) := by show _ = _; rw [e164, e163, e161, e160]; simp only [ba_app]
  rw [← HE.out]
  clear HE hbd e160 s160 e161 s161 e163 s163 e164 s164 b1 b2 b3 b4 b5
  go_enter Tryz.func25, Tryz.ntmps25
  go_wp2
  refine wp_region_slots (R := Ext) [⟨158, fun v _ => v = .pointer (some ⟨w.heap.size, 2, none⟩), fun _ _ _ _ h => h⟩, ⟨159, fun v _ => v = .int .i64 i.rt, fun _ _ _ _ h => h⟩, ⟨160, fun v _ => v = .string X160, fun _ _ _ _ h => h⟩, ⟨161, fun v _ => v = .string X161, fun _ _ _ _ h => h⟩, ⟨162, fun v _ => v = .agg #[.string i.name, .int .i64 i.rs, .int .i64 i.rt, .int .i64 i.rd, .int .i64 i.sa, .int .u32 (i.imm : Int)], fun _ _ _ _ h => h⟩, ⟨163, fun v _ => v = .string X163, fun _ _ _ _ h => h⟩, ⟨164, fun v _ => v = .string X164, fun _ _ _ _ h => h⟩, ⟨4, fun v _ => v = .string X164, fun _ _ _ _ h => h⟩] _ (by kernel_rfl) rfl (by kernel_rfl) (Below.drew (Below.refl _ _)) (fun _ _ _ h1 h2 => below_tr h1 h2) (fun QQ => ⟨?_, ?_, ?_, ?_, ?_, ?_, ?_, ?_, trivial⟩) (fun f wy hR hf => ?_)
  · intro A wx hR hout hdep K hK
    have h2 : A.tmps[2]?.getD undef = .pointer (some ⟨w.heap.size, 0, none⟩) := hout 2 (by kernel_rfl)
    refine if_yes (by kernel_rfl) ?_
    simp [go_sem, h2, a161, a164]
    exact hK.out _ _ (Below.refl _ _) rfl
  · intro A wx hR hout hdep K hK
    have h158 : A.tmps[158]?.getD undef = .pointer (some ⟨w.heap.size, 2, none⟩) := hdep 158 (by kernel_rfl)
    refine if_yes (by kernel_rfl) ?_
    have d0 := keep_cell hR d0
    have d1 := keep_cell hR d1
    have d2 := keep_cell hR d2
    have d3 := keep_cell hR d3
    have d4 := keep_cell hR d4
    have d5 := keep_cell hR d5
    simp [go_sem, h158, d0, d1, d2, d3, d4, d5, a161, a164]
    exact hK.out _ _ (Below.refl _ _) rfl
  · intro A wx hR hout hdep K hK
    have h159 : A.tmps[159]?.getD undef = .int .i64 i.rt := hdep 159 (by kernel_rfl)
    refine if_yes (by kernel_rfl) ?_
    simp [go_sem, h159, a161, a164]
    refine (K160.out wx).mono ?_
    rintro e wG ⟨rfl, hbG⟩
    exact hK.out _ _ hbG rfl
  · intro A wx hR hout hdep K hK
    have h160 : A.tmps[160]?.getD undef = .string X160 := hdep 160 (by kernel_rfl)
    refine if_yes (by kernel_rfl) ?_
    simp [go_sem, h160, a161, a164]
    exact hK.out _ _ (Below.refl _ _) rfl
  · intro A wx hR hout hdep K hK
    have h2 : A.tmps[2]?.getD undef = .pointer (some ⟨w.heap.size, 0, none⟩) := hout 2 (by kernel_rfl)
    refine if_yes (by kernel_rfl) ?_
    have d0 := keep_cell hR d0
    have d1 := keep_cell hR d1
    have d2 := keep_cell hR d2
    have d3 := keep_cell hR d3
    have d4 := keep_cell hR d4
    have d5 := keep_cell hR d5
    simp [go_sem, h2, d0, d1, d2, d3, d4, d5, a161, a164]
    exact hK.out _ _ (Below.refl _ _) rfl
  · intro A wx hR hout hdep K hK
    have h162 : A.tmps[162]?.getD undef = .agg #[.string i.name, .int .i64 i.rs, .int .i64 i.rt, .int .i64 i.rd, .int .i64 i.sa, .int .u32 (i.imm : Int)] := hdep 162 (by kernel_rfl)
    refine if_yes (by kernel_rfl) ?_
    simp [go_sem, h162, a161, a164]
    refine (K163.out wx).mono ?_
    rintro e wG ⟨rfl, hbG⟩
    exact hK.out _ _ hbG rfl
  · intro A wx hR hout hdep K hK
    have h161 : A.tmps[161]?.getD undef = .string X161 := hdep 161 (by kernel_rfl)
    have h163 : A.tmps[163]?.getD undef = .string X163 := hdep 163 (by kernel_rfl)
    refine if_yes (by kernel_rfl) ?_
    simp [go_sem, h161, h163, a161, a164]
    exact hK.out _ _ (Below.refl _ _) rfl
  · intro A wx hR hout hdep K hK
    have h164 : A.tmps[164]?.getD undef = .string X164 := hdep 164 (by kernel_rfl)
    refine if_yes (by kernel_rfl) ?_
    simp [go_sem, h164, a161, a164]
    exact hK.out _ _ (Below.refl _ _) rfl
  have hv : f 4 = .string X164 := hf 4 (by kernel_rfl)
  simp only [putSl, Act.put, List.setIfInBounds_toArray, List.set_cons_zero, List.set_cons_succ, hv]
  have HB2 : Hid (Below w.heap.size w wy) := below_tr HB.out hR
  clear hf hv hR
  go_wp2
  go_ret
  exact ⟨rfl, HB2.out⟩
set_option maxHeartbeats 2000000 in
theorem beh_tm (i : In) (hbd : Bd i) (w : World) : Calls Tryz.prog 25 #[i.val, .string ⟨#[116, 109]⟩] w fun e w' => e = .returned (.string ⟨(((((((36 :: Lib.itoa i.rt) ++ [44, 32]) ++ immL i) ++ [40]) ++ (36 :: Lib.itoa i.rs)) ++ [41])).toArray⟩) ∧ Below w.heap.size w w' := by
  obtain ⟨W, hW, hb, hz, d0, d1, d2, d3, d4, d5⟩ := box6 w (.string i.name) (.int .i64 i.rs) (.int .i64 i.rt) (.int .i64 i.rd) (.int .i64 i.sa) (.int .u32 (i.imm : Int)) 24
  have b1 := hbd.rs; have b2 := hbd.rt; have b3 := hbd.rd; have b4 := hbd.sa; have b5 := hbd.imm
  have HB : Hid (Below w.heap.size w W) := hb
  clear hb hz
  unfold In.val
  obtain ⟨X169, e169⟩ : ∃ z : ByteArray, z = ⟨((36 :: Lib.itoa i.rt)).toArray⟩ := ⟨_, rfl⟩
  have K169 : Hid (∀ w', Calls Tryz.prog 58 #[.int .i64 i.rt] w' fun e w'' => e = .returned (.string X169) ∧ Below w'.heap.size w' w'') := fun w' => by rw [e169]; exact reg58 i.rt (by omega) (by omega) w'
  have s169 : X169.size ≤ 100 := by rw [e169]; show Array.size _ ≤ _; have := itoa_len i.rt; simp; omega
  obtain ⟨X170, e170⟩ : ∃ z : ByteArray, z = X169 ++ (⟨#[44, 32]⟩ : ByteArray) := ⟨_, rfl⟩
  have s170 : X170.size ≤ 102 := by rw [e170, ByteArray.size_append]; have : (⟨#[44, 32]⟩ : ByteArray).size = 2 := rfl; omega
  have a170 : ∀ wx, (Op.stringOp .add X169 (⟨#[44, 32]⟩ : ByteArray)).run Tryz.prog wx = .ok (.string X170) wx := fun wx => by rw [e170]; exact run_string_add_sum wx _ _ (by rw [← ByteArray.size_append, ← e170]; omega)
  obtain ⟨X172, e172⟩ : ∃ z : ByteArray, z = ⟨(immL i).toArray⟩ := ⟨_, rfl⟩
  have K172 : Hid (∀ w', Calls Tryz.prog 60 #[.agg #[.string i.name, .int .i64 i.rs, .int .i64 i.rt, .int .i64 i.rd, .int .i64 i.sa, .int .u32 (i.imm : Int)]] w' fun e w'' => e = .returned (.string X172) ∧ Below w'.heap.size w' w'') := fun w' => by rw [e172]; exact imm60 i hbd w'
  have s172 : X172.size ≤ 70000000 := by rw [e172]; show Array.size _ ≤ _; have := imm_len i b5; simp; omega
  obtain ⟨X173, e173⟩ : ∃ z : ByteArray, z = X170 ++ X172 := ⟨_, rfl⟩
  have s173 : X173.size ≤ 70000102 := by rw [e173, ByteArray.size_append]; omega
  have a173 : ∀ wx, (Op.stringOp .add X170 X172).run Tryz.prog wx = .ok (.string X173) wx := fun wx => by rw [e173]; exact run_string_add_sum wx _ _ (by rw [← ByteArray.size_append, ← e173]; omega)
  obtain ⟨X174, e174⟩ : ∃ z : ByteArray, z = X173 ++ (⟨#[40]⟩ : ByteArray) := ⟨_, rfl⟩
  have s174 : X174.size ≤ 70000103 := by rw [e174, ByteArray.size_append]; have : (⟨#[40]⟩ : ByteArray).size = 1 := rfl; omega
  have a174 : ∀ wx, (Op.stringOp .add X173 (⟨#[40]⟩ : ByteArray)).run Tryz.prog wx = .ok (.string X174) wx := fun wx => by rw [e174]; exact run_string_add_sum wx _ _ (by rw [← ByteArray.size_append, ← e174]; omega)
  obtain ⟨X177, e177⟩ : ∃ z : ByteArray, z = ⟨((36 :: Lib.itoa i.rs)).toArray⟩ := ⟨_, rfl⟩
  have K177 : Hid (∀ w', Calls Tryz.prog 58 #[.int .i64 i.rs] w' fun e w'' => e = .returned (.string X177) ∧ Below w'.heap.size w' w'') := fun w' => by rw [e177]; exact reg58 i.rs (by omega) (by omega) w'
  have s177 : X177.size ≤ 100 := by rw [e177]; show Array.size _ ≤ _; have := itoa_len i.rs; simp; omega
  obtain ⟨X178, e178⟩ : ∃ z : ByteArray, z = X174 ++ X177 := ⟨_, rfl⟩
  have s178 : X178.size ≤ 70000203 := by rw [e178, ByteArray.size_append]; omega
  have a178 : ∀ wx, (Op.stringOp .add X174 X177).run Tryz.prog wx = .ok (.string X178) wx := fun wx => by rw [e178]; exact run_string_add_sum wx _ _ (by rw [← ByteArray.size_append, ← e178]; omega)
  obtain ⟨X179, e179⟩ : ∃ z : ByteArray, z = X178 ++ (⟨#[41]⟩ : ByteArray) := ⟨_, rfl⟩
  have s179 : X179.size ≤ 70000204 := by rw [e179, ByteArray.size_append]; have : (⟨#[41]⟩ : ByteArray).size = 1 := rfl; omega
  have a179 : ∀ wx, (Op.stringOp .add X178 (⟨#[41]⟩ : ByteArray)).run Tryz.prog wx = .ok (.string X179) wx := fun wx => by rw [e179]; exact run_string_add_sum wx _ _ (by rw [← ByteArray.size_append, ← e179]; omega)
  have HE : Hid (X179 = ⟨(((((((36 :: Lib.itoa i.rt) ++ [44, 32]) ++ immL i) ++ [40]) ++ (36 :: Lib.itoa i.rs)) ++ [41])).toArray⟩) := by show _ = _; rw [e179, e178, e177, e174, e173, e172, e170, e169]; simp only [ba_app]
  rw [← HE.out]
  clear HE hbd e169 s169 e170 s170 e172 s172 e173 s173 e174 s174 e177 s177 e178 s178 e179 s179 b1 b2 b3 b4 b5
  go_enter Tryz.func25, Tryz.ntmps25
  go_wp2
  refine wp_region_slots (R := Ext) [⟨167, fun v _ => v = .pointer (some ⟨w.heap.size, 2, none⟩), fun _ _ _ _ h => h⟩, ⟨168, fun v _ => v = .int .i64 i.rt, fun _ _ _ _ h => h⟩, ⟨169, fun v _ => v = .string X169, fun _ _ _ _ h => h⟩, ⟨170, fun v _ => v = .string X170, fun _ _ _ _ h => h⟩, ⟨171, fun v _ => v = .agg #[.string i.name, .int .i64 i.rs, .int .i64 i.rt, .int .i64 i.rd, .int .i64 i.sa, .int .u32 (i.imm : Int)], fun _ _ _ _ h => h⟩, ⟨172, fun v _ => v = .string X172, fun _ _ _ _ h => h⟩, ⟨173, fun v _ => v = .string X173, fun _ _ _ _ h => h⟩, ⟨174, fun v _ => v = .string X174, fun _ _ _ _ h => h⟩, ⟨175, fun v _ => v = .pointer (some ⟨w.heap.size, 1, none⟩), fun _ _ _ _ h => h⟩, ⟨176, fun v _ => v = .int .i64 i.rs, fun _ _ _ _ h => h⟩, ⟨177, fun v _ => v = .string X177, fun _ _ _ _ h => h⟩, ⟨178, fun v _ => v = .string X178, fun _ _ _ _ h => h⟩, ⟨179, fun v _ => v = .string X179, fun _ _ _ _ h => h⟩, ⟨4, fun v _ => v = .string X179, fun _ _ _ _ h => h⟩] _ (by kernel_rfl) rfl (by kernel_rfl) (Below.drew (Below.refl _ _)) (fun _ _ _ h1 h2 => below_tr h1 h2) (fun QQ => ⟨?_, ?_, ?_, ?_, ?_, ?_, ?_, ?_, ?_, ?_, ?_, ?_, ?_, ?_, trivial⟩) (fun f wy hR hf => ?_)
  · intro A wx hR hout hdep K hK
    have h2 : A.tmps[2]?.getD undef = .pointer (some ⟨w.heap.size, 0, none⟩) := hout 2 (by kernel_rfl)
    refine if_yes (by kernel_rfl) ?_
    simp [go_sem, h2, a170, a173, a174, a178, a179]
    exact hK.out _ _ (Below.refl _ _) rfl
  · intro A wx hR hout hdep K hK
    have h167 : A.tmps[167]?.getD undef = .pointer (some ⟨w.heap.size, 2, none⟩) := hdep 167 (by kernel_rfl)
    refine if_yes (by kernel_rfl) ?_
    have d0 := keep_cell hR d0
    have d1 := keep_cell hR d1
    have d2 := keep_cell hR d2
    have d3 := keep_cell hR d3
    have d4 := keep_cell hR d4
    have d5 := keep_cell hR d5
    simp [go_sem, h167, d0, d1, d2, d3, d4, d5, a170, a173, a174, a178, a179]
    exact hK.out _ _ (Below.refl _ _) rfl
  · intro A wx hR hout hdep K hK
    have h168 : A.tmps[168]?.getD undef = .int .i64 i.rt := hdep 168 (by kernel_rfl)
    refine if_yes (by kernel_rfl) ?_
    simp [go_sem, h168, a170, a173, a174, a178, a179]
    refine (K169.out wx).mono ?_
    rintro e wG ⟨rfl, hbG⟩
    exact hK.out _ _ hbG rfl
  · intro A wx hR hout hdep K hK
    have h169 : A.tmps[169]?.getD undef = .string X169 := hdep 169 (by kernel_rfl)
    refine if_yes (by kernel_rfl) ?_
    simp [go_sem, h169, a170, a173, a174, a178, a179]
    exact hK.out _ _ (Below.refl _ _) rfl
  · intro A wx hR hout hdep K hK
    have h2 : A.tmps[2]?.getD undef = .pointer (some ⟨w.heap.size, 0, none⟩) := hout 2 (by kernel_rfl)
    refine if_yes (by kernel_rfl) ?_
    have d0 := keep_cell hR d0
    have d1 := keep_cell hR d1
    have d2 := keep_cell hR d2
    have d3 := keep_cell hR d3
    have d4 := keep_cell hR d4
    have d5 := keep_cell hR d5
    simp [go_sem, h2, d0, d1, d2, d3, d4, d5, a170, a173, a174, a178, a179]
    exact hK.out _ _ (Below.refl _ _) rfl
  · intro A wx hR hout hdep K hK
    have h171 : A.tmps[171]?.getD undef = .agg #[.string i.name, .int .i64 i.rs, .int .i64 i.rt, .int .i64 i.rd, .int .i64 i.sa, .int .u32 (i.imm : Int)] := hdep 171 (by kernel_rfl)
    refine if_yes (by kernel_rfl) ?_
    simp [go_sem, h171, a170, a173, a174, a178, a179]
    refine (K172.out wx).mono ?_
    rintro e wG ⟨rfl, hbG⟩
    exact hK.out _ _ hbG rfl
  · intro A wx hR hout hdep K hK
    have h170 : A.tmps[170]?.getD undef = .string X170 := hdep 170 (by kernel_rfl)
    have h172 : A.tmps[172]?.getD undef = .string X172 := hdep 172 (by kernel_rfl)
    refine if_yes (by kernel_rfl) ?_
    simp [go_sem, h170, h172, a170, a173, a174, a178, a179]
    exact hK.out _ _ (Below.refl _ _) rfl
  · intro A wx hR hout hdep K hK
    have h173 : A.tmps[173]?.getD undef = .string X173 := hdep 173 (by kernel_rfl)
    refine if_yes (by kernel_rfl) ?_
    simp [go_sem, h173, a170, a173, a174, a178, a179]
    exact hK.out _ _ (Below.refl _ _) rfl
  · intro A wx hR hout hdep K hK
    have h2 : A.tmps[2]?.getD undef = .pointer (some ⟨w.heap.size, 0, none⟩) := hout 2 (by kernel_rfl)
    refine if_yes (by kernel_rfl) ?_
    simp [go_sem, h2, a170, a173, a174, a178, a179]
    exact hK.out _ _ (Below.refl _ _) rfl
  · intro A wx hR hout hdep K hK
    have h175 : A.tmps[175]?.getD undef = .pointer (some ⟨w.heap.size, 1, none⟩) := hdep 175 (by kernel_rfl)
    refine if_yes (by kernel_rfl) ?_
    have d0 := keep_cell hR d0
    have d1 := keep_cell hR d1
    have d2 := keep_cell hR d2
    have d3 := keep_cell hR d3
    have d4 := keep_cell hR d4
    have d5 := keep_cell hR d5
    simp [go_sem, h175, d0, d1, d2, d3, d4, d5, a170, a173, a174, a178, a179]
    exact hK.out _ _ (Below.refl _ _) rfl
  · intro A wx hR hout hdep K hK
    have h176 : A.tmps[176]?.getD undef = .int .i64 i.rs := hdep 176 (by kernel_rfl)
    refine if_yes (by kernel_rfl) ?_
    simp [go_sem, h176, a170, a173, a174, a178, a179]
    refine (K177.out wx).mono ?_
    rintro e wG ⟨rfl, hbG⟩
    exact hK.out _ _ hbG rfl
  · intro A wx hR hout hdep K hK
    have h174 : A.tmps[174]?.getD undef = .string X174 := hdep 174 (by kernel_rfl)
    have h177 : A.tmps[177]?.getD undef = .string X177 := hdep 177 (by kernel_rfl)
    refine if_yes (by kernel_rfl) ?_
    simp [go_sem, h174, h177, a170, a173, a174, a178, a179]
    exact hK.out _ _ (Below.refl _ _) rfl
  · intro A wx hR hout hdep K hK
    have h178 : A.tmps[178]?.getD undef = .string X178 := hdep 178 (by kernel_rfl)
    refine if_yes (by kernel_rfl) ?_
    simp [go_sem, h178, a170, a173, a174, a178, a179]
    exact hK.out _ _ (Below.refl _ _) rfl
  · intro A wx hR hout hdep K hK
    have h179 : A.tmps[179]?.getD undef = .string X179 := hdep 179 (by kernel_rfl)
    refine if_yes (by kernel_rfl) ?_
    simp [go_sem, h179, a170, a173, a174, a178, a179]
    exact hK.out _ _ (Below.refl _ _) rfl
  have hv : f 4 = .string X179 := hf 4 (by kernel_rfl)
  simp only [putSl, Act.put, List.setIfInBounds_toArray, List.set_cons_zero, List.set_cons_succ, hv]
  have HB2 : Hid (Below w.heap.size w wy) := below_tr HB.out hR
  clear hf hv hR
  go_wp2
  go_ret
  exact ⟨rfl, HB2.out⟩
set_option maxHeartbeats 2000000 in
theorem beh_tsx (i : In) (hbd : Bd i) (w : World) : Calls Tryz.prog 25 #[i.val, .string ⟨#[116, 115, 120]⟩] w fun e w' => e = .returned (.string ⟨((((((((36 :: Lib.itoa i.rt) ++ [44, 32]) ++ (36 :: Lib.itoa i.rs)) ++ [44, 32]) ++ Lib.itoa i.sa) ++ [44, 32]) ++ Lib.itoa i.rd)).toArray⟩) ∧ Below w.heap.size w w' := by
  obtain ⟨W, hW, hb, hz, d0, d1, d2, d3, d4, d5⟩ := box6 w (.string i.name) (.int .i64 i.rs) (.int .i64 i.rt) (.int .i64 i.rd) (.int .i64 i.sa) (.int .u32 (i.imm : Int)) 24
  have b1 := hbd.rs; have b2 := hbd.rt; have b3 := hbd.rd; have b4 := hbd.sa; have b5 := hbd.imm
  have HB : Hid (Below w.heap.size w W) := hb
  clear hb hz
  unfold In.val
  obtain ⟨X182, e182⟩ : ∃ z : ByteArray, z = ⟨((36 :: Lib.itoa i.rt)).toArray⟩ := ⟨_, rfl⟩
  have K182 : Hid (∀ w', Calls Tryz.prog 58 #[.int .i64 i.rt] w' fun e w'' => e = .returned (.string X182) ∧ Below w'.heap.size w' w'') := fun w' => by rw [e182]; exact reg58 i.rt (by omega) (by omega) w'
  have s182 : X182.size ≤ 100 := by rw [e182]; show Array.size _ ≤ _; have := itoa_len i.rt; simp; omega
  obtain ⟨X183, e183⟩ : ∃ z : ByteArray, z = X182 ++ (⟨#[44, 32]⟩ : ByteArray) := ⟨_, rfl⟩
  have s183 : X183.size ≤ 102 := by rw [e183, ByteArray.size_append]; have : (⟨#[44, 32]⟩ : ByteArray).size = 2 := rfl; omega
  have a183 : ∀ wx, (Op.stringOp .add X182 (⟨#[44, 32]⟩ : ByteArray)).run Tryz.prog wx = .ok (.string X183) wx := fun wx => by rw [e183]; exact run_string_add_sum wx _ _ (by rw [← ByteArray.size_append, ← e183]; omega)
  obtain ⟨X186, e186⟩ : ∃ z : ByteArray, z = ⟨((36 :: Lib.itoa i.rs)).toArray⟩ := ⟨_, rfl⟩
  have K186 : Hid (∀ w', Calls Tryz.prog 58 #[.int .i64 i.rs] w' fun e w'' => e = .returned (.string X186) ∧ Below w'.heap.size w' w'') := fun w' => by rw [e186]; exact reg58 i.rs (by omega) (by omega) w'
  have s186 : X186.size ≤ 100 := by rw [e186]; show Array.size _ ≤ _; have := itoa_len i.rs; simp; omega
  obtain ⟨X187, e187⟩ : ∃ z : ByteArray, z = X183 ++ X186 := ⟨_, rfl⟩
  have s187 : X187.size ≤ 202 := by rw [e187, ByteArray.size_append]; omega
  have a187 : ∀ wx, (Op.stringOp .add X183 X186).run Tryz.prog wx = .ok (.string X187) wx := fun wx => by rw [e187]; exact run_string_add_sum wx _ _ (by rw [← ByteArray.size_append, ← e187]; omega)
  obtain ⟨X188, e188⟩ : ∃ z : ByteArray, z = X187 ++ (⟨#[44, 32]⟩ : ByteArray) := ⟨_, rfl⟩
  have s188 : X188.size ≤ 204 := by rw [e188, ByteArray.size_append]; have : (⟨#[44, 32]⟩ : ByteArray).size = 2 := rfl; omega
  have a188 : ∀ wx, (Op.stringOp .add X187 (⟨#[44, 32]⟩ : ByteArray)).run Tryz.prog wx = .ok (.string X188) wx := fun wx => by rw [e188]; exact run_string_add_sum wx _ _ (by rw [← ByteArray.size_append, ← e188]; omega)
  obtain ⟨X191, e191⟩ : ∃ z : ByteArray, z = ⟨(Lib.itoa i.sa).toArray⟩ := ⟨_, rfl⟩
  have K191 : Hid (∀ w', Calls Tryz.prog 59 #[.int .i64 i.sa] w' fun e w'' => e = .returned (.string X191) ∧ Below w'.heap.size w' w'') := fun w' => by rw [e191]; exact digits59 i.sa (by omega) (by omega) w'
  have s191 : X191.size ≤ 70000000 := by rw [e191]; show Array.size _ ≤ _; have := itoa_len i.sa; simp; omega
  obtain ⟨X192, e192⟩ : ∃ z : ByteArray, z = X188 ++ X191 := ⟨_, rfl⟩
  have s192 : X192.size ≤ 70000204 := by rw [e192, ByteArray.size_append]; omega
  have a192 : ∀ wx, (Op.stringOp .add X188 X191).run Tryz.prog wx = .ok (.string X192) wx := fun wx => by rw [e192]; exact run_string_add_sum wx _ _ (by rw [← ByteArray.size_append, ← e192]; omega)
  obtain ⟨X193, e193⟩ : ∃ z : ByteArray, z = X192 ++ (⟨#[44, 32]⟩ : ByteArray) := ⟨_, rfl⟩
  have s193 : X193.size ≤ 70000206 := by rw [e193, ByteArray.size_append]; have : (⟨#[44, 32]⟩ : ByteArray).size = 2 := rfl; omega
  have a193 : ∀ wx, (Op.stringOp .add X192 (⟨#[44, 32]⟩ : ByteArray)).run Tryz.prog wx = .ok (.string X193) wx := fun wx => by rw [e193]; exact run_string_add_sum wx _ _ (by rw [← ByteArray.size_append, ← e193]; omega)
  obtain ⟨X196, e196⟩ : ∃ z : ByteArray, z = ⟨(Lib.itoa i.rd).toArray⟩ := ⟨_, rfl⟩
  have K196 : Hid (∀ w', Calls Tryz.prog 59 #[.int .i64 i.rd] w' fun e w'' => e = .returned (.string X196) ∧ Below w'.heap.size w' w'') := fun w' => by rw [e196]; exact digits59 i.rd (by omega) (by omega) w'
  have s196 : X196.size ≤ 70000000 := by rw [e196]; show Array.size _ ≤ _; have := itoa_len i.rd; simp; omega
  obtain ⟨X197, e197⟩ : ∃ z : ByteArray, z = X193 ++ X196 := ⟨_, rfl⟩
  have s197 : X197.size ≤ 140000206 := by rw [e197, ByteArray.size_append]; omega
  have a197 : ∀ wx, (Op.stringOp .add X193 X196).run Tryz.prog wx = .ok (.string X197) wx := fun wx => by rw [e197]; exact run_string_add_sum wx _ _ (by rw [← ByteArray.size_append, ← e197]; omega)
  have HE : Hid (X197 = ⟨((((((((36 :: Lib.itoa i.rt) ++ [44, 32]) ++ (36 :: Lib.itoa i.rs)) ++ [44, 32]) ++ Lib.itoa i.sa) ++ [44, 32]) ++ Lib.itoa i.rd)).toArray⟩) := by show _ = _; rw [e197, e196, e193, e192, e191, e188, e187, e186, e183, e182]; simp only [ba_app]
  rw [← HE.out]
  clear HE hbd e182 s182 e183 s183 e186 s186 e187 s187 e188 s188 e191 s191 e192 s192 e193 s193 e196 s196 e197 s197 b1 b2 b3 b4 b5
  go_enter Tryz.func25, Tryz.ntmps25
  go_wp2
  refine wp_region_slots (R := Ext) [⟨180, fun v _ => v = .pointer (some ⟨w.heap.size, 2, none⟩), fun _ _ _ _ h => h⟩, ⟨181, fun v _ => v = .int .i64 i.rt, fun _ _ _ _ h => h⟩, ⟨182, fun v _ => v = .string X182, fun _ _ _ _ h => h⟩, ⟨183, fun v _ => v = .string X183, fun _ _ _ _ h => h⟩, ⟨184, fun v _ => v = .pointer (some ⟨w.heap.size, 1, none⟩), fun _ _ _ _ h => h⟩, ⟨185, fun v _ => v = .int .i64 i.rs, fun _ _ _ _ h => h⟩, ⟨186, fun v _ => v = .string X186, fun _ _ _ _ h => h⟩, ⟨187, fun v _ => v = .string X187, fun _ _ _ _ h => h⟩, ⟨188, fun v _ => v = .string X188, fun _ _ _ _ h => h⟩, ⟨189, fun v _ => v = .pointer (some ⟨w.heap.size, 4, none⟩), fun _ _ _ _ h => h⟩, ⟨190, fun v _ => v = .int .i64 i.sa, fun _ _ _ _ h => h⟩, ⟨191, fun v _ => v = .string X191, fun _ _ _ _ h => h⟩, ⟨192, fun v _ => v = .string X192, fun _ _ _ _ h => h⟩, ⟨193, fun v _ => v = .string X193, fun _ _ _ _ h => h⟩, ⟨194, fun v _ => v = .pointer (some ⟨w.heap.size, 3, none⟩), fun _ _ _ _ h => h⟩, ⟨195, fun v _ => v = .int .i64 i.rd, fun _ _ _ _ h => h⟩, ⟨196, fun v _ => v = .string X196, fun _ _ _ _ h => h⟩, ⟨197, fun v _ => v = .string X197, fun _ _ _ _ h => h⟩, ⟨4, fun v _ => v = .string X197, fun _ _ _ _ h => h⟩] _ (by kernel_rfl) rfl (by kernel_rfl) (Below.drew (Below.refl _ _)) (fun _ _ _ h1 h2 => below_tr h1 h2) (fun QQ => ⟨?_, ?_, ?_, ?_, ?_, ?_, ?_, ?_, ?_, ?_, ?_, ?_, ?_, ?_, ?_, ?_, ?_, ?_, ?_, trivial⟩) (fun f wy hR hf => ?_)
  · intro A wx hR hout hdep K hK
    have h2 : A.tmps[2]?.getD undef = .pointer (some ⟨w.heap.size, 0, none⟩) := hout 2 (by kernel_rfl)
    refine if_yes (by kernel_rfl) ?_
    simp [go_sem, h2, a183, a187, a188, a192, a193, a197]
    exact hK.out _ _ (Below.refl _ _) rfl
  · intro A wx hR hout hdep K hK
    have h180 : A.tmps[180]?.getD undef = .pointer (some ⟨w.heap.size, 2, none⟩) := hdep 180 (by kernel_rfl)
    refine if_yes (by kernel_rfl) ?_
    have d0 := keep_cell hR d0
    have d1 := keep_cell hR d1
    have d2 := keep_cell hR d2
    have d3 := keep_cell hR d3
    have d4 := keep_cell hR d4
    have d5 := keep_cell hR d5
    simp [go_sem, h180, d0, d1, d2, d3, d4, d5, a183, a187, a188, a192, a193, a197]
    exact hK.out _ _ (Below.refl _ _) rfl
  · intro A wx hR hout hdep K hK
    have h181 : A.tmps[181]?.getD undef = .int .i64 i.rt := hdep 181 (by kernel_rfl)
    refine if_yes (by kernel_rfl) ?_
    simp [go_sem, h181, a183, a187, a188, a192, a193, a197]
    refine (K182.out wx).mono ?_
    rintro e wG ⟨rfl, hbG⟩
    exact hK.out _ _ hbG rfl
  · intro A wx hR hout hdep K hK
    have h182 : A.tmps[182]?.getD undef = .string X182 := hdep 182 (by kernel_rfl)
    refine if_yes (by kernel_rfl) ?_
    simp [go_sem, h182, a183, a187, a188, a192, a193, a197]
    exact hK.out _ _ (Below.refl _ _) rfl
  · intro A wx hR hout hdep K hK
    have h2 : A.tmps[2]?.getD undef = .pointer (some ⟨w.heap.size, 0, none⟩) := hout 2 (by kernel_rfl)
    refine if_yes (by kernel_rfl) ?_
    simp [go_sem, h2, a183, a187, a188, a192, a193, a197]
    exact hK.out _ _ (Below.refl _ _) rfl
  · intro A wx hR hout hdep K hK
    have h184 : A.tmps[184]?.getD undef = .pointer (some ⟨w.heap.size, 1, none⟩) := hdep 184 (by kernel_rfl)
    refine if_yes (by kernel_rfl) ?_
    have d0 := keep_cell hR d0
    have d1 := keep_cell hR d1
    have d2 := keep_cell hR d2
    have d3 := keep_cell hR d3
    have d4 := keep_cell hR d4
    have d5 := keep_cell hR d5
    simp [go_sem, h184, d0, d1, d2, d3, d4, d5, a183, a187, a188, a192, a193, a197]
    exact hK.out _ _ (Below.refl _ _) rfl
  · intro A wx hR hout hdep K hK
    have h185 : A.tmps[185]?.getD undef = .int .i64 i.rs := hdep 185 (by kernel_rfl)
    refine if_yes (by kernel_rfl) ?_
    simp [go_sem, h185, a183, a187, a188, a192, a193, a197]
    refine (K186.out wx).mono ?_
    rintro e wG ⟨rfl, hbG⟩
    exact hK.out _ _ hbG rfl
  · intro A wx hR hout hdep K hK
    have h183 : A.tmps[183]?.getD undef = .string X183 := hdep 183 (by kernel_rfl)
    have h186 : A.tmps[186]?.getD undef = .string X186 := hdep 186 (by kernel_rfl)
    refine if_yes (by kernel_rfl) ?_
    simp [go_sem, h183, h186, a183, a187, a188, a192, a193, a197]
    exact hK.out _ _ (Below.refl _ _) rfl
  · intro A wx hR hout hdep K hK
    have h187 : A.tmps[187]?.getD undef = .string X187 := hdep 187 (by kernel_rfl)
    refine if_yes (by kernel_rfl) ?_
    simp [go_sem, h187, a183, a187, a188, a192, a193, a197]
    exact hK.out _ _ (Below.refl _ _) rfl
  · intro A wx hR hout hdep K hK
    have h2 : A.tmps[2]?.getD undef = .pointer (some ⟨w.heap.size, 0, none⟩) := hout 2 (by kernel_rfl)
    refine if_yes (by kernel_rfl) ?_
    simp [go_sem, h2, a183, a187, a188, a192, a193, a197]
    exact hK.out _ _ (Below.refl _ _) rfl
  · intro A wx hR hout hdep K hK
    have h189 : A.tmps[189]?.getD undef = .pointer (some ⟨w.heap.size, 4, none⟩) := hdep 189 (by kernel_rfl)
    refine if_yes (by kernel_rfl) ?_
    have d0 := keep_cell hR d0
    have d1 := keep_cell hR d1
    have d2 := keep_cell hR d2
    have d3 := keep_cell hR d3
    have d4 := keep_cell hR d4
    have d5 := keep_cell hR d5
    simp [go_sem, h189, d0, d1, d2, d3, d4, d5, a183, a187, a188, a192, a193, a197]
    exact hK.out _ _ (Below.refl _ _) rfl
  · intro A wx hR hout hdep K hK
    have h190 : A.tmps[190]?.getD undef = .int .i64 i.sa := hdep 190 (by kernel_rfl)
    refine if_yes (by kernel_rfl) ?_
    simp [go_sem, h190, a183, a187, a188, a192, a193, a197]
    refine (K191.out wx).mono ?_
    rintro e wG ⟨rfl, hbG⟩
    exact hK.out _ _ hbG rfl
  · intro A wx hR hout hdep K hK
    have h188 : A.tmps[188]?.getD undef = .string X188 := hdep 188 (by kernel_rfl)
    have h191 : A.tmps[191]?.getD undef = .string X191 := hdep 191 (by kernel_rfl)
    refine if_yes (by kernel_rfl) ?_
    simp [go_sem, h188, h191, a183, a187, a188, a192, a193, a197]
    exact hK.out _ _ (Below.refl _ _) rfl
  · intro A wx hR hout hdep K hK
    have h192 : A.tmps[192]?.getD undef = .string X192 := hdep 192 (by kernel_rfl)
    refine if_yes (by kernel_rfl) ?_
    simp [go_sem, h192, a183, a187, a188, a192, a193, a197]
    exact hK.out _ _ (Below.refl _ _) rfl
  · intro A wx hR hout hdep K hK
    have h2 : A.tmps[2]?.getD undef = .pointer (some ⟨w.heap.size, 0, none⟩) := hout 2 (by kernel_rfl)
    refine if_yes (by kernel_rfl) ?_
    simp [go_sem, h2, a183, a187, a188, a192, a193, a197]
    exact hK.out _ _ (Below.refl _ _) rfl
  · intro A wx hR hout hdep K hK
    have h194 : A.tmps[194]?.getD undef = .pointer (some ⟨w.heap.size, 3, none⟩) := hdep 194 (by kernel_rfl)
    refine if_yes (by kernel_rfl) ?_
    have d0 := keep_cell hR d0
    have d1 := keep_cell hR d1
    have d2 := keep_cell hR d2
    have d3 := keep_cell hR d3
    have d4 := keep_cell hR d4
    have d5 := keep_cell hR d5
    simp [go_sem, h194, d0, d1, d2, d3, d4, d5, a183, a187, a188, a192, a193, a197]
    exact hK.out _ _ (Below.refl _ _) rfl
  · intro A wx hR hout hdep K hK
    have h195 : A.tmps[195]?.getD undef = .int .i64 i.rd := hdep 195 (by kernel_rfl)
    refine if_yes (by kernel_rfl) ?_
    simp [go_sem, h195, a183, a187, a188, a192, a193, a197]
    refine (K196.out wx).mono ?_
    rintro e wG ⟨rfl, hbG⟩
    exact hK.out _ _ hbG rfl
  · intro A wx hR hout hdep K hK
    have h193 : A.tmps[193]?.getD undef = .string X193 := hdep 193 (by kernel_rfl)
    have h196 : A.tmps[196]?.getD undef = .string X196 := hdep 196 (by kernel_rfl)
    refine if_yes (by kernel_rfl) ?_
    simp [go_sem, h193, h196, a183, a187, a188, a192, a193, a197]
    exact hK.out _ _ (Below.refl _ _) rfl
  · intro A wx hR hout hdep K hK
    have h197 : A.tmps[197]?.getD undef = .string X197 := hdep 197 (by kernel_rfl)
    refine if_yes (by kernel_rfl) ?_
    simp [go_sem, h197, a183, a187, a188, a192, a193, a197]
    exact hK.out _ _ (Below.refl _ _) rfl
  have hv : f 4 = .string X197 := hf 4 (by kernel_rfl)
  simp only [putSl, Act.put, List.setIfInBounds_toArray, List.set_cons_zero, List.set_cons_succ, hv]
  have HB2 : Hid (Below w.heap.size w wy) := below_tr HB.out hR
  clear hf hv hR
  go_wp2
  go_ret
  exact ⟨rfl, HB2.out⟩
end Go.Proofs.YtglkkeelocdanaaGreatDoor
