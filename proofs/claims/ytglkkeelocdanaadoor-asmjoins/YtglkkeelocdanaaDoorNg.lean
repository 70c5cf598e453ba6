/- What is proved here: the reader's steps: a text, a number and a name are taken off a line, or it throws. -/
import Derived.Test.YtglkkeelocdanaaDoorNf
import Derived.Test.YtglkkeelocdanaaDoorNd
import Derived.LoopTactic
import Derived.LoopN
namespace Go.Proofs.YtglkkeelocdanaaDoor
open Go.RowKit
set_option linter.unusedVariables false
set_option linter.unusedSimpArgs false
set_option maxRecDepth 100000
/-- The reader's block: what is left of the line. -/
abbrev Rd (R : Nat) (w : World) (l : L8) : Prop := Boxed w R 62 (.string ⟨l.toArray⟩)
theorem grown_of {w w' : World} {row : Option Nat} (hb : Below w.heap.size w w') : w.grownBy w' row := ⟨hb.os, hb.tape, hb.output, hb.size, fun k hk _ => hb.block k hk⟩
theorem gb_trans {a b c : World} {row : Option Nat} (h : a.grownBy b row) (k : b.grownBy c row) : a.grownBy c row := ⟨k.os.trans h.os, k.tape.trans h.tape, k.output.trans h.output, Nat.le_trans h.size k.size, fun i hi hr => (k.block i (Nat.lt_of_lt_of_le hi h.size) hr).trans (h.block i hi hr)⟩
theorem grown_set (w : World) (b : Nat) (v : Value) : w.grownBy (w.setCell ⟨b, 0, none⟩ v) (some b) :=
  ⟨rfl, rfl, rfl, (KeepsWalks.setCell w _ v).size, fun j _ hk => Below.heap_setCell _ _ _ j (fun e => hk (by rw [e]))⟩
theorem bal (l : L8) : (⟨l.toArray⟩ : ByteArray).toList = l := by rw [ByteArray.toList_eq]
theorem trim_is (x l : L8) (h : x.isPrefixOf l = true) : Lib.trimPrefix l x = l.drop x.length := by
  unfold Lib.trimPrefix Lib.hasPrefix
  rw [if_pos h]
theorem text45_ok (R : Nat) (x : ByteArray) (l l' : L8) (w : World) (hr : Rd R w l) (h : textR x.toList l = some l') :
    Calls Tryd.prog 31 #[.pointer (some ⟨R, 0, none⟩), .string x] w fun e w' => e = .returned (.tuple #[]) ∧ Rd R w' l' ∧ w.grownBy w' (some R) := by
  unfold textR at h
  split at h
  · rename_i hp
    injection h with h
    have K64 := prefix64 ⟨l.toArray⟩ x w
    rw [bal, trim_is _ _ hp, hp, h] at K64
    have c0 := hr.cell
    have z0 := hr.frozen
    have HE : Hid (Rd R (w.setCell ⟨R, 0, none⟩ (.string ⟨l'.toArray⟩)) l' ∧ w.grownBy (w.setCell ⟨R, 0, none⟩ (.string ⟨l'.toArray⟩)) (some R)) := ⟨Boxed.set _ hr, grown_set _ _ _⟩
    clear h hp hr
    have M := must46_ok w
    go_enter Tryd.func31, Tryd.ntmps31
    go_wp2_with fail
    refine K64.mono ?_
    rintro e w1 ⟨rfl, rfl⟩
    clear K64
    go_wp2_with fail
    refine M.mono ?_
    rintro e w2 ⟨rfl, rfl⟩
    clear M
    go_wp2
    simp [bodyPost, results, Tryd.results31]
    exact HE.out
  · cases h
theorem text45_no (R : Nat) (x : ByteArray) (l : L8) (w : World) (hr : Rd R w l) (h : textR x.toList l = none) :
    Calls Tryd.prog 31 #[.pointer (some ⟨R, 0, none⟩), .string x] w fun e w' => e = .panicked thrown110 ∧ w' = w := by
  unfold textR at h
  split at h
  · cases h
  · rename_i hp
    have hp : x.toList.isPrefixOf l = false := by cases hh : x.toList.isPrefixOf l with
      | false => rfl
      | true => exact absurd hh hp
    have K64 := prefix64 ⟨l.toArray⟩ x w
    rw [bal, hp] at K64
    have c0 := hr.cell
    clear h hp hr
    have M := must46_no w
    go_enter Tryd.func31, Tryd.ntmps31
    go_wp2_with fail
    refine K64.mono ?_
    rintro e w1 ⟨rfl, rfl⟩
    clear K64
    go_wp2_with fail
    refine M.mono ?_
    rintro e w2 ⟨rfl, rfl⟩
    exact ⟨rfl, rfl, rfl⟩
def numB : ByteArray := ⟨#[45, 48, 49, 50, 51, 52, 53, 54, 55, 56, 57]⟩
theorem numB_ix (c : UInt8) : decide (0 ≤ Lib.indexByte numB.toList c) = isNum c := by
  have key : ∀ k : Fin 256, decide (0 ≤ Lib.indexByte numB.toList (UInt8.ofNat k.val)) = isNum (UInt8.ofNat k.val) := by decide +kernel
  have := key ⟨c.toNat, UInt8.toNat_lt c⟩
  simpa using this
theorem takeWhile_at (l : L8) : ∀ k, k ≤ l.length → (∀ c ∈ l.take k, isNum c = true) → (∀ c ∈ (l.drop k).head?, isNum c = false) → l.takeWhile isNum = l.take k ∧ l.dropWhile isNum = l.drop k := by
  induction l with
  | nil => intro k hk _ _; simp
  | cons x t ih =>
    intro k hk h1 h2
    cases k with
    | zero =>
      have hx := h2 x (by simp)
      simp [List.takeWhile, List.dropWhile, hx]
    | succ k =>
      have hx := h1 x (by simp)
      obtain ⟨e1, e2⟩ := ih k (by simpa using hk) (fun c hc => h1 c (by simp [hc])) (fun c hc => h2 c (by simpa using hc))
      simp only [List.takeWhile_cons, List.dropWhile_cons, hx, if_true, e1, e2, List.take_succ_cons, List.drop_succ_cons, and_self]
set_option maxHeartbeats 1000000 in
theorem number44 (R : Nat) (l : L8) (hn : l.length ≤ 100000) (w : World) (hr : Rd R w l) (hl : Lw w) :
    Calls Tryd.prog 30 #[.pointer (some ⟨R, 0, none⟩)] w fun e w' => match numR l with
      | some r => e = .returned (.int .i64 r.1) ∧ Rd R w' r.2 ∧ w.grownBy w' (some R)
      | none => e = .panicked thrown110 ∧ w.grownBy w' (some R) := by
  obtain ⟨S, hS⟩ : ∃ S : ByteArray, S = ⟨l.toArray⟩ := ⟨_, rfl⟩
  have hSl : S.toList = l := by rw [hS]; exact bal l
  have hsz : S.size = l.length := by rw [← hSl, bt_len]
  have c0 : w.cell? ⟨R, 0, none⟩ = some (.string S) := by rw [hS]; exact hr.cell
  have z0 := hr.frozen
  have HR : Hid (Boxed w R 62 (.string S)) := by rw [hS]; exact hr
  have HL : Hid (Lw w) := hl
  have KI : Hid (∀ (c : Nat), c < 256 → ∀ w', Calls Tryd.prog 50 #[.string ⟨#[45, 48, 49, 50, 51, 52, 53, 54, 55, 56, 57]⟩, .int .u8 (c : Int)] w' fun e w'' => (∃ i : Int, e = .returned (.int .i64 i) ∧ decide (0 ≤ i) = isNum (UInt8.ofNat c)) ∧ w'' = w') := fun c hc w' => by
    refine (index78 numB c w').mono ?_
    rintro e w'' ⟨rfl, rfl⟩
    exact ⟨⟨_, rfl, numB_ix _⟩, rfl⟩
  obtain ⟨post, hpost⟩ : ∃ p : Ending → World → Prop, p = fun e w' => match numR l with
      | some r => e = .returned (.int .i64 r.1) ∧ Rd R w' r.2 ∧ w.grownBy w' (some R)
      | none => e = .panicked thrown110 ∧ w.grownBy w' (some R) := ⟨_, rfl⟩
  rw [← hpost]
  have HP : Hid (∀ e w', (match numR l with
      | some r => e = .returned (.int .i64 r.1) ∧ Rd R w' r.2 ∧ w.grownBy w' (some R)
      | none => e = .panicked thrown110 ∧ w.grownBy w' (some R)) → post e w') := fun e w' h => by rw [hpost]; exact h
  have HSL : Hid (S.toList = l) := hSl
  have HSZ : Hid (S.size = l.length) := hsz
  have hSm : S.size ≤ 100000 := by omega
  clear hpost hr hl hS hSl hsz
  go_enter Tryd.func30, Tryd.ntmps30
  go_wp2
  go_loopw [3] (fun x wr => ∃ k : Nat, x = .int .i64 (k : Int) ∧ k ≤ S.size ∧ wr = w ∧ ∀ c ∈ l.take k, isNum c = true) (fun x _ => S.size - (intOf x).toNat)
  case atStart => exact ⟨0, rfl, Nat.zero_le _, rfl, by simp⟩
  case round =>
    obtain ⟨k, rfl, hk, rfl, hall⟩ := hrel
    by_cases hlt : k < S.size
    · have hll : k < S.toList.length := by rw [bt_len]; exact hlt
      obtain ⟨b, hb⟩ : ∃ b, b = S.toList[k] := ⟨_, rfl⟩
      have hix : S[k] = b := by rw [hb]; exact bt_get S k hlt hll
      have hb2 : l.drop k = b :: l.drop (k + 1) := by
        have := drop_cons S.toList k hll
        rw [← hb, HSL.out] at this
        exact this
      have hb3 : l.take (k + 1) = l.take k ++ [b] := by
        have h := acc_snoc S.toList 0 k hll (Nat.zero_le _)
        rw [← hb, HSL.out, List.drop_zero, List.drop_zero] at h
        exact h
      have K := KI.out b.toNat (UInt8.toNat_lt b) wr
      rw [UInt8.ofNat_toNat] at K
      have hik : (k : Int) < (S.size : Int) := by omega
      clear hb
      cases hnum : isNum b with
      | true =>
        rw [hnum] at K
        have HA : Hid (∀ c ∈ l.take (k + 1), isNum c = true) := fun c hc => by
          rw [hb3, List.mem_append] at hc
          rcases hc with hc | hc
          · exact hall c hc
          · rw [show c = b by simpa using hc]; exact hnum
        clear hb2 hb3 hnum hall
        go_wp2_with fail
        refine K.mono ?_
        rintro e w1 ⟨⟨i, rfl, hi⟩, rfl⟩
        clear K
        have hi : (0 : Int) ≤ i := of_decide_eq_true hi
        go_wp2
        go_roundw
        case rel => exact ⟨k + 1, by simp, by omega, by first | rfl | trivial, HA.out⟩
        case measure => simp [intOf]; omega
      | false =>
        rw [hnum] at K
        have htw := takeWhile_at l k (by rw [← HSZ.out]; exact hk) hall (by rw [hb2]; intro c hc; rw [show c = b by simpa using hc.symm]; exact hnum)
        clear hb2 hb3 hnum
        have hx : S.extract 0 k = ⟨(l.take k).toArray⟩ := by rw [ext_list, HSL.out, List.drop_zero]
        have hy : S.extract k S.size = ⟨(l.drop k).toArray⟩ := by rw [ext_list, HSL.out, HSZ.out, List.take_length]
        have KA := atoi79 ⟨(l.take k).toArray⟩ (by show (l.take k).toArray.size ≤ _; simp; omega) wr HL.out
        rw [bal] at KA
        obtain ⟨X, hX⟩ : ∃ X : ByteArray, X = ⟨(l.take k).toArray⟩ := ⟨_, rfl⟩
        obtain ⟨Y, hY⟩ : ∃ Y : ByteArray, Y = ⟨(l.drop k).toArray⟩ := ⟨_, rfl⟩
        rw [← hX] at hx KA
        rw [← hY] at hy
        have HY : Hid (Y = ⟨(l.drop k).toArray⟩) := hY
        have HTW : Hid (l.takeWhile isNum = l.take k ∧ l.dropWhile isNum = l.drop k) := htw
        clear hX hY htw hall
        go_wp2_with fail
        refine K.mono ?_
        rintro e w0 ⟨⟨i, rfl, hi⟩, hw0⟩
        obtain rfl : wr = w0 := hw0.symm
        clear K hw0
        have hi' : ¬ (0 : Int) ≤ i := of_decide_eq_false hi
        go_wp2_with fail
        refine KA.mono ?_
        rintro e w1 ⟨⟨v, rfl, hv⟩, hb1⟩
        have c1 := keep_cell hb1 c0
        have z1 := keep_frozen hb1 HR.out.lt z0
        unfold AtoiT at hv
        have HG : Hid (wr.grownBy w1 (some R) ∧ Boxed w1 R 62 (.string S)) := ⟨grown_of hb1, (hb1.block _ HR.out.lt).trans HR.out⟩
        clear KA hb1 c0 z0
        cases ha : Lib.atoiAll (l.take k) with
        | ok n =>
          rw [ha] at hv
          simp only at hv
          subst hv
          have HN : Hid (numR l = some (n, l.drop k)) := by show _ = _; unfold numR; rw [HTW.out.1, HTW.out.2, ha]
          clear ha
          have M := must46_ok w1
          go_wp2_with fail
          refine M.mono ?_
          rintro e w2 ⟨rfl, rfl⟩
          clear M
          go_wp2
          refine HP.out _ _ ?_
          rw [HN.out]
          refine ⟨rfl, ?_, gb_trans HG.out.1 (grown_set _ _ _)⟩
          show Boxed _ _ _ _
          rw [← HY.out]
          exact Boxed.set _ HG.out.2
        | «syntax» =>
          rw [ha] at hv
          obtain ⟨n, N, rfl⟩ := hv
          have HN : Hid (numR l = none) := by show _ = _; unfold numR; rw [HTW.out.1, ha]
          clear ha
          have M := must46_no w1
          go_wp2_with fail
          refine M.mono ?_
          rintro e w2 ⟨rfl, rfl⟩
          refine ⟨rfl, HP.out _ _ ?_⟩
          rw [HN.out]
          exact ⟨rfl, HG.out.1⟩
        | range =>
          rw [ha] at hv
          obtain ⟨n, N, rfl⟩ := hv
          have HN : Hid (numR l = none) := by show _ = _; unfold numR; rw [HTW.out.1, ha]
          clear ha
          have M := must46_no w1
          go_wp2_with fail
          refine M.mono ?_
          rintro e w2 ⟨rfl, rfl⟩
          refine ⟨rfl, HP.out _ _ ?_⟩
          rw [HN.out]
          exact ⟨rfl, HG.out.1⟩
    · have hke : k = S.size := by omega
      have htw := takeWhile_at l k (by rw [← HSZ.out]; exact hk) hall (by rw [List.drop_eq_nil_of_le (by rw [← HSZ.out]; omega)]; intro c hc; simp at hc)
      clear hke
      have hik : decide ((k : Int) < (S.size : Int)) = false := by simpa using hlt
      have hx : S.extract 0 k = ⟨(l.take k).toArray⟩ := by rw [ext_list, HSL.out, List.drop_zero]
      have hy : S.extract k S.size = ⟨(l.drop k).toArray⟩ := by rw [ext_list, HSL.out, HSZ.out, List.take_length]
      have KA := atoi79 ⟨(l.take k).toArray⟩ (by show (l.take k).toArray.size ≤ _; simp; omega) wr HL.out
      rw [bal] at KA
      obtain ⟨X, hX⟩ : ∃ X : ByteArray, X = ⟨(l.take k).toArray⟩ := ⟨_, rfl⟩
      obtain ⟨Y, hY⟩ : ∃ Y : ByteArray, Y = ⟨(l.drop k).toArray⟩ := ⟨_, rfl⟩
      rw [← hX] at hx KA
      rw [← hY] at hy
      have HY : Hid (Y = ⟨(l.drop k).toArray⟩) := hY
      have HTW : Hid (l.takeWhile isNum = l.take k ∧ l.dropWhile isNum = l.drop k) := htw
      clear hX hY htw hall
      go_wp2_with fail
      refine KA.mono ?_
      rintro e w1 ⟨⟨v, rfl, hv⟩, hb1⟩
      have c1 := keep_cell hb1 c0
      have z1 := keep_frozen hb1 HR.out.lt z0
      unfold AtoiT at hv
      have HG : Hid (wr.grownBy w1 (some R) ∧ Boxed w1 R 62 (.string S)) := ⟨grown_of hb1, (hb1.block _ HR.out.lt).trans HR.out⟩
      clear KA hb1 c0 z0
      cases ha : Lib.atoiAll (l.take k) with
      | ok n =>
        rw [ha] at hv
        simp only at hv
        subst hv
        have HN : Hid (numR l = some (n, l.drop k)) := by show _ = _; unfold numR; rw [HTW.out.1, HTW.out.2, ha]
        clear ha
        have M := must46_ok w1
        go_wp2_with fail
        refine M.mono ?_
        rintro e w2 ⟨rfl, rfl⟩
        clear M
        go_wp2
        refine HP.out _ _ ?_
        rw [HN.out]
        refine ⟨rfl, ?_, gb_trans HG.out.1 (grown_set _ _ _)⟩
        show Boxed _ _ _ _
        rw [← HY.out]
        exact Boxed.set _ HG.out.2
      | «syntax» =>
        rw [ha] at hv
        obtain ⟨n, N, rfl⟩ := hv
        have HN : Hid (numR l = none) := by show _ = _; unfold numR; rw [HTW.out.1, ha]
        clear ha
        have M := must46_no w1
        go_wp2_with fail
        refine M.mono ?_
        rintro e w2 ⟨rfl, rfl⟩
        refine ⟨rfl, HP.out _ _ ?_⟩
        rw [HN.out]
        exact ⟨rfl, HG.out.1⟩
      | range =>
        rw [ha] at hv
        obtain ⟨n, N, rfl⟩ := hv
        have HN : Hid (numR l = none) := by show _ = _; unfold numR; rw [HTW.out.1, ha]
        clear ha
        have M := must46_no w1
        go_wp2_with fail
        refine M.mono ?_
        rintro e w2 ⟨rfl, rfl⟩
        refine ⟨rfl, HP.out _ _ ?_⟩
        rw [HN.out]
        exact ⟨rfl, HG.out.1⟩
theorem index1 (c : UInt8) : ∀ l : L8, (Lib.index l [c] = -1 ∧ l.takeWhile (· != c) = l ∧ l.dropWhile (· != c) = []) ∨ (∃ k : Nat, Lib.index l [c] = (k : Int) ∧ l.takeWhile (· != c) = l.take k ∧ (l.dropWhile (· != c)).drop 1 = l.drop (k + 1) ∧ l.dropWhile (· != c) ≠ [])
  | [] => .inl ⟨by simp [Lib.index], rfl, rfl⟩
  | b :: t => by
    by_cases hb : b = c
    · subst hb
      exact .inr ⟨0, by simp [Lib.index], by simp, by simp, by simp⟩
    · have hp : [c].isPrefixOf (b :: t) = false := by
        simp only [List.isPrefixOf_cons_cons, List.isPrefixOf_nil_left, Bool.and_true, beq_eq_false_iff_ne]
        exact fun e => hb e.symm
      have hn : (b != c) = true := by simpa using hb
      rcases index1 c t with ⟨h1, h2, h3⟩ | ⟨k, h1, h2, h3, h4⟩
      · refine .inl ⟨?_, ?_, ?_⟩
        · rw [Lib.index, hp, h1]; rfl
        · rw [List.takeWhile_cons, if_pos hn, h2]
        · rw [List.dropWhile_cons, if_pos hn, h3]
      · refine .inr ⟨k + 1, ?_, ?_, ?_, ?_⟩
        · rw [Lib.index, hp, h1]
          rw [if_neg (by decide), if_neg (by simp)]
          omega
        · rw [List.takeWhile_cons, if_pos hn, h2]; rfl
        · rw [List.dropWhile_cons, if_pos hn, h3]; rfl
        · rw [List.dropWhile_cons, if_pos hn]; exact h4
theorem cut1 (c : UInt8) (l : L8) : (Lib.cut l [c]).1 = l.takeWhile (· != c) ∧ (Lib.cut l [c]).2.1 = (l.dropWhile (· != c)).drop 1 := by
  unfold Lib.cut
  rcases index1 c l with ⟨h1, h2, h3⟩ | ⟨k, h1, h2, h3, _⟩
  · rw [h1, if_neg (by decide), h2, h3]; exact ⟨rfl, rfl⟩
  · rw [h1, if_pos (by omega), h2, h3]; exact ⟨rfl, rfl⟩
theorem take_prefix (l : L8) : textR (nameOf l) l = some (restL l) := by
  unfold textR restL
  rw [if_pos (by rw [List.isPrefixOf_iff_prefix]; exact List.takeWhile_prefix _)]
theorem name43_ok (R : Nat) (l : L8) (hn : l.length ≤ 100000) (w : World) (hr : Rd R w l) (hl : Lw w) (hf : formL8 ⟨(nameOf l).toArray⟩ ≠ []) :
    Calls Tryd.prog 29 #[.pointer (some ⟨R, 0, none⟩)] w fun e w' => e = .returned (.string ⟨(nameOf l).toArray⟩) ∧ Rd R w' (restL l) ∧ w.grownBy w' (some R) := by
  have KC := cut62 ⟨l.toArray⟩ ⟨#[32]⟩ (by show l.toArray.size < _; simp; omega) w hl
  rw [bal, show (⟨#[32]⟩ : ByteArray).toList = [32] from bal [32], (cut1 32 l).1] at KC
  have KT : Hid (∀ w', Rd R w' l → Calls Tryd.prog 31 #[.pointer (some ⟨R, 0, none⟩), .string ⟨(nameOf l).toArray⟩] w' fun e w'' => e = .returned (.tuple #[]) ∧ Rd R w'' (restL l) ∧ w'.grownBy w'' (some R)) := fun w' h => text45_ok R _ l _ w' h (by rw [bal]; exact take_prefix l)
  have KF : Hid (∀ w', Calls Tryd.prog 40 #[.string ⟨(nameOf l).toArray⟩] w' fun e w'' => e = .returned (.string (foundR (nameB ⟨(nameOf l).toArray⟩)).form) ∧ Below w'.heap.size w' w'') := fun w' => form13 _ w'
  have hne : ((foundR (nameB ⟨(nameOf l).toArray⟩)).form.toList == []) = false := by simpa [formL8] using hf
  have c0 := hr.cell
  have HR : Hid (Rd R w l) := hr
  change Calls _ _ _ _ (fun e w' => e = .returned (.tuple #[.string ⟨(nameOf l).toArray⟩, _, _]) ∧ _) at KC
  generalize (Lib.cut l [32]).2.1 = Y at KC
  generalize (Lib.cut l [32]).2.2 = Z at KC
  generalize (⟨(nameOf l).toArray⟩ : ByteArray) = NM at KC KT KF hne ⊢
  generalize (foundR (nameB NM)).form = F at KF hne
  generalize restL l = RS at KT ⊢
  clear hr hl hf hn
  go_enter Tryd.func29, Tryd.ntmps29
  go_wp2_with fail
  refine KC.mono ?_
  rintro e w1 ⟨rfl, hb1⟩
  clear KC
  go_wp2_with fail
  refine (KF.out w1).mono ?_
  rintro e w2 ⟨rfl, hb2⟩
  have M := must46_ok w2
  go_wp2_with fail
  refine M.mono ?_
  rintro e w3 ⟨rfl, rfl⟩
  clear M
  have hb := below_tr hb1 hb2
  have HRW : Hid (Rd R w3 l ∧ w.grownBy w3 (some R)) := ⟨(hb.block _ HR.out.lt).trans HR.out, grown_of hb⟩
  clear hb1 hb2 hb KF
  go_wp2_with fail
  refine (KT.out w3 HRW.out.1).mono ?_
  rintro e w4 ⟨rfl, hr4, hg4⟩
  go_wp2
  go_ret
  exact ⟨rfl, hr4, gb_trans HRW.out.2 hg4⟩
theorem name43_no (R : Nat) (l : L8) (hn : l.length ≤ 100000) (w : World) (hr : Rd R w l) (hl : Lw w) (hf : formL8 ⟨(nameOf l).toArray⟩ = []) :
    Calls Tryd.prog 29 #[.pointer (some ⟨R, 0, none⟩)] w fun e w' => e = .panicked thrown110 ∧ w.grownBy w' (some R) := by
  have KC := cut62 ⟨l.toArray⟩ ⟨#[32]⟩ (by show l.toArray.size < _; simp; omega) w hl
  rw [bal, show (⟨#[32]⟩ : ByteArray).toList = [32] from bal [32], (cut1 32 l).1] at KC
  have KF : Hid (∀ w', Calls Tryd.prog 40 #[.string ⟨(nameOf l).toArray⟩] w' fun e w'' => e = .returned (.string (foundR (nameB ⟨(nameOf l).toArray⟩)).form) ∧ Below w'.heap.size w' w'') := fun w' => form13 _ w'
  have hne : ((foundR (nameB ⟨(nameOf l).toArray⟩)).form.toList == []) = true := by simpa [formL8] using hf
  have c0 := hr.cell
  change Calls _ _ _ _ (fun e w' => e = .returned (.tuple #[.string ⟨(nameOf l).toArray⟩, _, _]) ∧ _) at KC
  generalize (Lib.cut l [32]).2.1 = Y at KC
  generalize (Lib.cut l [32]).2.2 = Z at KC
  generalize (⟨(nameOf l).toArray⟩ : ByteArray) = NM at KC KF hne
  generalize (foundR (nameB NM)).form = F at KF hne
  clear hr hl hf hn
  go_enter Tryd.func29, Tryd.ntmps29
  go_wp2_with fail
  refine KC.mono ?_
  rintro e w1 ⟨rfl, hb1⟩
  clear KC
  go_wp2_with fail
  refine (KF.out w1).mono ?_
  rintro e w2 ⟨rfl, hb2⟩
  have M := must46_no w2
  go_wp2_with fail
  refine M.mono ?_
  rintro e w3 ⟨rfl, rfl⟩
  exact ⟨rfl, rfl, grown_of (below_tr hb1 hb2)⟩
end Go.Proofs.YtglkkeelocdanaaDoor
