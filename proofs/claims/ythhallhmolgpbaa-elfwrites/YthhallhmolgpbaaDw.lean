/- What is proved here: the document's small functions: what may be done by flags, and back; numbers as bytes, and of bytes. -/
import Derived.Test.YthhallhmolgpbaaTk
import Derived.Test.YthhallhmolgpbaaWn
namespace Go.Proofs.Ythhallhmolgpbaa
open Go.RowKit
set_option linter.unusedVariables false
set_option linter.unusedSimpArgs false
set_option maxRecDepth 100000
theorem prot_of (a b c : Nat) (f : Nat) (h1 : f / 4 % 2 = a) (h2 : f / 2 % 2 = b) (h3 : f % 2 = c) : protN f = c * 4 + (b * 2 + a) := by rw [protN_mod, h1, h2, h3]
set_option maxHeartbeats 1000000 in
theorem rprots12 (f : Nat) (hf : f < 4294967296) (w : World) : Calls Try.prog 12 #[.int .u32 (f : Int)] w fun e w' => e = .returned (.int .i64 (protN f : Int)) ∧ w' = w := by
  have e1 := and1 f hf
  have e2 := and2 f hf
  have e4 := and4 f hf
  rcases (show f / 4 % 2 = 0 ∨ f / 4 % 2 = 1 by omega) with h1 | h1
  · rcases (show f / 2 % 2 = 0 ∨ f / 2 % 2 = 1 by omega) with h2 | h2
    · rcases (show f % 2 = 0 ∨ f % 2 = 1 by omega) with h3 | h3
      · rw [prot_of 0 0 0 f h1 h2 h3]
        rw [h1] at e4
        rw [h2] at e2
        rw [h3] at e1
        have e4 : bits .and .u32 (f : Int) 4 = 0 := e4
        have e2 : bits .and .u32 (f : Int) 2 = 0 := e2
        have e1 : bits .and .u32 (f : Int) 1 = 0 := e1
        clear h1 h2 h3 hf
        go_enter Try.func12, Try.ntmps12
        go_wp2
        go_ret
        exact ⟨rfl, rfl⟩
      · rw [prot_of 0 0 1 f h1 h2 h3]
        rw [h1] at e4
        rw [h2] at e2
        rw [h3] at e1
        have e4 : bits .and .u32 (f : Int) 4 = 0 := e4
        have e2 : bits .and .u32 (f : Int) 2 = 0 := e2
        have e1 : bits .and .u32 (f : Int) 1 = 1 := e1
        clear h1 h2 h3 hf
        go_enter Try.func12, Try.ntmps12
        go_wp2
        go_ret
        exact ⟨rfl, rfl⟩
    · rcases (show f % 2 = 0 ∨ f % 2 = 1 by omega) with h3 | h3
      · rw [prot_of 0 1 0 f h1 h2 h3]
        rw [h1] at e4
        rw [h2] at e2
        rw [h3] at e1
        have e4 : bits .and .u32 (f : Int) 4 = 0 := e4
        have e2 : bits .and .u32 (f : Int) 2 = 2 := e2
        have e1 : bits .and .u32 (f : Int) 1 = 0 := e1
        clear h1 h2 h3 hf
        go_enter Try.func12, Try.ntmps12
        go_wp2
        go_ret
        exact ⟨rfl, rfl⟩
      · rw [prot_of 0 1 1 f h1 h2 h3]
        rw [h1] at e4
        rw [h2] at e2
        rw [h3] at e1
        have e4 : bits .and .u32 (f : Int) 4 = 0 := e4
        have e2 : bits .and .u32 (f : Int) 2 = 2 := e2
        have e1 : bits .and .u32 (f : Int) 1 = 1 := e1
        clear h1 h2 h3 hf
        go_enter Try.func12, Try.ntmps12
        go_wp2
        go_ret
        exact ⟨rfl, rfl⟩
  · rcases (show f / 2 % 2 = 0 ∨ f / 2 % 2 = 1 by omega) with h2 | h2
    · rcases (show f % 2 = 0 ∨ f % 2 = 1 by omega) with h3 | h3
      · rw [prot_of 1 0 0 f h1 h2 h3]
        rw [h1] at e4
        rw [h2] at e2
        rw [h3] at e1
        have e4 : bits .and .u32 (f : Int) 4 = 4 := e4
        have e2 : bits .and .u32 (f : Int) 2 = 0 := e2
        have e1 : bits .and .u32 (f : Int) 1 = 0 := e1
        clear h1 h2 h3 hf
        go_enter Try.func12, Try.ntmps12
        go_wp2
        go_ret
        exact ⟨rfl, rfl⟩
      · rw [prot_of 1 0 1 f h1 h2 h3]
        rw [h1] at e4
        rw [h2] at e2
        rw [h3] at e1
        have e4 : bits .and .u32 (f : Int) 4 = 4 := e4
        have e2 : bits .and .u32 (f : Int) 2 = 0 := e2
        have e1 : bits .and .u32 (f : Int) 1 = 1 := e1
        clear h1 h2 h3 hf
        go_enter Try.func12, Try.ntmps12
        go_wp2
        go_ret
        exact ⟨rfl, rfl⟩
    · rcases (show f % 2 = 0 ∨ f % 2 = 1 by omega) with h3 | h3
      · rw [prot_of 1 1 0 f h1 h2 h3]
        rw [h1] at e4
        rw [h2] at e2
        rw [h3] at e1
        have e4 : bits .and .u32 (f : Int) 4 = 4 := e4
        have e2 : bits .and .u32 (f : Int) 2 = 2 := e2
        have e1 : bits .and .u32 (f : Int) 1 = 0 := e1
        clear h1 h2 h3 hf
        go_enter Try.func12, Try.ntmps12
        go_wp2
        go_ret
        exact ⟨rfl, rfl⟩
      · rw [prot_of 1 1 1 f h1 h2 h3]
        rw [h1] at e4
        rw [h2] at e2
        rw [h3] at e1
        have e4 : bits .and .u32 (f : Int) 4 = 4 := e4
        have e2 : bits .and .u32 (f : Int) 2 = 2 := e2
        have e1 : bits .and .u32 (f : Int) 1 = 1 := e1
        clear h1 h2 h3 hf
        go_enter Try.func12, Try.ntmps12
        go_wp2
        go_ret
        exact ⟨rfl, rfl⟩
def flF (p : Int) : Nat → Nat
  | 0 => 0
  | k + 1 => if (protN k : Int) = p then k else flF p k
theorem fl_is : ∀ p : Fin 8, flF (p.val : Int) 8 = protN p.val := by decide
theorem flF_lt (p : Int) : ∀ k, flF p k ≤ k
  | 0 => Nat.le_refl _
  | k + 1 => by rw [flF]; split; omega; exact Nat.le_succ_of_le (flF_lt p k)
set_option maxHeartbeats 1000000 in
theorem flags32 (p : Int) (w : World) : Calls Try.prog 32 #[.int .i64 p] w fun e w' => e = .returned (.int .u32 (flF p 8 : Int)) ∧ w' = w := by
  go_enter Try.func32, Try.ntmps32
  go_wp2
  go_loopw [3, 4] (fun x y wr => ∃ k : Nat, x = .int .u32 (flF p k : Int) ∧ y = .int .u32 (k : Int) ∧ k ≤ 8 ∧ wr = w) (fun _ y _ => 8 - (intOf y).toNat)
  case atStart => exact ⟨0, rfl, rfl, by decide, rfl⟩
  case round =>
    obtain ⟨k, rfl, rfl, hk, rfl⟩ := hrel
    by_cases hlt : k < 8
    · have hi : (k : Int) < 8 := by omega
      have K := rprots12 k (by omega) wr
      have hm : ((k : Int) + 1) % 4294967296 = (k : Int) + 1 := by omega
      by_cases he : (protN k : Int) = p
      · have HF : Hid (flF p (k + 1) = k) := by show _ = _; rw [flF, if_pos he]
        have e1 : ((protN k : Int) == p) = true := by rw [he]; exact beq_self_eq_true _
        generalize (protN k : Int) = q at K e1
        clear he
        go_wp2_with fail
        refine K.mono ?_
        rintro e w1 ⟨rfl, rfl⟩
        clear K
        go_wp2
        go_roundw
        case rel => exact ⟨k + 1, by rw [HF.out], by go_num, by omega, by first | rfl | trivial⟩
        case measure => simp [intOf]; omega
      · have HF : Hid (flF p (k + 1) = flF p k) := by show _ = _; rw [flF, if_neg he]
        have e1 : ((protN k : Int) == p) = false := by rw [beq_eq_false_iff_ne]; exact he
        generalize (protN k : Int) = q at K e1
        clear he
        go_wp2_with fail
        refine K.mono ?_
        rintro e w1 ⟨rfl, rfl⟩
        clear K
        go_wp2
        go_roundw
        case rel => exact ⟨k + 1, by rw [HF.out], by go_num, by omega, by first | rfl | trivial⟩
        case measure => simp [intOf]; omega
    · have hk8 : k = 8 := by omega
      subst hk8
      go_wp2
      go_ret
      exact ⟨rfl, rfl⟩
theorem rput48 (v n : Nat) (hv : v < 4294967296) (hn : n ≤ 8) (w : World) : Calls Try.prog 48 #[.int .u64 (v : Int), .int .i64 (n : Int)] w fun e w' => e = .returned (.string ⟨(bN n v).toArray⟩) ∧ Below w.heap.size w w' := by
  have h := W.rputBe_any v (by omega) (n : Int) w
  have e : W.putBeS v (n : Int) = ⟨(bN n v).toArray⟩ := by
    unfold W.putBeS bN
    rw [if_pos (by omega)]
    rfl
  rw [e] at h
  exact h
theorem h30 (n : Nat) (hn : n < 4294967296) (w : World) : Calls Try.prog 30 #[.int .i64 (n : Int)] w fun e w' => e = .returned (.string ⟨(bN 2 n).toArray⟩) ∧ Below w.heap.size w w' := by
  have K := rput48 n 2 hn (by decide) w
  have hm : (n : Int) % 18446744073709551616 = (n : Int) := by omega
  have hi : (n : Int) < 4294967296 := by omega
  generalize (⟨(bN 2 n).toArray⟩ : ByteArray) = X at K ⊢
  clear hn
  go_enter Try.func30, Try.ntmps30
  go_wp2_with fail
  refine K.mono ?_
  rintro e w1 ⟨rfl, hb⟩
  go_wp2
  go_ret
  exact ⟨rfl, hb⟩
theorem w31 (n : Nat) (hn : n < 4294967296) (w : World) : Calls Try.prog 31 #[.int .u32 (n : Int)] w fun e w' => e = .returned (.string ⟨(bN 4 n).toArray⟩) ∧ Below w.heap.size w w' := by
  have K := rput48 n 4 hn (by decide) w
  have hm : (n : Int) % 18446744073709551616 = (n : Int) := by omega
  have hi : (n : Int) < 4294967296 := by omega
  generalize (⟨(bN 4 n).toArray⟩ : ByteArray) = X at K ⊢
  clear hn
  go_enter Try.func31, Try.ntmps31
  go_wp2_with fail
  refine K.mono ?_
  rintro e w1 ⟨rfl, hb⟩
  go_wp2
  go_ret
  exact ⟨rfl, hb⟩
set_option maxHeartbeats 1000000 in
theorem half24 (l : L8) (a : Nat) (h : a + 2 ≤ l.length) (hl : l.length ≤ 1000000) (w : World) : Calls Try.prog 24 #[.string ⟨l.toArray⟩, .int .i64 (a : Int)] w fun e w' => e = .returned (.int .i64 (hf l a : Int)) ∧ w' = w := by
  obtain ⟨S, hS⟩ : ∃ S : ByteArray, S = ⟨l.toArray⟩ := ⟨_, rfl⟩
  have hSl : S.toList = l := by rw [hS]; exact bal l
  have hsz : S.size = l.length := by rw [← hSl, bt_len]
  have hex : S.extract a (a + 2) = ⟨((l.drop a).take 2).toArray⟩ := by
    rw [ext_list, hSl]
    congr 2
    rw [List.take_add, List.drop_append_of_le_length (by simp; omega), List.drop_take, Nat.sub_self, List.take_zero, List.nil_append]
  have K := W.rbe_any ⟨((l.drop a).take 2).toArray⟩ w (by show ((l.drop a).take 2).toArray.size ≤ _; simp; omega)
  have eb : W.beS ⟨((l.drop a).take 2).toArray⟩ = hf l a := beS_take (l.drop a) 2 (by decide)
  rw [eb, ← hex] at K
  have hlt := hf_lt l a
  have h1 : (hf l a : Int) % 4294967296 = (hf l a : Int) := by omega
  have h2 : wrap64 (hf l a : Int) = (hf l a : Int) := by unfold wrap64; omega
  have i1 : (a : Int) + 2 ≤ (S.size : Int) := by omega
  have i2 : (S.size : Int) ≤ 1000000 := by omega
  have n1 : a + 2 ≤ S.size := by omega
  have sl : ∀ W', (Instr.slice 9 (.string S) (some (.int .i64 (a : Int))) (some (.int .i64 ((a : Int) + 2))) none).run Try.prog W' = .ok (.string (S.extract a (a + 2))) W' := fun W' => by
    rw [run_slice_string W' 9 S .i64 .i64 (a : Int) ((a : Int) + 2) Try.underlying9 (by omega) (by omega) (by omega)]
    congr 3
  rw [← hS]
  generalize hf l a = V at K hlt h1 h2 ⊢
  generalize S.extract a (a + 2) = X at K sl
  clear hS hSl hsz hex eb h hl hlt
  go_enter Try.func24, Try.ntmps24
  go_wp2_with fail
  refine K.mono ?_
  rintro e w1 ⟨rfl, rfl⟩
  go_wp2
  go_ret
  exact ⟨rfl, rfl⟩
set_option maxHeartbeats 1000000 in
theorem word25 (l : L8) (a : Nat) (h : a + 4 ≤ l.length) (hl : l.length ≤ 1000000) (w : World) : Calls Try.prog 25 #[.string ⟨l.toArray⟩, .int .i64 (a : Int)] w fun e w' => e = .returned (.int .u32 (wd l a : Int)) ∧ w' = w := by
  obtain ⟨S, hS⟩ : ∃ S : ByteArray, S = ⟨l.toArray⟩ := ⟨_, rfl⟩
  have hSl : S.toList = l := by rw [hS]; exact bal l
  have hsz : S.size = l.length := by rw [← hSl, bt_len]
  have hex : S.extract a (a + 4) = ⟨((l.drop a).take 4).toArray⟩ := by
    rw [ext_list, hSl]
    congr 2
    rw [List.take_add, List.drop_append_of_le_length (by simp; omega), List.drop_take, Nat.sub_self, List.take_zero, List.nil_append]
  have K := W.rbe_any ⟨((l.drop a).take 4).toArray⟩ w (by show ((l.drop a).take 4).toArray.size ≤ _; simp; omega)
  have eb : W.beS ⟨((l.drop a).take 4).toArray⟩ = wd l a := beS_take (l.drop a) 4 (by decide)
  rw [eb, ← hex] at K
  have hlt := wd_lt l a
  have h1 : (wd l a : Int) % 4294967296 = (wd l a : Int) := by omega
  have h2 : wrap64 (wd l a : Int) = (wd l a : Int) := by unfold wrap64; omega
  have i1 : (a : Int) + 4 ≤ (S.size : Int) := by omega
  have i2 : (S.size : Int) ≤ 1000000 := by omega
  have n1 : a + 4 ≤ S.size := by omega
  have sl : ∀ W', (Instr.slice 9 (.string S) (some (.int .i64 (a : Int))) (some (.int .i64 ((a : Int) + 4))) none).run Try.prog W' = .ok (.string (S.extract a (a + 4))) W' := fun W' => by
    rw [run_slice_string W' 9 S .i64 .i64 (a : Int) ((a : Int) + 4) Try.underlying9 (by omega) (by omega) (by omega)]
    congr 3
  rw [← hS]
  generalize wd l a = V at K hlt h1 h2 ⊢
  generalize S.extract a (a + 4) = X at K sl
  clear hS hSl hsz hex eb h hl hlt
  go_enter Try.func25, Try.ntmps25
  go_wp2_with fail
  refine K.mono ?_
  rintro e w1 ⟨rfl, rfl⟩
  go_wp2
  go_ret
  exact ⟨rfl, rfl⟩
end Go.Proofs.Ythhallhmolgpbaa
