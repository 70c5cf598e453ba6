/- What is proved here: the document's small functions: what may be done by flags, and back; numbers as bytes, and of bytes. -/
import Derived.Test.YtgdflobcbhnimaaGreatETk
import Derived.Test.YtgdflobcbhnimaaGreatEWn
import Derived.Test.YtgdflobcbhnimaaGreatESl
import Derived.Test.YtgdflobcbhnimaaGreatEWr
namespace Go.Proofs.YtgdflobcbhnimaaGreat.E
open Go.RowKit
set_option linter.unusedVariables false
set_option linter.unusedSimpArgs false
set_option maxRecDepth 100000
theorem prot_of (a b c : Nat) (f : Nat) (h1 : f / 4 % 2 = a) (h2 : f / 2 % 2 = b) (h3 : f % 2 = c) : protN f = c * 4 + (b * 2 + a) := by rw [protN_mod, h1, h2, h3]
set_option maxHeartbeats 1000000 in
theorem rprots12 (f : Nat) (hf : f < 4294967296) (w : World) : Calls Tryz.prog 43 #[.int .u32 (f : Int)] w fun e w' => e = .returned (.int .i64 (protN f : Int)) ∧ w' = w := by
  have e1 := and1 f hf
  have e2 := and2 f hf
  have e4 := and4 f hf
  rcases (show f / 4 % 2 = 0 ∨ f / 4 % 2 = 1 by omega) with h1 | h1
  · rcases (show f / 2 % 2 = 0 ∨ f / 2 % 2 = 1 by omega) with h2 | h2
    · rcases (show f % 2 = 0 ∨ f % 2 = 1 by omega) with h3 | h3
      · rw [prot_of 0 0 0 f h1 h2 h3]
        rw [h1] at e4
        rw [h2] at e2
        rw [h3] at e1
        have e4 : bits .and .u32 (f : Int) 4 = 0 := e4
        have e2 : bits .and .u32 (f : Int) 2 = 0 := e2
        have e1 : bits .and .u32 (f : Int) 1 = 0 := e1
        clear h1 h2 h3 hf
        go_enter Tryz.func43, Tryz.ntmps43
        go_wp2
        go_ret
        exact ⟨rfl, rfl⟩
      · rw [prot_of 0 0 1 f h1 h2 h3]
        rw [h1] at e4
        rw [h2] at e2
        rw [h3] at e1
        have e4 : bits .and .u32 (f : Int) 4 = 0 := e4
        have e2 : bits .and .u32 (f : Int) 2 = 0 := e2
        have e1 : bits .and .u32 (f : Int) 1 = 1 := e1
        clear h1 h2 h3 hf
        go_enter Tryz.func43, Tryz.ntmps43
        go_wp2
        go_ret
        exact ⟨rfl, rfl⟩
    · rcases (show f % 2 = 0 ∨ f % 2 = 1 by omega) with h3 | h3
      · rw [prot_of 0 1 0 f h1 h2 h3]
        rw [h1] at e4
        rw [h2] at e2
        rw [h3] at e1
        have e4 : bits .and .u32 (f : Int) 4 = 0 := e4
        have e2 : bits .and .u32 (f : Int) 2 = 2 := e2
        have e1 : bits .and .u32 (f : Int) 1 = 0 := e1
        clear h1 h2 h3 hf
        go_enter Tryz.func43, Tryz.ntmps43
        go_wp2
        go_ret
        exact ⟨rfl, rfl⟩
      · rw [prot_of 0 1 1 f h1 h2 h3]
        rw [h1] at e4
        rw [h2] at e2
        rw [h3] at e1
        have e4 : bits .and .u32 (f : Int) 4 = 0 := e4
        have e2 : bits .and .u32 (f : Int) 2 = 2 := e2
        have e1 : bits .and .u32 (f : Int) 1 = 1 := e1
        clear h1 h2 h3 hf
        go_enter Tryz.func43, Tryz.ntmps43
        go_wp2
        go_ret
        exact ⟨rfl, rfl⟩
  · rcases (show f / 2 % 2 = 0 ∨ f / 2 % 2 = 1 by omega) with h2 | h2
    · rcases (show f % 2 = 0 ∨ f % 2 = 1 by omega) with h3 | h3
      · rw [prot_of 1 0 0 f h1 h2 h3]
        rw [h1] at e4
        rw [h2] at e2
        rw [h3] at e1
        have e4 : bits .and .u32 (f : Int) 4 = 4 := e4
        have e2 : bits .and .u32 (f : Int) 2 = 0 := e2
        have e1 : bits .and .u32 (f : Int) 1 = 0 := e1
        clear h1 h2 h3 hf
        go_enter Tryz.func43, Tryz.ntmps43
        go_wp2
        go_ret
        exact ⟨rfl, rfl⟩
      · rw [prot_of 1 0 1 f h1 h2 h3]
        rw [h1] at e4
        rw [h2] at e2
        rw [h3] at e1
        have e4 : bits .and .u32 (f : Int) 4 = 4 := e4
        have e2 : bits .and .u32 (f : Int) 2 = 0 := e2
        have e1 : bits .and .u32 (f : Int) 1 = 1 := e1
        clear h1 h2 h3 hf
        go_enter Tryz.func43, Tryz.ntmps43
        go_wp2
        go_ret
        exact ⟨rfl, rfl⟩
    · rcases (show f % 2 = 0 ∨ f % 2 = 1 by omega) with h3 | h3
      · rw [prot_of 1 1 0 f h1 h2 h3]
        rw [h1] at e4
        rw [h2] at e2
        rw [h3] at e1
        have e4 : bits .and .u32 (f : Int) 4 = 4 := e4
        have e2 : bits .and .u32 (f : Int) 2 = 2 := e2
        have e1 : bits .and .u32 (f : Int) 1 = 0 := e1
        clear h1 h2 h3 hf
        go_enter Tryz.func43, Tryz.ntmps43
        go_wp2
        go_ret
        exact ⟨rfl, rfl⟩
      · rw [prot_of 1 1 1 f h1 h2 h3]
        rw [h1] at e4
        rw [h2] at e2
        rw [h3] at e1
        have e4 : bits .and .u32 (f : Int) 4 = 4 := e4
        have e2 : bits .and .u32 (f : Int) 2 = 2 := e2
        have e1 : bits .and .u32 (f : Int) 1 = 1 := e1
        clear h1 h2 h3 hf
        go_enter Tryz.func43, Tryz.ntmps43
        go_wp2
        go_ret
        exact ⟨rfl, rfl⟩
def flF (p : Int) : Nat → Nat
  | 0 => 0
  | k + 1 => if (protN k : Int) = p then k else flF p k
theorem fl_is : ∀ p : Fin 8, flF (p.val : Int) 8 = protN p.val := by decide
theorem flF_lt (p : Int) : ∀ k, flF p k ≤ k
  | 0 => Nat.le_refl _
  | k + 1 => by rw [flF]; split; omega; exact Nat.le_succ_of_le (flF_lt p k)
set_option maxHeartbeats 1000000 in
theorem flags32 (p : Int) (w : World) : Calls Tryz.prog 76 #[.int .i64 p] w fun e w' => e = .returned (.int .u32 (flF p 8 : Int)) ∧ w' = w := by
  go_enter Tryz.func76, Tryz.ntmps76
  go_wp2
  go_loopw [3, 4] (fun x y wr => ∃ k : Nat, x = .int .u32 (flF p k : Int) ∧ y = .int .u32 (k : Int) ∧ k ≤ 8 ∧ wr = w) (fun _ y _ => 8 - (intOf y).toNat)
  case atStart => exact ⟨0, rfl, rfl, by decide, rfl⟩
  case round =>
    obtain ⟨k, rfl, rfl, hk, rfl⟩ := hrel
    by_cases hlt : k < 8
    · have hi : (k : Int) < 8 := by omega
      have K := rprots12 k (by omega) wr
      have hm : ((k : Int) + 1) % 4294967296 = (k : Int) + 1 := by omega
      by_cases he : (protN k : Int) = p
      · have HF : Hid (flF p (k + 1) = k) := by show _ = _; rw [flF, if_pos he]
        have e1 : ((protN k : Int) == p) = true := by rw [he]; exact beq_self_eq_true _
        generalize (protN k : Int) = q at K e1
        clear he
        go_wp2_with fail
        refine K.mono ?_
        rintro e w1 ⟨rfl, rfl⟩
        clear K
        go_wp2
        go_roundw
        case rel => exact ⟨k + 1, by rw [HF.out], by go_num, by omega, by first | rfl | trivial⟩
        case measure => simp [intOf]; omega
      · have HF : Hid (flF p (k + 1) = flF p k) := by show _ = _; rw [flF, if_neg he]
        have e1 : ((protN k : Int) == p) = false := by rw [beq_eq_false_iff_ne]; exact he
        generalize (protN k : Int) = q at K e1
        clear he
        go_wp2_with fail
        refine K.mono ?_
        rintro e w1 ⟨rfl, rfl⟩
        clear K
        go_wp2
        go_roundw
        case rel => exact ⟨k + 1, by rw [HF.out], by go_num, by omega, by first | rfl | trivial⟩
        case measure => simp [intOf]; omega
    · have hk8 : k = 8 := by omega
      subst hk8
      go_wp2
      go_ret
      exact ⟨rfl, rfl⟩
theorem rput48 (v n : Nat) (hv : v < 4294967296) (hn : n ≤ 8) (w : World) : Calls Tryz.prog 100 #[.int .u64 (v : Int), .int .i64 (n : Int)] w fun e w' => e = .returned (.string ⟨(bN n v).toArray⟩) ∧ Below w.heap.size w w' := by
  have h := W.rputBe_any v (by omega) (n : Int) w
  have e : W.putBeS v (n : Int) = ⟨(bN n v).toArray⟩ := by
    unfold W.putBeS bN
    rw [if_pos (by omega)]
    rfl
  rw [e] at h
  exact h
theorem h30 (n : Nat) (hn : n < 4294967296) (w : World) : Calls Tryz.prog 74 #[.int .i64 (n : Int)] w fun e w' => e = .returned (.string ⟨(bN 2 n).toArray⟩) ∧ Below w.heap.size w w' := by
  have K := rput48 n 2 hn (by decide) w
  have hm : (n : Int) % 18446744073709551616 = (n : Int) := by omega
  have hi : (n : Int) < 4294967296 := by omega
  generalize (⟨(bN 2 n).toArray⟩ : ByteArray) = X at K ⊢
  clear hn
  go_enter Tryz.func74, Tryz.ntmps74
  go_wp2_with fail
  refine K.mono ?_
  rintro e w1 ⟨rfl, hb⟩
  go_wp2
  go_ret
  exact ⟨rfl, hb⟩
theorem w31 (n : Nat) (hn : n < 4294967296) (w : World) : Calls Tryz.prog 75 #[.int .u32 (n : Int)] w fun e w' => e = .returned (.string ⟨(bN 4 n).toArray⟩) ∧ Below w.heap.size w w' := by
  have K := rput48 n 4 hn (by decide) w
  have hm : (n : Int) % 18446744073709551616 = (n : Int) := by omega
  have hi : (n : Int) < 4294967296 := by omega
  generalize (⟨(bN 4 n).toArray⟩ : ByteArray) = X at K ⊢
  clear hn
  go_enter Tryz.func75, Tryz.ntmps75
  go_wp2_with fail
  refine K.mono ?_
  rintro e w1 ⟨rfl, hb⟩
  go_wp2
  go_ret
  exact ⟨rfl, hb⟩
set_option maxHeartbeats 1000000 in
theorem half24 (l : L8) (a : Nat) (h : a + 2 ≤ l.length) (hl : l.length ≤ 1000000) (w : World) : Calls Tryz.prog 41 #[.string ⟨l.toArray⟩, .int .i64 (a : Int)] w fun e w' => e = .returned (.int .i64 (hf l a : Int)) ∧ w' = w := by
  obtain ⟨S, hS⟩ : ∃ S : ByteArray, S = ⟨l.toArray⟩ := ⟨_, rfl⟩
  have hSl : S.toList = l := by rw [hS]; exact bal l
  have hsz : S.size = l.length := by rw [← hSl, bt_len]
  have hex : S.extract a (a + 2) = ⟨((l.drop a).take 2).toArray⟩ := by
    rw [ext_list, hSl]
    congr 2
    rw [List.take_add, List.drop_append_of_le_length (by simp; omega), List.drop_take, Nat.sub_self, List.take_zero, List.nil_append]
  have K := W.rbe_any ⟨((l.drop a).take 2).toArray⟩ w (by show ((l.drop a).take 2).toArray.size ≤ _; simp; omega)
  have eb : W.beS ⟨((l.drop a).take 2).toArray⟩ = hf l a := beS_take (l.drop a) 2 (by decide)
  rw [eb, ← hex] at K
  have hlt := hf_lt l a
  have h1 : (hf l a : Int) % 4294967296 = (hf l a : Int) := by omega
  have h2 : wrap64 (hf l a : Int) = (hf l a : Int) := by unfold wrap64; omega
  have i1 : (a : Int) + 2 ≤ (S.size : Int) := by omega
  have i2 : (S.size : Int) ≤ 1000000 := by omega
  have n1 : a + 2 ≤ S.size := by omega
  have sl : ∀ W', (Instr.slice 9 (.string S) (some (.int .i64 (a : Int))) (some (.int .i64 ((a : Int) + 2))) none).run Tryz.prog W' = .ok (.string (S.extract a (a + 2))) W' := fun W' => by
    rw [run_slice_string W' 9 S .i64 .i64 (a : Int) ((a : Int) + 2) Tryz.underlying9 (by omega) (by omega) (by omega)]
    congr 3
  rw [← hS]
  generalize hf l a = V at K hlt h1 h2 ⊢
  generalize S.extract a (a + 2) = X at K sl
  clear hS hSl hsz hex eb h hl hlt
  go_enter Tryz.func41, Tryz.ntmps41
  go_wp2_with fail
  refine K.mono ?_
  rintro e w1 ⟨rfl, rfl⟩
  go_wp2
  go_ret
  exact ⟨rfl, rfl⟩
set_option maxHeartbeats 1000000 in
theorem word25 (l : L8) (a : Nat) (h : a + 4 ≤ l.length) (hl : l.length ≤ 1000000) (w : World) : Calls Tryz.prog 42 #[.string ⟨l.toArray⟩, .int .i64 (a : Int)] w fun e w' => e = .returned (.int .u32 (wd l a : Int)) ∧ w' = w := by
  obtain ⟨S, hS⟩ : ∃ S : ByteArray, S = ⟨l.toArray⟩ := ⟨_, rfl⟩
  have hSl : S.toList = l := by rw [hS]; exact bal l
  have hsz : S.size = l.length := by rw [← hSl, bt_len]
  have hex : S.extract a (a + 4) = ⟨((l.drop a).take 4).toArray⟩ := by
    rw [ext_list, hSl]
    congr 2
    rw [List.take_add, List.drop_append_of_le_length (by simp; omega), List.drop_take, Nat.sub_self, List.take_zero, List.nil_append]
  have K := W.rbe_any ⟨((l.drop a).take 4).toArray⟩ w (by show ((l.drop a).take 4).toArray.size ≤ _; simp; omega)
  have eb : W.beS ⟨((l.drop a).take 4).toArray⟩ = wd l a := beS_take (l.drop a) 4 (by decide)
  rw [eb, ← hex] at K
  have hlt := wd_lt l a
  have h1 : (wd l a : Int) % 4294967296 = (wd l a : Int) := by omega
  have h2 : wrap64 (wd l a : Int) = (wd l a : Int) := by unfold wrap64; omega
  have i1 : (a : Int) + 4 ≤ (S.size : Int) := by omega
  have i2 : (S.size : Int) ≤ 1000000 := by omega
  have n1 : a + 4 ≤ S.size := by omega
  have sl : ∀ W', (Instr.slice 9 (.string S) (some (.int .i64 (a : Int))) (some (.int .i64 ((a : Int) + 4))) none).run Tryz.prog W' = .ok (.string (S.extract a (a + 4))) W' := fun W' => by
    rw [run_slice_string W' 9 S .i64 .i64 (a : Int) ((a : Int) + 4) Tryz.underlying9 (by omega) (by omega) (by omega)]
    congr 3
  rw [← hS]
  generalize wd l a = V at K hlt h1 h2 ⊢
  generalize S.extract a (a + 4) = X at K sl
  clear hS hSl hsz hex eb h hl hlt
  go_enter Tryz.func42, Tryz.ntmps42
  go_wp2_with fail
  refine K.mono ?_
  rintro e w1 ⟨rfl, rfl⟩
  go_wp2
  go_ret
  exact ⟨rfl, rfl⟩
end Go.Proofs.YtgdflobcbhnimaaGreat.E
namespace Go.Proofs.YtgdflobcbhnimaaGreat.E
open Go.RowKit
set_option linter.unusedVariables false
set_option linter.unusedSimpArgs false
set_option maxRecDepth 100000
theorem bd_fit {g : Sg} (h : FitS g) : ∃ p : Nat, p ≤ 7 ∧ g.prot = (p : Int) := ⟨g.prot.toNat, by have := h.1; have := h.2.1; omega, by have := h.1; omega⟩
theorem seg_doc (g : Sg) (hf : FitS g) : bN 4 (g.kind % 4294967296).toNat ++ (bN 4 g.off ++ (bN 4 g.at_ ++ (bN 4 g.at_ ++ (bN 4 g.size ++ (bN 4 g.room ++ (bN 4 (flF g.prot 8) ++ bN 4 g.align)))))) = segB g := by
  obtain ⟨p, hp, e⟩ := bd_fit hf
  have h1 : flF g.prot 8 = protN p := by rw [e]; exact fl_is ⟨p, by omega⟩
  have h2 : (g.prot % 4294967296).toNat = p := by rw [e]; omega
  unfold segB
  rw [h1, h2]
set_option maxHeartbeats 4000000 in
theorem rwrite16 (e : Ef) (v : Value) (w : World) (hs : SlG w v e.segs) (hb : ∀ g ∈ e.segs, g.Bd) (he : e.entry < 4294967296) (hn : e.segs.length ≤ 1000) :
    Calls Tryz.prog 34 #[e.val v] w fun r w' => r = .returned (.string ⟨(wrL e).toArray⟩) ∧ Below w.heap.size w w' := by
  obtain ⟨W, hW, hbl, hz, q0, q1, q2⟩ := box3 w (.bool e.shared) (.int .u32 (e.entry : Int)) v 37
  have K14 := rfit14 e v W (hs.keep hbl) hb (by omega)
  have HB : Hid (Below w.heap.size w W) := hbl
  have hwr : wrL e = if fitE e = true then headB e ++ e.segs.flatMap segB else [] := rfl
  rw [hwr]
  cases hfe : fitE e with
  | false =>
    rw [hfe] at K14
    rw [if_neg (by decide)]
    obtain ⟨ao, cap, rfl, s1, s2, s3, s4⟩ := hs
    unfold Ef.val at *
    clear s4 s3 hb hbl
    go_enter Tryz.func34, Tryz.ntmps34
    go_wp2_with fail
    refine K14.mono ?_
    rintro r w1 ⟨rfl, hb1⟩
    go_wp2
    go_ret
    exact ⟨rfl, below_tr HB.out hb1⟩
  | true =>
  rw [hfe] at K14
  rw [if_pos rfl]
  obtain ⟨hn16, hall⟩ := fitE_parts hfe
  have HSW := hs.keep hbl
  obtain ⟨ao, cap, rfl, s1, s2, s3, s4⟩ := hs
  obtain ⟨GS, hGS⟩ : ∃ g, g = e.segs := ⟨_, rfl⟩
  obtain ⟨EN, hEN⟩ : ∃ EN : Nat, EN = e.entry := ⟨_, rfl⟩
  obtain ⟨KD, hKD⟩ : ∃ KD : Nat, KD = if e.shared then 3 else 2 := ⟨_, rfl⟩
  unfold Ef.val at *
  rw [← hEN] at K14 q1 hW ⊢
  rw [← hGS] at K14 q2 hW hn16 hall hb s1 HSW ⊢
  obtain ⟨LEN, hLEN⟩ : ∃ n : Nat, n = GS.length := ⟨_, rfl⟩
  rw [← hLEN] at K14 q2 hW hn16 s1 HSW ⊢
  obtain ⟨X13, h13⟩ : ∃ X : ByteArray, X = ⟨(bN 2 KD).toArray⟩ := ⟨_, rfl⟩
  have z13 : X13.size = 2 := by rw [h13]; show (bN 2 KD).toArray.size = 2; simp [bN_len]
  have K13 : Hid (∀ w', Calls Tryz.prog 74 #[.int .i64 (KD : Int)] w' fun e w'' => e = .returned (.string X13) ∧ Below w'.heap.size w' w'') := fun w' => by rw [h13]; exact h30 KD (by rw [hKD]; split <;> decide) w'
  obtain ⟨X15, h15⟩ : ∃ X : ByteArray, X = ⟨(bN 2 8).toArray⟩ := ⟨_, rfl⟩
  have z15 : X15.size = 2 := by rw [h15]; show (bN 2 8).toArray.size = 2; simp [bN_len]
  have K15 : Hid (∀ w', Calls Tryz.prog 74 #[.int .i64 (8 : Int)] w' fun e w'' => e = .returned (.string X15) ∧ Below w'.heap.size w' w'') := fun w' => by rw [h15]; exact h30 8 (by decide) w'
  obtain ⟨X17, h17⟩ : ∃ X : ByteArray, X = ⟨(bN 4 1).toArray⟩ := ⟨_, rfl⟩
  have z17 : X17.size = 4 := by rw [h17]; show (bN 4 1).toArray.size = 4; simp [bN_len]
  have K17 : Hid (∀ w', Calls Tryz.prog 75 #[.int .u32 (1 : Int)] w' fun e w'' => e = .returned (.string X17) ∧ Below w'.heap.size w' w'') := fun w' => by rw [h17]; exact w31 1 (by decide) w'
  obtain ⟨X21, h21⟩ : ∃ X : ByteArray, X = ⟨(bN 4 EN).toArray⟩ := ⟨_, rfl⟩
  have z21 : X21.size = 4 := by rw [h21]; show (bN 4 EN).toArray.size = 4; simp [bN_len]
  have K21 : Hid (∀ w', Calls Tryz.prog 75 #[.int .u32 (EN : Int)] w' fun e w'' => e = .returned (.string X21) ∧ Below w'.heap.size w' w'') := fun w' => by rw [h21]; exact w31 EN (by rw [hEN]; exact he) w'
  obtain ⟨X23, h23⟩ : ∃ X : ByteArray, X = ⟨(bN 4 52).toArray⟩ := ⟨_, rfl⟩
  have z23 : X23.size = 4 := by rw [h23]; show (bN 4 52).toArray.size = 4; simp [bN_len]
  have K23 : Hid (∀ w', Calls Tryz.prog 75 #[.int .u32 (52 : Int)] w' fun e w'' => e = .returned (.string X23) ∧ Below w'.heap.size w' w'') := fun w' => by rw [h23]; exact w31 52 (by decide) w'
  obtain ⟨X25, h25⟩ : ∃ X : ByteArray, X = ⟨(bN 4 0).toArray⟩ := ⟨_, rfl⟩
  have z25 : X25.size = 4 := by rw [h25]; show (bN 4 0).toArray.size = 4; simp [bN_len]
  have K25 : Hid (∀ w', Calls Tryz.prog 75 #[.int .u32 (0 : Int)] w' fun e w'' => e = .returned (.string X25) ∧ Below w'.heap.size w' w'') := fun w' => by rw [h25]; exact w31 0 (by decide) w'
  obtain ⟨X27, h27⟩ : ∃ X : ByteArray, X = ⟨(bN 4 1879052288).toArray⟩ := ⟨_, rfl⟩
  have z27 : X27.size = 4 := by rw [h27]; show (bN 4 1879052288).toArray.size = 4; simp [bN_len]
  have K27 : Hid (∀ w', Calls Tryz.prog 75 #[.int .u32 (1879052288 : Int)] w' fun e w'' => e = .returned (.string X27) ∧ Below w'.heap.size w' w'') := fun w' => by rw [h27]; exact w31 1879052288 (by decide) w'
  obtain ⟨X29, h29⟩ : ∃ X : ByteArray, X = ⟨(bN 2 52).toArray⟩ := ⟨_, rfl⟩
  have z29 : X29.size = 2 := by rw [h29]; show (bN 2 52).toArray.size = 2; simp [bN_len]
  have K29 : Hid (∀ w', Calls Tryz.prog 74 #[.int .i64 (52 : Int)] w' fun e w'' => e = .returned (.string X29) ∧ Below w'.heap.size w' w'') := fun w' => by rw [h29]; exact h30 52 (by decide) w'
  obtain ⟨X31, h31⟩ : ∃ X : ByteArray, X = ⟨(bN 2 32).toArray⟩ := ⟨_, rfl⟩
  have z31 : X31.size = 2 := by rw [h31]; show (bN 2 32).toArray.size = 2; simp [bN_len]
  have K31 : Hid (∀ w', Calls Tryz.prog 74 #[.int .i64 (32 : Int)] w' fun e w'' => e = .returned (.string X31) ∧ Below w'.heap.size w' w'') := fun w' => by rw [h31]; exact h30 32 (by decide) w'
  obtain ⟨X36, h36⟩ : ∃ X : ByteArray, X = ⟨(bN 2 LEN).toArray⟩ := ⟨_, rfl⟩
  have z36 : X36.size = 2 := by rw [h36]; show (bN 2 LEN).toArray.size = 2; simp [bN_len]
  have K36 : Hid (∀ w', Calls Tryz.prog 74 #[.int .i64 (LEN : Int)] w' fun e w'' => e = .returned (.string X36) ∧ Below w'.heap.size w' w'') := fun w' => by rw [h36]; exact h30 LEN (by omega) w'
  obtain ⟨X38, h38⟩ : ∃ X : ByteArray, X = ⟨(bN 2 0).toArray⟩ := ⟨_, rfl⟩
  have z38 : X38.size = 2 := by rw [h38]; show (bN 2 0).toArray.size = 2; simp [bN_len]
  have K38 : Hid (∀ w', Calls Tryz.prog 74 #[.int .i64 (0 : Int)] w' fun e w'' => e = .returned (.string X38) ∧ Below w'.heap.size w' w'') := fun w' => by rw [h38]; exact h30 0 (by decide) w'
  obtain ⟨X40, h40⟩ : ∃ X : ByteArray, X = ⟨(bN 2 0).toArray⟩ := ⟨_, rfl⟩
  have z40 : X40.size = 2 := by rw [h40]; show (bN 2 0).toArray.size = 2; simp [bN_len]
  have K40 : Hid (∀ w', Calls Tryz.prog 74 #[.int .i64 (0 : Int)] w' fun e w'' => e = .returned (.string X40) ∧ Below w'.heap.size w' w'') := fun w' => by rw [h40]; exact h30 0 (by decide) w'
  obtain ⟨X42, h42⟩ : ∃ X : ByteArray, X = ⟨(bN 2 0).toArray⟩ := ⟨_, rfl⟩
  have z42 : X42.size = 2 := by rw [h42]; show (bN 2 0).toArray.size = 2; simp [bN_len]
  have K42 : Hid (∀ w', Calls Tryz.prog 74 #[.int .i64 (0 : Int)] w' fun e w'' => e = .returned (.string X42) ∧ Below w'.heap.size w' w'') := fun w' => by rw [h42]; exact h30 0 (by decide) w'
  have HHD : Hid ((⟨#[127, 69, 76, 70, 1, 2, 1, 0, 0, 0, 0, 0, 0, 0, 0, 0]⟩ : ByteArray) ++ X13 ++ X15 ++ X17 ++ X21 ++ X23 ++ X25 ++ X27 ++ X29 ++ X31 ++ X36 ++ X38 ++ X40 ++ X42 = (⟨(headB e).toArray⟩ : ByteArray)) := by
    show _ = _
    rw [h13, h15, h17, h21, h23, h25, h27, h29, h31, h36, h38, h40, h42, show (⟨#[127, 69, 76, 70, 1, 2, 1, 0, 0, 0, 0, 0, 0, 0, 0, 0]⟩ : ByteArray) = (⟨magicL.toArray⟩ : ByteArray) from rfl]
    simp only [ba_app]
    unfold headB
    rw [← hEN, ← hGS, ← hLEN, ← hKD]
    simp only [List.append_assoc]
    rw [show entL = bN 2 8 ++ bN 4 1 from by decide, show cntL = bN 4 52 ++ (bN 4 0 ++ (bN 4 1879052288 ++ (bN 2 52 ++ bN 2 32))) from by decide, show endL = bN 2 0 ++ (bN 2 0 ++ bN 2 0) from by decide]
    simp only [List.append_assoc]
  have HHL : Hid ((headB e).length = 52) := headB_len e
  generalize hHB : headB e = HB0 at HHD HHL ⊢
  have HALL : Hid (∀ g ∈ GS, FitS g) := hall
  have HBD : Hid (∀ g ∈ GS, g.Bd) := hb
  have HS : Hid (∀ i (h : i < GS.length), ∃ b o, ao = some ⟨b, o, none⟩ ∧ At7 W b (o + i * 7) GS[i]) := by
    obtain ⟨ao', cap', he', _, _, _, h4⟩ := HSW
    injection he' with he1 he2 he3
    rw [he1]
    exact h4
  have HQ : Hid (W.cell? ⟨w.heap.size, 0, none⟩ = some (.bool e.shared) ∧ W.cell? ⟨w.heap.size, 1, none⟩ = some (.int .u32 (EN : Int)) ∧ W.cell? ⟨w.heap.size, 2, none⟩ = some (.slice ao LEN cap)) := ⟨q0, q1, q2⟩
  have HLEN : Hid (LEN = GS.length) := hLEN
  clear s4 s3 hb hall hbl hz HSW hwr hfe hEN hGS hHB hLEN h13 h15 h17 h21 h23 h25 h27 h29 h31 h36 h38 h40 h42
  cases hsh : e.shared with
  | true =>
    rw [hsh] at q0 hW hKD HQ K14
    have HKD : Hid ((3 : Int) = (KD : Int)) := by show _ = _; rw [hKD]; rfl
    clear hKD
    go_enter Tryz.func34, Tryz.ntmps34
    go_wp2_with fail
    refine K14.mono ?_
    rintro r w1 ⟨rfl, hb1⟩
    clear K14 q0 q1 q2 hW
    have q0 := keep_cell hb1 HQ.out.1
    have q1 := keep_cell hb1 HQ.out.2.1
    have q2 := keep_cell hb1 HQ.out.2.2
    go_wp2
    rw [HKD.out]
    clear q0
    refine wp_region_slots (R := Ext) [⟨12, fun v _ => v = .int .i64 (KD : Int), fun _ _ _ _ h => h⟩, ⟨13, fun v _ => v = .string X13, fun _ _ _ _ h => h⟩, ⟨14, fun v _ => v = .string ((⟨#[127, 69, 76, 70, 1, 2, 1, 0, 0, 0, 0, 0, 0, 0, 0, 0]⟩ : ByteArray) ++ X13), fun _ _ _ _ h => h⟩, ⟨15, fun v _ => v = .string X15, fun _ _ _ _ h => h⟩, ⟨16, fun v _ => v = .string ((⟨#[127, 69, 76, 70, 1, 2, 1, 0, 0, 0, 0, 0, 0, 0, 0, 0]⟩ : ByteArray) ++ X13 ++ X15), fun _ _ _ _ h => h⟩, ⟨17, fun v _ => v = .string X17, fun _ _ _ _ h => h⟩, ⟨18, fun v _ => v = .string ((⟨#[127, 69, 76, 70, 1, 2, 1, 0, 0, 0, 0, 0, 0, 0, 0, 0]⟩ : ByteArray) ++ X13 ++ X15 ++ X17), fun _ _ _ _ h => h⟩, ⟨19, fun v _ => v = .pointer (some ⟨w.heap.size, 1, none⟩), fun _ _ _ _ h => h⟩, ⟨20, fun v _ => v = .int .u32 (EN : Int), fun _ _ _ _ h => h⟩, ⟨21, fun v _ => v = .string X21, fun _ _ _ _ h => h⟩, ⟨22, fun v _ => v = .string ((⟨#[127, 69, 76, 70, 1, 2, 1, 0, 0, 0, 0, 0, 0, 0, 0, 0]⟩ : ByteArray) ++ X13 ++ X15 ++ X17 ++ X21), fun _ _ _ _ h => h⟩, ⟨23, fun v _ => v = .string X23, fun _ _ _ _ h => h⟩, ⟨24, fun v _ => v = .string ((⟨#[127, 69, 76, 70, 1, 2, 1, 0, 0, 0, 0, 0, 0, 0, 0, 0]⟩ : ByteArray) ++ X13 ++ X15 ++ X17 ++ X21 ++ X23), fun _ _ _ _ h => h⟩, ⟨25, fun v _ => v = .string X25, fun _ _ _ _ h => h⟩, ⟨26, fun v _ => v = .string ((⟨#[127, 69, 76, 70, 1, 2, 1, 0, 0, 0, 0, 0, 0, 0, 0, 0]⟩ : ByteArray) ++ X13 ++ X15 ++ X17 ++ X21 ++ X23 ++ X25), fun _ _ _ _ h => h⟩, ⟨27, fun v _ => v = .string X27, fun _ _ _ _ h => h⟩, ⟨28, fun v _ => v = .string ((⟨#[127, 69, 76, 70, 1, 2, 1, 0, 0, 0, 0, 0, 0, 0, 0, 0]⟩ : ByteArray) ++ X13 ++ X15 ++ X17 ++ X21 ++ X23 ++ X25 ++ X27), fun _ _ _ _ h => h⟩, ⟨29, fun v _ => v = .string X29, fun _ _ _ _ h => h⟩, ⟨30, fun v _ => v = .string ((⟨#[127, 69, 76, 70, 1, 2, 1, 0, 0, 0, 0, 0, 0, 0, 0, 0]⟩ : ByteArray) ++ X13 ++ X15 ++ X17 ++ X21 ++ X23 ++ X25 ++ X27 ++ X29), fun _ _ _ _ h => h⟩, ⟨31, fun v _ => v = .string X31, fun _ _ _ _ h => h⟩, ⟨32, fun v _ => v = .string ((⟨#[127, 69, 76, 70, 1, 2, 1, 0, 0, 0, 0, 0, 0, 0, 0, 0]⟩ : ByteArray) ++ X13 ++ X15 ++ X17 ++ X21 ++ X23 ++ X25 ++ X27 ++ X29 ++ X31), fun _ _ _ _ h => h⟩, ⟨33, fun v _ => v = .pointer (some ⟨w.heap.size, 2, none⟩), fun _ _ _ _ h => h⟩, ⟨34, fun v _ => v = .slice ao LEN cap, fun _ _ _ _ h => h⟩, ⟨35, fun v _ => v = .int .i64 (LEN : Int), fun _ _ _ _ h => h⟩, ⟨36, fun v _ => v = .string X36, fun _ _ _ _ h => h⟩, ⟨37, fun v _ => v = .string ((⟨#[127, 69, 76, 70, 1, 2, 1, 0, 0, 0, 0, 0, 0, 0, 0, 0]⟩ : ByteArray) ++ X13 ++ X15 ++ X17 ++ X21 ++ X23 ++ X25 ++ X27 ++ X29 ++ X31 ++ X36), fun _ _ _ _ h => h⟩, ⟨38, fun v _ => v = .string X38, fun _ _ _ _ h => h⟩, ⟨39, fun v _ => v = .string ((⟨#[127, 69, 76, 70, 1, 2, 1, 0, 0, 0, 0, 0, 0, 0, 0, 0]⟩ : ByteArray) ++ X13 ++ X15 ++ X17 ++ X21 ++ X23 ++ X25 ++ X27 ++ X29 ++ X31 ++ X36 ++ X38), fun _ _ _ _ h => h⟩, ⟨40, fun v _ => v = .string X40, fun _ _ _ _ h => h⟩, ⟨41, fun v _ => v = .string ((⟨#[127, 69, 76, 70, 1, 2, 1, 0, 0, 0, 0, 0, 0, 0, 0, 0]⟩ : ByteArray) ++ X13 ++ X15 ++ X17 ++ X21 ++ X23 ++ X25 ++ X27 ++ X29 ++ X31 ++ X36 ++ X38 ++ X40), fun _ _ _ _ h => h⟩, ⟨42, fun v _ => v = .string X42, fun _ _ _ _ h => h⟩, ⟨43, fun v _ => v = .string ((⟨#[127, 69, 76, 70, 1, 2, 1, 0, 0, 0, 0, 0, 0, 0, 0, 0]⟩ : ByteArray) ++ X13 ++ X15 ++ X17 ++ X21 ++ X23 ++ X25 ++ X27 ++ X29 ++ X31 ++ X36 ++ X38 ++ X40 ++ X42), fun _ _ _ _ h => h⟩, ⟨4, fun v _ => v = .string ((⟨#[127, 69, 76, 70, 1, 2, 1, 0, 0, 0, 0, 0, 0, 0, 0, 0]⟩ : ByteArray) ++ X13 ++ X15 ++ X17 ++ X21 ++ X23 ++ X25 ++ X27 ++ X29 ++ X31 ++ X36 ++ X38 ++ X40 ++ X42), fun _ _ _ _ h => h⟩] _ (by kernel_rfl) rfl (by kernel_rfl) (Below.drew (Below.refl _ _)) (fun _ _ _ h1 h2 => below_tr h1 h2) (fun QQ => ⟨?_, ?_, ?_, ?_, ?_, ?_, ?_, ?_, ?_, ?_, ?_, ?_, ?_, ?_, ?_, ?_, ?_, ?_, ?_, ?_, ?_, ?_, ?_, ?_, ?_, ?_, ?_, ?_, ?_, ?_, ?_, ?_, ?_, trivial⟩) (fun f wy hR hf => ?_)
    · intro A wx hR hout hdep K hK
      have h3 : A.tmps[3]?.getD undef = .int .i64 (KD : Int) := hout 3 (by kernel_rfl)
      refine if_yes (by kernel_rfl) ?_
      simp [go_sem, h3, z13, z15, z17, z21, z23, z25, z27, z29, z31, z36, z38, z40, z42]
      exact hK.out _ _ (Below.refl _ _) rfl
    · intro A wx hR hout hdep K hK
      have h12 : A.tmps[12]?.getD undef = .int .i64 (KD : Int) := hdep 12 (by kernel_rfl)
      refine if_yes (by kernel_rfl) ?_
      simp [go_sem, h12, z13, z15, z17, z21, z23, z25, z27, z29, z31, z36, z38, z40, z42]
      refine (K13.out wx).mono ?_
      rintro e wG ⟨rfl, hbG⟩
      exact hK.out _ _ hbG rfl
    · intro A wx hR hout hdep K hK
      have h13 : A.tmps[13]?.getD undef = .string X13 := hdep 13 (by kernel_rfl)
      refine if_yes (by kernel_rfl) ?_
      simp [go_sem, h13, z13, z15, z17, z21, z23, z25, z27, z29, z31, z36, z38, z40, z42]
      exact hK.out _ _ (Below.refl _ _) rfl
    · intro A wx hR hout hdep K hK
      refine if_yes (by kernel_rfl) ?_
      simp [go_sem, z13, z15, z17, z21, z23, z25, z27, z29, z31, z36, z38, z40, z42]
      refine (K15.out wx).mono ?_
      rintro e wG ⟨rfl, hbG⟩
      exact hK.out _ _ hbG rfl
    · intro A wx hR hout hdep K hK
      have h14 : A.tmps[14]?.getD undef = .string ((⟨#[127, 69, 76, 70, 1, 2, 1, 0, 0, 0, 0, 0, 0, 0, 0, 0]⟩ : ByteArray) ++ X13) := hdep 14 (by kernel_rfl)
      have h15 : A.tmps[15]?.getD undef = .string X15 := hdep 15 (by kernel_rfl)
      refine if_yes (by kernel_rfl) ?_
      simp [go_sem, h14, h15, z13, z15, z17, z21, z23, z25, z27, z29, z31, z36, z38, z40, z42]
      exact hK.out _ _ (Below.refl _ _) rfl
    · intro A wx hR hout hdep K hK
      refine if_yes (by kernel_rfl) ?_
      simp [go_sem, z13, z15, z17, z21, z23, z25, z27, z29, z31, z36, z38, z40, z42]
      refine (K17.out wx).mono ?_
      rintro e wG ⟨rfl, hbG⟩
      exact hK.out _ _ hbG rfl
    · intro A wx hR hout hdep K hK
      have h16 : A.tmps[16]?.getD undef = .string ((⟨#[127, 69, 76, 70, 1, 2, 1, 0, 0, 0, 0, 0, 0, 0, 0, 0]⟩ : ByteArray) ++ X13 ++ X15) := hdep 16 (by kernel_rfl)
      have h17 : A.tmps[17]?.getD undef = .string X17 := hdep 17 (by kernel_rfl)
      refine if_yes (by kernel_rfl) ?_
      simp [go_sem, h16, h17, z13, z15, z17, z21, z23, z25, z27, z29, z31, z36, z38, z40, z42]
      exact hK.out _ _ (Below.refl _ _) rfl
    · intro A wx hR hout hdep K hK
      have h1 : A.tmps[1]?.getD undef = .pointer (some ⟨w.heap.size, 0, none⟩) := hout 1 (by kernel_rfl)
      refine if_yes (by kernel_rfl) ?_
      simp [go_sem, h1, z13, z15, z17, z21, z23, z25, z27, z29, z31, z36, z38, z40, z42]
      exact hK.out _ _ (Below.refl _ _) rfl
    · intro A wx hR hout hdep K hK
      have h19 : A.tmps[19]?.getD undef = .pointer (some ⟨w.heap.size, 1, none⟩) := hdep 19 (by kernel_rfl)
      refine if_yes (by kernel_rfl) ?_
      have q1 := keep_cell hR q1
      have q2 := keep_cell hR q2
      simp [go_sem, h19, q1, q2, z13, z15, z17, z21, z23, z25, z27, z29, z31, z36, z38, z40, z42]
      exact hK.out _ _ (Below.refl _ _) rfl
    · intro A wx hR hout hdep K hK
      have h20 : A.tmps[20]?.getD undef = .int .u32 (EN : Int) := hdep 20 (by kernel_rfl)
      refine if_yes (by kernel_rfl) ?_
      simp [go_sem, h20, z13, z15, z17, z21, z23, z25, z27, z29, z31, z36, z38, z40, z42]
      refine (K21.out wx).mono ?_
      rintro e wG ⟨rfl, hbG⟩
      exact hK.out _ _ hbG rfl
    · intro A wx hR hout hdep K hK
      have h18 : A.tmps[18]?.getD undef = .string ((⟨#[127, 69, 76, 70, 1, 2, 1, 0, 0, 0, 0, 0, 0, 0, 0, 0]⟩ : ByteArray) ++ X13 ++ X15 ++ X17) := hdep 18 (by kernel_rfl)
      have h21 : A.tmps[21]?.getD undef = .string X21 := hdep 21 (by kernel_rfl)
      refine if_yes (by kernel_rfl) ?_
      simp [go_sem, h18, h21, z13, z15, z17, z21, z23, z25, z27, z29, z31, z36, z38, z40, z42]
      exact hK.out _ _ (Below.refl _ _) rfl
    · intro A wx hR hout hdep K hK
      refine if_yes (by kernel_rfl) ?_
      simp [go_sem, z13, z15, z17, z21, z23, z25, z27, z29, z31, z36, z38, z40, z42]
      refine (K23.out wx).mono ?_
      rintro e wG ⟨rfl, hbG⟩
      exact hK.out _ _ hbG rfl
    · intro A wx hR hout hdep K hK
      have h22 : A.tmps[22]?.getD undef = .string ((⟨#[127, 69, 76, 70, 1, 2, 1, 0, 0, 0, 0, 0, 0, 0, 0, 0]⟩ : ByteArray) ++ X13 ++ X15 ++ X17 ++ X21) := hdep 22 (by kernel_rfl)
      have h23 : A.tmps[23]?.getD undef = .string X23 := hdep 23 (by kernel_rfl)
      refine if_yes (by kernel_rfl) ?_
      simp [go_sem, h22, h23, z13, z15, z17, z21, z23, z25, z27, z29, z31, z36, z38, z40, z42]
      exact hK.out _ _ (Below.refl _ _) rfl
    · intro A wx hR hout hdep K hK
      refine if_yes (by kernel_rfl) ?_
      simp [go_sem, z13, z15, z17, z21, z23, z25, z27, z29, z31, z36, z38, z40, z42]
      refine (K25.out wx).mono ?_
      rintro e wG ⟨rfl, hbG⟩
      exact hK.out _ _ hbG rfl
    · intro A wx hR hout hdep K hK
      have h24 : A.tmps[24]?.getD undef = .string ((⟨#[127, 69, 76, 70, 1, 2, 1, 0, 0, 0, 0, 0, 0, 0, 0, 0]⟩ : ByteArray) ++ X13 ++ X15 ++ X17 ++ X21 ++ X23) := hdep 24 (by kernel_rfl)
      have h25 : A.tmps[25]?.getD undef = .string X25 := hdep 25 (by kernel_rfl)
      refine if_yes (by kernel_rfl) ?_
      simp [go_sem, h24, h25, z13, z15, z17, z21, z23, z25, z27, z29, z31, z36, z38, z40, z42]
      exact hK.out _ _ (Below.refl _ _) rfl
    · intro A wx hR hout hdep K hK
      refine if_yes (by kernel_rfl) ?_
      simp [go_sem, z13, z15, z17, z21, z23, z25, z27, z29, z31, z36, z38, z40, z42]
      refine (K27.out wx).mono ?_
      rintro e wG ⟨rfl, hbG⟩
      exact hK.out _ _ hbG rfl
    · intro A wx hR hout hdep K hK
      have h26 : A.tmps[26]?.getD undef = .string ((⟨#[127, 69, 76, 70, 1, 2, 1, 0, 0, 0, 0, 0, 0, 0, 0, 0]⟩ : ByteArray) ++ X13 ++ X15 ++ X17 ++ X21 ++ X23 ++ X25) := hdep 26 (by kernel_rfl)
      have h27 : A.tmps[27]?.getD undef = .string X27 := hdep 27 (by kernel_rfl)
      refine if_yes (by kernel_rfl) ?_
      simp [go_sem, h26, h27, z13, z15, z17, z21, z23, z25, z27, z29, z31, z36, z38, z40, z42]
      exact hK.out _ _ (Below.refl _ _) rfl
    · intro A wx hR hout hdep K hK
      refine if_yes (by kernel_rfl) ?_
      simp [go_sem, z13, z15, z17, z21, z23, z25, z27, z29, z31, z36, z38, z40, z42]
      refine (K29.out wx).mono ?_
      rintro e wG ⟨rfl, hbG⟩
      exact hK.out _ _ hbG rfl
    · intro A wx hR hout hdep K hK
      have h28 : A.tmps[28]?.getD undef = .string ((⟨#[127, 69, 76, 70, 1, 2, 1, 0, 0, 0, 0, 0, 0, 0, 0, 0]⟩ : ByteArray) ++ X13 ++ X15 ++ X17 ++ X21 ++ X23 ++ X25 ++ X27) := hdep 28 (by kernel_rfl)
      have h29 : A.tmps[29]?.getD undef = .string X29 := hdep 29 (by kernel_rfl)
      refine if_yes (by kernel_rfl) ?_
      simp [go_sem, h28, h29, z13, z15, z17, z21, z23, z25, z27, z29, z31, z36, z38, z40, z42]
      exact hK.out _ _ (Below.refl _ _) rfl
    · intro A wx hR hout hdep K hK
      refine if_yes (by kernel_rfl) ?_
      simp [go_sem, z13, z15, z17, z21, z23, z25, z27, z29, z31, z36, z38, z40, z42]
      refine (K31.out wx).mono ?_
      rintro e wG ⟨rfl, hbG⟩
      exact hK.out _ _ hbG rfl
    · intro A wx hR hout hdep K hK
      have h30 : A.tmps[30]?.getD undef = .string ((⟨#[127, 69, 76, 70, 1, 2, 1, 0, 0, 0, 0, 0, 0, 0, 0, 0]⟩ : ByteArray) ++ X13 ++ X15 ++ X17 ++ X21 ++ X23 ++ X25 ++ X27 ++ X29) := hdep 30 (by kernel_rfl)
      have h31 : A.tmps[31]?.getD undef = .string X31 := hdep 31 (by kernel_rfl)
      refine if_yes (by kernel_rfl) ?_
      simp [go_sem, h30, h31, z13, z15, z17, z21, z23, z25, z27, z29, z31, z36, z38, z40, z42]
      exact hK.out _ _ (Below.refl _ _) rfl
    · intro A wx hR hout hdep K hK
      have h1 : A.tmps[1]?.getD undef = .pointer (some ⟨w.heap.size, 0, none⟩) := hout 1 (by kernel_rfl)
      refine if_yes (by kernel_rfl) ?_
      simp [go_sem, h1, z13, z15, z17, z21, z23, z25, z27, z29, z31, z36, z38, z40, z42]
      exact hK.out _ _ (Below.refl _ _) rfl
    · intro A wx hR hout hdep K hK
      have h33 : A.tmps[33]?.getD undef = .pointer (some ⟨w.heap.size, 2, none⟩) := hdep 33 (by kernel_rfl)
      refine if_yes (by kernel_rfl) ?_
      have q1 := keep_cell hR q1
      have q2 := keep_cell hR q2
      simp [go_sem, h33, q1, q2, z13, z15, z17, z21, z23, z25, z27, z29, z31, z36, z38, z40, z42]
      exact hK.out _ _ (Below.refl _ _) rfl
    · intro A wx hR hout hdep K hK
      have h34 : A.tmps[34]?.getD undef = .slice ao LEN cap := hdep 34 (by kernel_rfl)
      refine if_yes (by kernel_rfl) ?_
      simp [go_sem, h34, z13, z15, z17, z21, z23, z25, z27, z29, z31, z36, z38, z40, z42]
      exact hK.out _ _ (Below.refl _ _) rfl
    · intro A wx hR hout hdep K hK
      have h35 : A.tmps[35]?.getD undef = .int .i64 (LEN : Int) := hdep 35 (by kernel_rfl)
      refine if_yes (by kernel_rfl) ?_
      simp [go_sem, h35, z13, z15, z17, z21, z23, z25, z27, z29, z31, z36, z38, z40, z42]
      refine (K36.out wx).mono ?_
      rintro e wG ⟨rfl, hbG⟩
      exact hK.out _ _ hbG rfl
    · intro A wx hR hout hdep K hK
      have h32 : A.tmps[32]?.getD undef = .string ((⟨#[127, 69, 76, 70, 1, 2, 1, 0, 0, 0, 0, 0, 0, 0, 0, 0]⟩ : ByteArray) ++ X13 ++ X15 ++ X17 ++ X21 ++ X23 ++ X25 ++ X27 ++ X29 ++ X31) := hdep 32 (by kernel_rfl)
      have h36 : A.tmps[36]?.getD undef = .string X36 := hdep 36 (by kernel_rfl)
      refine if_yes (by kernel_rfl) ?_
      simp [go_sem, h32, h36, z13, z15, z17, z21, z23, z25, z27, z29, z31, z36, z38, z40, z42]
      exact hK.out _ _ (Below.refl _ _) rfl
    · intro A wx hR hout hdep K hK
      refine if_yes (by kernel_rfl) ?_
      simp [go_sem, z13, z15, z17, z21, z23, z25, z27, z29, z31, z36, z38, z40, z42]
      refine (K38.out wx).mono ?_
      rintro e wG ⟨rfl, hbG⟩
      exact hK.out _ _ hbG rfl
    · intro A wx hR hout hdep K hK
      have h37 : A.tmps[37]?.getD undef = .string ((⟨#[127, 69, 76, 70, 1, 2, 1, 0, 0, 0, 0, 0, 0, 0, 0, 0]⟩ : ByteArray) ++ X13 ++ X15 ++ X17 ++ X21 ++ X23 ++ X25 ++ X27 ++ X29 ++ X31 ++ X36) := hdep 37 (by kernel_rfl)
      have h38 : A.tmps[38]?.getD undef = .string X38 := hdep 38 (by kernel_rfl)
      refine if_yes (by kernel_rfl) ?_
      simp [go_sem, h37, h38, z13, z15, z17, z21, z23, z25, z27, z29, z31, z36, z38, z40, z42]
      exact hK.out _ _ (Below.refl _ _) rfl
    · intro A wx hR hout hdep K hK
      refine if_yes (by kernel_rfl) ?_
      simp [go_sem, z13, z15, z17, z21, z23, z25, z27, z29, z31, z36, z38, z40, z42]
      refine (K40.out wx).mono ?_
      rintro e wG ⟨rfl, hbG⟩
      exact hK.out _ _ hbG rfl
    · intro A wx hR hout hdep K hK
      have h39 : A.tmps[39]?.getD undef = .string ((⟨#[127, 69, 76, 70, 1, 2, 1, 0, 0, 0, 0, 0, 0, 0, 0, 0]⟩ : ByteArray) ++ X13 ++ X15 ++ X17 ++ X21 ++ X23 ++ X25 ++ X27 ++ X29 ++ X31 ++ X36 ++ X38) := hdep 39 (by kernel_rfl)
      have h40 : A.tmps[40]?.getD undef = .string X40 := hdep 40 (by kernel_rfl)
      refine if_yes (by kernel_rfl) ?_
      simp [go_sem, h39, h40, z13, z15, z17, z21, z23, z25, z27, z29, z31, z36, z38, z40, z42]
      exact hK.out _ _ (Below.refl _ _) rfl
    · intro A wx hR hout hdep K hK
      refine if_yes (by kernel_rfl) ?_
      simp [go_sem, z13, z15, z17, z21, z23, z25, z27, z29, z31, z36, z38, z40, z42]
      refine (K42.out wx).mono ?_
      rintro e wG ⟨rfl, hbG⟩
      exact hK.out _ _ hbG rfl
    · intro A wx hR hout hdep K hK
      have h41 : A.tmps[41]?.getD undef = .string ((⟨#[127, 69, 76, 70, 1, 2, 1, 0, 0, 0, 0, 0, 0, 0, 0, 0]⟩ : ByteArray) ++ X13 ++ X15 ++ X17 ++ X21 ++ X23 ++ X25 ++ X27 ++ X29 ++ X31 ++ X36 ++ X38 ++ X40) := hdep 41 (by kernel_rfl)
      have h42 : A.tmps[42]?.getD undef = .string X42 := hdep 42 (by kernel_rfl)
      refine if_yes (by kernel_rfl) ?_
      simp [go_sem, h41, h42, z13, z15, z17, z21, z23, z25, z27, z29, z31, z36, z38, z40, z42]
      exact hK.out _ _ (Below.refl _ _) rfl
    · intro A wx hR hout hdep K hK
      have h43 : A.tmps[43]?.getD undef = .string ((⟨#[127, 69, 76, 70, 1, 2, 1, 0, 0, 0, 0, 0, 0, 0, 0, 0]⟩ : ByteArray) ++ X13 ++ X15 ++ X17 ++ X21 ++ X23 ++ X25 ++ X27 ++ X29 ++ X31 ++ X36 ++ X38 ++ X40 ++ X42) := hdep 43 (by kernel_rfl)
      refine if_yes (by kernel_rfl) ?_
      simp [go_sem, h43, z13, z15, z17, z21, z23, z25, z27, z29, z31, z36, z38, z40, z42]
      exact hK.out _ _ (Below.refl _ _) rfl
    have h4 : f 4 = .string ((⟨#[127, 69, 76, 70, 1, 2, 1, 0, 0, 0, 0, 0, 0, 0, 0, 0]⟩ : ByteArray) ++ X13 ++ X15 ++ X17 ++ X21 ++ X23 ++ X25 ++ X27 ++ X29 ++ X31 ++ X36 ++ X38 ++ X40 ++ X42) := hf 4 (by kernel_rfl)
    rw [HHD.out] at h4
    simp only [putSl, Act.put, List.setIfInBounds_toArray, List.set_cons_zero, List.set_cons_succ, h4]
    have HBY : Hid (Below W.heap.size W wy) := below_tr hb1 hR
    clear hb1 hR q1 q2 hf h4
    have HA0 : Hid ((⟨HB0.toArray⟩ : ByteArray) = ⟨(HB0 ++ (GS.take 0).flatMap segB).toArray⟩) := by show _ = _; rw [List.take_zero, List.flatMap_nil, List.append_nil]
    go_wp2
    go_loopw [4, 5] (fun x y wr => ∃ k : Nat, x = .string ⟨(HB0 ++ (GS.take k).flatMap segB).toArray⟩ ∧ y = .int .i64 (k : Int) ∧ k ≤ LEN ∧ Below W.heap.size W wr) (fun _ y _ => LEN - (intOf y).toNat)
    case atStart => exact ⟨0, by rw [← HA0.out], rfl, Nat.zero_le _, HBY.out⟩
    case round =>
      obtain ⟨k, rfl, rfl, hk, hbr⟩ := hrel
      have qr := keep_cell hbr HQ.out.2.2
      by_cases hlt : k < LEN
      · have hlt2 : k < GS.length := by rw [← HLEN.out]; exact hlt
        have hlti : (k : Int) < (LEN : Int) := by omega
        obtain ⟨b, o, rfl, h7⟩ := HS.out k hlt2
        have h7 := h7.keep hbr
        obtain ⟨g, hg⟩ : ∃ g, g = GS[k] := ⟨_, rfl⟩
        have hmem : g ∈ GS := by rw [hg]; exact List.getElem_mem hlt2
        have hbd := HBD.out g hmem
        have hft := HALL.out g hmem
        obtain ⟨AA, hAA⟩ : ∃ A : ByteArray, A = ⟨(HB0 ++ (GS.take k).flatMap segB).toArray⟩ := ⟨_, rfl⟩
        have hAz : AA.size ≤ 100000 := by
          rw [hAA]
          show (HB0 ++ (GS.take k).flatMap segB).toArray.size ≤ _
          rw [List.size_toArray, List.length_append, HHL.out, flat_len, List.length_take]
          omega
        obtain ⟨KK, hKK⟩ : ∃ K, K = (g.kind % 4294967296).toNat := ⟨_, rfl⟩
        obtain ⟨FL, hFL⟩ : ∃ K, K = flF g.prot 8 := ⟨_, rfl⟩
        have eK2 : g.kind % 4294967296 = (KK : Int) := by omega
        have eK : IntKind.u32.wrap g.kind = (KK : Int) := by rw [IntKind.wrap_u32]; exact eK2
        have hFl := flF_lt g.prot 8
        have K84 : Hid (∀ w', Calls Tryz.prog 76 #[.int .i64 g.prot] w' fun e w'' => e = .returned (.int .u32 (FL : Int)) ∧ w'' = w') := fun w' => by rw [hFL]; exact flags32 g.prot w'
        rw [← hFL] at hFl
        obtain ⟨X60, h60⟩ : ∃ X : ByteArray, X = ⟨(bN 4 (KK)).toArray⟩ := ⟨_, rfl⟩
        have z60 : X60.size = 4 := by rw [h60]; show (bN 4 (KK)).toArray.size = 4; simp [bN_len]
        have K60 : Hid (∀ w', Calls Tryz.prog 75 #[.int .u32 (KK : Int)] w' fun e w'' => e = .returned (.string X60) ∧ Below w'.heap.size w' w'') := fun w' => by rw [h60]; exact w31 (KK) (by omega) w'
        obtain ⟨Y61, a61⟩ : ∃ Y, AA ++ X60 = Y := ⟨_, rfl⟩
        have y61 : Y61.size = AA.size + 4 := by rw [← a61, ByteArray.size_append, z60]
        have m61 : (9223372036854775807 < AA.size + X60.size) = False := eq_false (by omega)
        obtain ⟨X64, h64⟩ : ∃ X : ByteArray, X = ⟨(bN 4 (g.off)).toArray⟩ := ⟨_, rfl⟩
        have z64 : X64.size = 4 := by rw [h64]; show (bN 4 (g.off)).toArray.size = 4; simp [bN_len]
        have K64 : Hid (∀ w', Calls Tryz.prog 75 #[.int .u32 (g.off : Int)] w' fun e w'' => e = .returned (.string X64) ∧ Below w'.heap.size w' w'') := fun w' => by rw [h64]; exact w31 (g.off) hbd.o w'
        obtain ⟨Y65, a65⟩ : ∃ Y, Y61 ++ X64 = Y := ⟨_, rfl⟩
        have y65 : Y65.size = AA.size + 8 := by rw [← a65, ByteArray.size_append, z64]; omega
        have m65 : (9223372036854775807 < Y61.size + X64.size) = False := eq_false (by omega)
        obtain ⟨X68, h68⟩ : ∃ X : ByteArray, X = ⟨(bN 4 (g.at_)).toArray⟩ := ⟨_, rfl⟩
        have z68 : X68.size = 4 := by rw [h68]; show (bN 4 (g.at_)).toArray.size = 4; simp [bN_len]
        have K68 : Hid (∀ w', Calls Tryz.prog 75 #[.int .u32 (g.at_ : Int)] w' fun e w'' => e = .returned (.string X68) ∧ Below w'.heap.size w' w'') := fun w' => by rw [h68]; exact w31 (g.at_) hbd.a w'
        obtain ⟨Y69, a69⟩ : ∃ Y, Y65 ++ X68 = Y := ⟨_, rfl⟩
        have y69 : Y69.size = AA.size + 12 := by rw [← a69, ByteArray.size_append, z68]; omega
        have m69 : (9223372036854775807 < Y65.size + X68.size) = False := eq_false (by omega)
        obtain ⟨X72, h72⟩ : ∃ X : ByteArray, X = ⟨(bN 4 (g.at_)).toArray⟩ := ⟨_, rfl⟩
        have z72 : X72.size = 4 := by rw [h72]; show (bN 4 (g.at_)).toArray.size = 4; simp [bN_len]
        have K72 : Hid (∀ w', Calls Tryz.prog 75 #[.int .u32 (g.at_ : Int)] w' fun e w'' => e = .returned (.string X72) ∧ Below w'.heap.size w' w'') := fun w' => by rw [h72]; exact w31 (g.at_) hbd.a w'
        obtain ⟨Y73, a73⟩ : ∃ Y, Y69 ++ X72 = Y := ⟨_, rfl⟩
        have y73 : Y73.size = AA.size + 16 := by rw [← a73, ByteArray.size_append, z72]; omega
        have m73 : (9223372036854775807 < Y69.size + X72.size) = False := eq_false (by omega)
        obtain ⟨X76, h76⟩ : ∃ X : ByteArray, X = ⟨(bN 4 (g.size)).toArray⟩ := ⟨_, rfl⟩
        have z76 : X76.size = 4 := by rw [h76]; show (bN 4 (g.size)).toArray.size = 4; simp [bN_len]
        have K76 : Hid (∀ w', Calls Tryz.prog 75 #[.int .u32 (g.size : Int)] w' fun e w'' => e = .returned (.string X76) ∧ Below w'.heap.size w' w'') := fun w' => by rw [h76]; exact w31 (g.size) hbd.s w'
        obtain ⟨Y77, a77⟩ : ∃ Y, Y73 ++ X76 = Y := ⟨_, rfl⟩
        have y77 : Y77.size = AA.size + 20 := by rw [← a77, ByteArray.size_append, z76]; omega
        have m77 : (9223372036854775807 < Y73.size + X76.size) = False := eq_false (by omega)
        obtain ⟨X80, h80⟩ : ∃ X : ByteArray, X = ⟨(bN 4 (g.room)).toArray⟩ := ⟨_, rfl⟩
        have z80 : X80.size = 4 := by rw [h80]; show (bN 4 (g.room)).toArray.size = 4; simp [bN_len]
        have K80 : Hid (∀ w', Calls Tryz.prog 75 #[.int .u32 (g.room : Int)] w' fun e w'' => e = .returned (.string X80) ∧ Below w'.heap.size w' w'') := fun w' => by rw [h80]; exact w31 (g.room) hbd.r w'
        obtain ⟨Y81, a81⟩ : ∃ Y, Y77 ++ X80 = Y := ⟨_, rfl⟩
        have y81 : Y81.size = AA.size + 24 := by rw [← a81, ByteArray.size_append, z80]; omega
        have m81 : (9223372036854775807 < Y77.size + X80.size) = False := eq_false (by omega)
        obtain ⟨X85, h85⟩ : ∃ X : ByteArray, X = ⟨(bN 4 (FL)).toArray⟩ := ⟨_, rfl⟩
        have z85 : X85.size = 4 := by rw [h85]; show (bN 4 (FL)).toArray.size = 4; simp [bN_len]
        have K85 : Hid (∀ w', Calls Tryz.prog 75 #[.int .u32 (FL : Int)] w' fun e w'' => e = .returned (.string X85) ∧ Below w'.heap.size w' w'') := fun w' => by rw [h85]; exact w31 (FL) (by omega) w'
        obtain ⟨Y86, a86⟩ : ∃ Y, Y81 ++ X85 = Y := ⟨_, rfl⟩
        have y86 : Y86.size = AA.size + 28 := by rw [← a86, ByteArray.size_append, z85]; omega
        have m86 : (9223372036854775807 < Y81.size + X85.size) = False := eq_false (by omega)
        obtain ⟨X89, h89⟩ : ∃ X : ByteArray, X = ⟨(bN 4 (g.align)).toArray⟩ := ⟨_, rfl⟩
        have z89 : X89.size = 4 := by rw [h89]; show (bN 4 (g.align)).toArray.size = 4; simp [bN_len]
        have K89 : Hid (∀ w', Calls Tryz.prog 75 #[.int .u32 (g.align : Int)] w' fun e w'' => e = .returned (.string X89) ∧ Below w'.heap.size w' w'') := fun w' => by rw [h89]; exact w31 (g.align) hbd.l w'
        obtain ⟨Y90, a90⟩ : ∃ Y, Y86 ++ X89 = Y := ⟨_, rfl⟩
        have y90 : Y90.size = AA.size + 32 := by rw [← a90, ByteArray.size_append, z89]; omega
        have m90 : (9223372036854775807 < Y86.size + X89.size) = False := eq_false (by omega)
        have HNX : Hid (Y90 = (⟨(HB0 ++ (GS.take (k + 1)).flatMap segB).toArray⟩ : ByteArray)) := by
          show _ = _
          rw [← a90, ← a86, ← a81, ← a77, ← a73, ← a69, ← a65, ← a61, h60, h64, h68, h72, h76, h80, h85, h89, hAA]
          simp only [ba_app]
          rw [List.take_succ_eq_append_getElem hlt2, List.flatMap_append, ← hg]
          simp only [List.append_assoc, List.flatMap_cons, List.flatMap_nil, List.append_nil]
          rw [hFL, hKK, seg_doc g hft]
        rw [← hg] at h7
        rw [← hAA]
        obtain ⟨p0, p1, p2, p3, p4, p5, p6⟩ := h7
        obtain ⟨W1, hW1, hbW, hzW, r0, r1, r2, r3, r4, r5, r6⟩ := box7 wr g
        have HBR : Hid (Below W.heap.size W W1) := below_tr hbr hbW
        clear hbr hbW hzW hg hmem hbd hft hAA hKK hFL hFl h60 h64 h68 h72 h76 h80 h85 h89
        go_wp2
        refine wp_region_cut (R := Ext) [⟨56, fun v _ => v = .string AA, fun _ _ _ _ h => h⟩, ⟨57, fun v _ => v = .pointer (some ⟨wr.heap.size, 0, none⟩), fun _ _ _ _ h => h⟩, ⟨58, fun v _ => v = .int .i64 g.kind, fun _ _ _ _ h => h⟩, ⟨59, fun v _ => v = .int .u32 (KK : Int), fun _ _ _ _ h => h⟩, ⟨60, fun v _ => v = .string X60, fun _ _ _ _ h => h⟩, ⟨61, fun v _ => v = .string Y61, fun _ _ _ _ h => h⟩, ⟨62, fun v _ => v = .pointer (some ⟨wr.heap.size, 1, none⟩), fun _ _ _ _ h => h⟩, ⟨63, fun v _ => v = .int .u32 (g.off : Int), fun _ _ _ _ h => h⟩, ⟨64, fun v _ => v = .string X64, fun _ _ _ _ h => h⟩, ⟨65, fun v _ => v = .string Y65, fun _ _ _ _ h => h⟩, ⟨66, fun v _ => v = .pointer (some ⟨wr.heap.size, 2, none⟩), fun _ _ _ _ h => h⟩, ⟨67, fun v _ => v = .int .u32 (g.at_ : Int), fun _ _ _ _ h => h⟩, ⟨68, fun v _ => v = .string X68, fun _ _ _ _ h => h⟩, ⟨69, fun v _ => v = .string Y69, fun _ _ _ _ h => h⟩, ⟨70, fun v _ => v = .pointer (some ⟨wr.heap.size, 2, none⟩), fun _ _ _ _ h => h⟩, ⟨71, fun v _ => v = .int .u32 (g.at_ : Int), fun _ _ _ _ h => h⟩, ⟨72, fun v _ => v = .string X72, fun _ _ _ _ h => h⟩, ⟨73, fun v _ => v = .string Y73, fun _ _ _ _ h => h⟩, ⟨74, fun v _ => v = .pointer (some ⟨wr.heap.size, 3, none⟩), fun _ _ _ _ h => h⟩, ⟨75, fun v _ => v = .int .u32 (g.size : Int), fun _ _ _ _ h => h⟩, ⟨76, fun v _ => v = .string X76, fun _ _ _ _ h => h⟩, ⟨77, fun v _ => v = .string Y77, fun _ _ _ _ h => h⟩, ⟨78, fun v _ => v = .pointer (some ⟨wr.heap.size, 4, none⟩), fun _ _ _ _ h => h⟩, ⟨79, fun v _ => v = .int .u32 (g.room : Int), fun _ _ _ _ h => h⟩, ⟨80, fun v _ => v = .string X80, fun _ _ _ _ h => h⟩, ⟨81, fun v _ => v = .string Y81, fun _ _ _ _ h => h⟩, ⟨82, fun v _ => v = .pointer (some ⟨wr.heap.size, 5, none⟩), fun _ _ _ _ h => h⟩, ⟨83, fun v _ => v = .int .i64 g.prot, fun _ _ _ _ h => h⟩, ⟨84, fun v _ => v = .int .u32 (FL : Int), fun _ _ _ _ h => h⟩, ⟨85, fun v _ => v = .string X85, fun _ _ _ _ h => h⟩, ⟨86, fun v _ => v = .string Y86, fun _ _ _ _ h => h⟩, ⟨87, fun v _ => v = .pointer (some ⟨wr.heap.size, 6, none⟩), fun _ _ _ _ h => h⟩, ⟨88, fun v _ => v = .int .u32 (g.align : Int), fun _ _ _ _ h => h⟩, ⟨89, fun v _ => v = .string X89, fun _ _ _ _ h => h⟩, ⟨90, fun v _ => v = .string Y90, fun _ _ _ _ h => h⟩] _ 35 (by kernel_rfl) rfl (by kernel_rfl) (by decide) (by kernel_rfl) (Below.drew (Below.refl _ _)) (fun _ _ _ h1 h2 => below_tr h1 h2) (fun QQ => ⟨?_, ?_, ?_, ?_, ?_, ?_, ?_, ?_, ?_, ?_, ?_, ?_, ?_, ?_, ?_, ?_, ?_, ?_, ?_, ?_, ?_, ?_, ?_, ?_, ?_, ?_, ?_, ?_, ?_, ?_, ?_, ?_, ?_, ?_, ?_, trivial⟩) (fun f wy hR hf A hA => ?_)
        · intro A wx hR hout hdep K hK
          have h4 : A.tmps[4]?.getD undef = .string AA := hout 4 (by kernel_rfl)
          refine if_yes (by kernel_rfl) ?_
          simp [go_sem, h4, eK, eK2, a61, m61, a65, m65, a69, m69, a73, m73, a77, m77, a81, m81, a86, m86, a90, m90]
          exact hK.out _ _ (Below.refl _ _) rfl
        · intro A wx hR hout hdep K hK
          have h6 : A.tmps[6]?.getD undef = .pointer (some ⟨wr.heap.size, 0, none⟩) := hout 6 (by kernel_rfl)
          refine if_yes (by kernel_rfl) ?_
          simp [go_sem, h6, eK, eK2, a61, m61, a65, m65, a69, m69, a73, m73, a77, m77, a81, m81, a86, m86, a90, m90]
          exact hK.out _ _ (Below.refl _ _) rfl
        · intro A wx hR hout hdep K hK
          have h57 : A.tmps[57]?.getD undef = .pointer (some ⟨wr.heap.size, 0, none⟩) := hdep 57 (by kernel_rfl)
          refine if_yes (by kernel_rfl) ?_
          have r0 := keep_cell hR r0
          have r1 := keep_cell hR r1
          have r2 := keep_cell hR r2
          have r3 := keep_cell hR r3
          have r4 := keep_cell hR r4
          have r5 := keep_cell hR r5
          have r6 := keep_cell hR r6
          simp [go_sem, h57, r0, r1, r2, r3, r4, r5, r6, eK, eK2, a61, m61, a65, m65, a69, m69, a73, m73, a77, m77, a81, m81, a86, m86, a90, m90]
          exact hK.out _ _ (Below.refl _ _) rfl
        · intro A wx hR hout hdep K hK
          have h58 : A.tmps[58]?.getD undef = .int .i64 g.kind := hdep 58 (by kernel_rfl)
          refine if_yes (by kernel_rfl) ?_
          simp [go_sem, h58, eK, eK2, a61, m61, a65, m65, a69, m69, a73, m73, a77, m77, a81, m81, a86, m86, a90, m90]
          exact hK.out _ _ (Below.refl _ _) rfl
        · intro A wx hR hout hdep K hK
          have h59 : A.tmps[59]?.getD undef = .int .u32 (KK : Int) := hdep 59 (by kernel_rfl)
          refine if_yes (by kernel_rfl) ?_
          simp [go_sem, h59, eK, eK2, a61, m61, a65, m65, a69, m69, a73, m73, a77, m77, a81, m81, a86, m86, a90, m90]
          refine (K60.out wx).mono ?_
          rintro e wG ⟨rfl, hbG⟩
          exact hK.out _ _ hbG rfl
        · intro A wx hR hout hdep K hK
          have h56 : A.tmps[56]?.getD undef = .string AA := hdep 56 (by kernel_rfl)
          have h60 : A.tmps[60]?.getD undef = .string X60 := hdep 60 (by kernel_rfl)
          refine if_yes (by kernel_rfl) ?_
          simp [go_sem, h56, h60, eK, eK2, a61, m61, a65, m65, a69, m69, a73, m73, a77, m77, a81, m81, a86, m86, a90, m90]
          exact hK.out _ _ (Below.refl _ _) rfl
        · intro A wx hR hout hdep K hK
          have h6 : A.tmps[6]?.getD undef = .pointer (some ⟨wr.heap.size, 0, none⟩) := hout 6 (by kernel_rfl)
          refine if_yes (by kernel_rfl) ?_
          simp [go_sem, h6, eK, eK2, a61, m61, a65, m65, a69, m69, a73, m73, a77, m77, a81, m81, a86, m86, a90, m90]
          exact hK.out _ _ (Below.refl _ _) rfl
        · intro A wx hR hout hdep K hK
          have h62 : A.tmps[62]?.getD undef = .pointer (some ⟨wr.heap.size, 1, none⟩) := hdep 62 (by kernel_rfl)
          refine if_yes (by kernel_rfl) ?_
          have r0 := keep_cell hR r0
          have r1 := keep_cell hR r1
          have r2 := keep_cell hR r2
          have r3 := keep_cell hR r3
          have r4 := keep_cell hR r4
          have r5 := keep_cell hR r5
          have r6 := keep_cell hR r6
          simp [go_sem, h62, r0, r1, r2, r3, r4, r5, r6, eK, eK2, a61, m61, a65, m65, a69, m69, a73, m73, a77, m77, a81, m81, a86, m86, a90, m90]
          exact hK.out _ _ (Below.refl _ _) rfl
        · intro A wx hR hout hdep K hK
          have h63 : A.tmps[63]?.getD undef = .int .u32 (g.off : Int) := hdep 63 (by kernel_rfl)
          refine if_yes (by kernel_rfl) ?_
          simp [go_sem, h63, eK, eK2, a61, m61, a65, m65, a69, m69, a73, m73, a77, m77, a81, m81, a86, m86, a90, m90]
          refine (K64.out wx).mono ?_
          rintro e wG ⟨rfl, hbG⟩
          exact hK.out _ _ hbG rfl
        · intro A wx hR hout hdep K hK
          have h61 : A.tmps[61]?.getD undef = .string Y61 := hdep 61 (by kernel_rfl)
          have h64 : A.tmps[64]?.getD undef = .string X64 := hdep 64 (by kernel_rfl)
          refine if_yes (by kernel_rfl) ?_
          simp [go_sem, h61, h64, eK, eK2, a61, m61, a65, m65, a69, m69, a73, m73, a77, m77, a81, m81, a86, m86, a90, m90]
          exact hK.out _ _ (Below.refl _ _) rfl
        · intro A wx hR hout hdep K hK
          have h6 : A.tmps[6]?.getD undef = .pointer (some ⟨wr.heap.size, 0, none⟩) := hout 6 (by kernel_rfl)
          refine if_yes (by kernel_rfl) ?_
          simp [go_sem, h6, eK, eK2, a61, m61, a65, m65, a69, m69, a73, m73, a77, m77, a81, m81, a86, m86, a90, m90]
          exact hK.out _ _ (Below.refl _ _) rfl
        · intro A wx hR hout hdep K hK
          have h66 : A.tmps[66]?.getD undef = .pointer (some ⟨wr.heap.size, 2, none⟩) := hdep 66 (by kernel_rfl)
          refine if_yes (by kernel_rfl) ?_
          have r0 := keep_cell hR r0
          have r1 := keep_cell hR r1
          have r2 := keep_cell hR r2
          have r3 := keep_cell hR r3
          have r4 := keep_cell hR r4
          have r5 := keep_cell hR r5
          have r6 := keep_cell hR r6
          simp [go_sem, h66, r0, r1, r2, r3, r4, r5, r6, eK, eK2, a61, m61, a65, m65, a69, m69, a73, m73, a77, m77, a81, m81, a86, m86, a90, m90]
          exact hK.out _ _ (Below.refl _ _) rfl
        · intro A wx hR hout hdep K hK
          have h67 : A.tmps[67]?.getD undef = .int .u32 (g.at_ : Int) := hdep 67 (by kernel_rfl)
          refine if_yes (by kernel_rfl) ?_
          simp [go_sem, h67, eK, eK2, a61, m61, a65, m65, a69, m69, a73, m73, a77, m77, a81, m81, a86, m86, a90, m90]
          refine (K68.out wx).mono ?_
          rintro e wG ⟨rfl, hbG⟩
          exact hK.out _ _ hbG rfl
        · intro A wx hR hout hdep K hK
          have h65 : A.tmps[65]?.getD undef = .string Y65 := hdep 65 (by kernel_rfl)
          have h68 : A.tmps[68]?.getD undef = .string X68 := hdep 68 (by kernel_rfl)
          refine if_yes (by kernel_rfl) ?_
          simp [go_sem, h65, h68, eK, eK2, a61, m61, a65, m65, a69, m69, a73, m73, a77, m77, a81, m81, a86, m86, a90, m90]
          exact hK.out _ _ (Below.refl _ _) rfl
        · intro A wx hR hout hdep K hK
          have h6 : A.tmps[6]?.getD undef = .pointer (some ⟨wr.heap.size, 0, none⟩) := hout 6 (by kernel_rfl)
          refine if_yes (by kernel_rfl) ?_
          simp [go_sem, h6, eK, eK2, a61, m61, a65, m65, a69, m69, a73, m73, a77, m77, a81, m81, a86, m86, a90, m90]
          exact hK.out _ _ (Below.refl _ _) rfl
        · intro A wx hR hout hdep K hK
          have h70 : A.tmps[70]?.getD undef = .pointer (some ⟨wr.heap.size, 2, none⟩) := hdep 70 (by kernel_rfl)
          refine if_yes (by kernel_rfl) ?_
          have r0 := keep_cell hR r0
          have r1 := keep_cell hR r1
          have r2 := keep_cell hR r2
          have r3 := keep_cell hR r3
          have r4 := keep_cell hR r4
          have r5 := keep_cell hR r5
          have r6 := keep_cell hR r6
          simp [go_sem, h70, r0, r1, r2, r3, r4, r5, r6, eK, eK2, a61, m61, a65, m65, a69, m69, a73, m73, a77, m77, a81, m81, a86, m86, a90, m90]
          exact hK.out _ _ (Below.refl _ _) rfl
        · intro A wx hR hout hdep K hK
          have h71 : A.tmps[71]?.getD undef = .int .u32 (g.at_ : Int) := hdep 71 (by kernel_rfl)
          refine if_yes (by kernel_rfl) ?_
          simp [go_sem, h71, eK, eK2, a61, m61, a65, m65, a69, m69, a73, m73, a77, m77, a81, m81, a86, m86, a90, m90]
          refine (K72.out wx).mono ?_
          rintro e wG ⟨rfl, hbG⟩
          exact hK.out _ _ hbG rfl
        · intro A wx hR hout hdep K hK
          have h69 : A.tmps[69]?.getD undef = .string Y69 := hdep 69 (by kernel_rfl)
          have h72 : A.tmps[72]?.getD undef = .string X72 := hdep 72 (by kernel_rfl)
          refine if_yes (by kernel_rfl) ?_
          simp [go_sem, h69, h72, eK, eK2, a61, m61, a65, m65, a69, m69, a73, m73, a77, m77, a81, m81, a86, m86, a90, m90]
          exact hK.out _ _ (Below.refl _ _) rfl
        · intro A wx hR hout hdep K hK
          have h6 : A.tmps[6]?.getD undef = .pointer (some ⟨wr.heap.size, 0, none⟩) := hout 6 (by kernel_rfl)
          refine if_yes (by kernel_rfl) ?_
          simp [go_sem, h6, eK, eK2, a61, m61, a65, m65, a69, m69, a73, m73, a77, m77, a81, m81, a86, m86, a90, m90]
          exact hK.out _ _ (Below.refl _ _) rfl
        · intro A wx hR hout hdep K hK
          have h74 : A.tmps[74]?.getD undef = .pointer (some ⟨wr.heap.size, 3, none⟩) := hdep 74 (by kernel_rfl)
          refine if_yes (by kernel_rfl) ?_
          have r0 := keep_cell hR r0
          have r1 := keep_cell hR r1
          have r2 := keep_cell hR r2
          have r3 := keep_cell hR r3
          have r4 := keep_cell hR r4
          have r5 := keep_cell hR r5
          have r6 := keep_cell hR r6
          simp [go_sem, h74, r0, r1, r2, r3, r4, r5, r6, eK, eK2, a61, m61, a65, m65, a69, m69, a73, m73, a77, m77, a81, m81, a86, m86, a90, m90]
          exact hK.out _ _ (Below.refl _ _) rfl
        · intro A wx hR hout hdep K hK
          have h75 : A.tmps[75]?.getD undef = .int .u32 (g.size : Int) := hdep 75 (by kernel_rfl)
          refine if_yes (by kernel_rfl) ?_
          simp [go_sem, h75, eK, eK2, a61, m61, a65, m65, a69, m69, a73, m73, a77, m77, a81, m81, a86, m86, a90, m90]
          refine (K76.out wx).mono ?_
          rintro e wG ⟨rfl, hbG⟩
          exact hK.out _ _ hbG rfl
        · intro A wx hR hout hdep K hK
          have h73 : A.tmps[73]?.getD undef = .string Y73 := hdep 73 (by kernel_rfl)
          have h76 : A.tmps[76]?.getD undef = .string X76 := hdep 76 (by kernel_rfl)
          refine if_yes (by kernel_rfl) ?_
          simp [go_sem, h73, h76, eK, eK2, a61, m61, a65, m65, a69, m69, a73, m73, a77, m77, a81, m81, a86, m86, a90, m90]
          exact hK.out _ _ (Below.refl _ _) rfl
        · intro A wx hR hout hdep K hK
          have h6 : A.tmps[6]?.getD undef = .pointer (some ⟨wr.heap.size, 0, none⟩) := hout 6 (by kernel_rfl)
          refine if_yes (by kernel_rfl) ?_
          simp [go_sem, h6, eK, eK2, a61, m61, a65, m65, a69, m69, a73, m73, a77, m77, a81, m81, a86, m86, a90, m90]
          exact hK.out _ _ (Below.refl _ _) rfl
        · intro A wx hR hout hdep K hK
          have h78 : A.tmps[78]?.getD undef = .pointer (some ⟨wr.heap.size, 4, none⟩) := hdep 78 (by kernel_rfl)
          refine if_yes (by kernel_rfl) ?_
          have r0 := keep_cell hR r0
          have r1 := keep_cell hR r1
          have r2 := keep_cell hR r2
          have r3 := keep_cell hR r3
          have r4 := keep_cell hR r4
          have r5 := keep_cell hR r5
          have r6 := keep_cell hR r6
          simp [go_sem, h78, r0, r1, r2, r3, r4, r5, r6, eK, eK2, a61, m61, a65, m65, a69, m69, a73, m73, a77, m77, a81, m81, a86, m86, a90, m90]
          exact hK.out _ _ (Below.refl _ _) rfl
        · intro A wx hR hout hdep K hK
          have h79 : A.tmps[79]?.getD undef = .int .u32 (g.room : Int) := hdep 79 (by kernel_rfl)
          refine if_yes (by kernel_rfl) ?_
          simp [go_sem, h79, eK, eK2, a61, m61, a65, m65, a69, m69, a73, m73, a77, m77, a81, m81, a86, m86, a90, m90]
          refine (K80.out wx).mono ?_
          rintro e wG ⟨rfl, hbG⟩
          exact hK.out _ _ hbG rfl
        · intro A wx hR hout hdep K hK
          have h77 : A.tmps[77]?.getD undef = .string Y77 := hdep 77 (by kernel_rfl)
          have h80 : A.tmps[80]?.getD undef = .string X80 := hdep 80 (by kernel_rfl)
          refine if_yes (by kernel_rfl) ?_
          simp [go_sem, h77, h80, eK, eK2, a61, m61, a65, m65, a69, m69, a73, m73, a77, m77, a81, m81, a86, m86, a90, m90]
          exact hK.out _ _ (Below.refl _ _) rfl
        · intro A wx hR hout hdep K hK
          have h6 : A.tmps[6]?.getD undef = .pointer (some ⟨wr.heap.size, 0, none⟩) := hout 6 (by kernel_rfl)
          refine if_yes (by kernel_rfl) ?_
          simp [go_sem, h6, eK, eK2, a61, m61, a65, m65, a69, m69, a73, m73, a77, m77, a81, m81, a86, m86, a90, m90]
          exact hK.out _ _ (Below.refl _ _) rfl
        · intro A wx hR hout hdep K hK
          have h82 : A.tmps[82]?.getD undef = .pointer (some ⟨wr.heap.size, 5, none⟩) := hdep 82 (by kernel_rfl)
          refine if_yes (by kernel_rfl) ?_
          have r0 := keep_cell hR r0
          have r1 := keep_cell hR r1
          have r2 := keep_cell hR r2
          have r3 := keep_cell hR r3
          have r4 := keep_cell hR r4
          have r5 := keep_cell hR r5
          have r6 := keep_cell hR r6
          simp [go_sem, h82, r0, r1, r2, r3, r4, r5, r6, eK, eK2, a61, m61, a65, m65, a69, m69, a73, m73, a77, m77, a81, m81, a86, m86, a90, m90]
          exact hK.out _ _ (Below.refl _ _) rfl
        · intro A wx hR hout hdep K hK
          have h83 : A.tmps[83]?.getD undef = .int .i64 g.prot := hdep 83 (by kernel_rfl)
          refine if_yes (by kernel_rfl) ?_
          simp [go_sem, h83, eK, eK2, a61, m61, a65, m65, a69, m69, a73, m73, a77, m77, a81, m81, a86, m86, a90, m90]
          refine (K84.out wx).mono ?_
          rintro e wG ⟨rfl, rfl⟩
          exact hK.out _ _ (Below.refl _ _) rfl
        · intro A wx hR hout hdep K hK
          have h84 : A.tmps[84]?.getD undef = .int .u32 (FL : Int) := hdep 84 (by kernel_rfl)
          refine if_yes (by kernel_rfl) ?_
          simp [go_sem, h84, eK, eK2, a61, m61, a65, m65, a69, m69, a73, m73, a77, m77, a81, m81, a86, m86, a90, m90]
          refine (K85.out wx).mono ?_
          rintro e wG ⟨rfl, hbG⟩
          exact hK.out _ _ hbG rfl
        · intro A wx hR hout hdep K hK
          have h81 : A.tmps[81]?.getD undef = .string Y81 := hdep 81 (by kernel_rfl)
          have h85 : A.tmps[85]?.getD undef = .string X85 := hdep 85 (by kernel_rfl)
          refine if_yes (by kernel_rfl) ?_
          simp [go_sem, h81, h85, eK, eK2, a61, m61, a65, m65, a69, m69, a73, m73, a77, m77, a81, m81, a86, m86, a90, m90]
          exact hK.out _ _ (Below.refl _ _) rfl
        · intro A wx hR hout hdep K hK
          have h6 : A.tmps[6]?.getD undef = .pointer (some ⟨wr.heap.size, 0, none⟩) := hout 6 (by kernel_rfl)
          refine if_yes (by kernel_rfl) ?_
          simp [go_sem, h6, eK, eK2, a61, m61, a65, m65, a69, m69, a73, m73, a77, m77, a81, m81, a86, m86, a90, m90]
          exact hK.out _ _ (Below.refl _ _) rfl
        · intro A wx hR hout hdep K hK
          have h87 : A.tmps[87]?.getD undef = .pointer (some ⟨wr.heap.size, 6, none⟩) := hdep 87 (by kernel_rfl)
          refine if_yes (by kernel_rfl) ?_
          have r0 := keep_cell hR r0
          have r1 := keep_cell hR r1
          have r2 := keep_cell hR r2
          have r3 := keep_cell hR r3
          have r4 := keep_cell hR r4
          have r5 := keep_cell hR r5
          have r6 := keep_cell hR r6
          simp [go_sem, h87, r0, r1, r2, r3, r4, r5, r6, eK, eK2, a61, m61, a65, m65, a69, m69, a73, m73, a77, m77, a81, m81, a86, m86, a90, m90]
          exact hK.out _ _ (Below.refl _ _) rfl
        · intro A wx hR hout hdep K hK
          have h88 : A.tmps[88]?.getD undef = .int .u32 (g.align : Int) := hdep 88 (by kernel_rfl)
          refine if_yes (by kernel_rfl) ?_
          simp [go_sem, h88, eK, eK2, a61, m61, a65, m65, a69, m69, a73, m73, a77, m77, a81, m81, a86, m86, a90, m90]
          refine (K89.out wx).mono ?_
          rintro e wG ⟨rfl, hbG⟩
          exact hK.out _ _ hbG rfl
        · intro A wx hR hout hdep K hK
          have h86 : A.tmps[86]?.getD undef = .string Y86 := hdep 86 (by kernel_rfl)
          have h89 : A.tmps[89]?.getD undef = .string X89 := hdep 89 (by kernel_rfl)
          refine if_yes (by kernel_rfl) ?_
          simp [go_sem, h86, h89, eK, eK2, a61, m61, a65, m65, a69, m69, a73, m73, a77, m77, a81, m81, a86, m86, a90, m90]
          exact hK.out _ _ (Below.refl _ _) rfl
        have h90 : f 90 = .string Y90 := hf 90 (by kernel_rfl)
        simp only [putSl, List.take_succ_cons, List.take_zero, Act.put, List.setIfInBounds_toArray, List.set_cons_zero, List.set_cons_succ, h90] at hA
        subst hA
        have HBZ : Hid (Below W.heap.size W wy) := below_tr HBR.out hR
        clear hR r0 r1 r2 r3 r4 r5 r6 hW1 hf h90 p0 p1 p2 p3 p4 p5 p6 qr eK eK2 a61 m61 a65 m65 a69 m69 a73 m73 a77 m77 a81 m81 a86 m86 a90 m90 y61 y65 y69 y73 y77 y81 y86 y90 z60 z64 z68 z72 z76 z80 z85 z89 hAz
        refine wpAny_ready (rs := [35]) (by kernel_rfl) (by decide) (AllReady.cons rfl ?_ AllReady.nil)
        intro K5 hK5
        refine if_yes (by kernel_rfl) ?_
        simp [go_sem]
        refine hK5 _ _ ?_
        refine wpAny_done (by kernel_rfl) ?_ _
        go_wp2
        go_roundw
        case rel => exact ⟨k + 1, by rw [← HNX.out], by go_num, by omega, HBZ.out⟩
        case measure => simp [intOf]; omega
      · have hke : ¬ (k : Int) < (LEN : Int) := by omega
        have HT : Hid (GS.take k = GS) := by show _ = _; rw [List.take_of_length_le (by rw [← HLEN.out]; omega)]
        rw [HT.out]
        go_wp2
        go_ret
        exact ⟨rfl, below_tr HB.out hbr⟩
  | false =>
    rw [hsh] at q0 hW hKD HQ K14
    have HKD : Hid ((2 : Int) = (KD : Int)) := by show _ = _; rw [hKD]; rfl
    clear hKD
    go_enter Tryz.func34, Tryz.ntmps34
    go_wp2_with fail
    refine K14.mono ?_
    rintro r w1 ⟨rfl, hb1⟩
    clear K14 q0 q1 q2 hW
    have q0 := keep_cell hb1 HQ.out.1
    have q1 := keep_cell hb1 HQ.out.2.1
    have q2 := keep_cell hb1 HQ.out.2.2
    go_wp2
    rw [HKD.out]
    clear q0
    refine wp_region_slots (R := Ext) [⟨12, fun v _ => v = .int .i64 (KD : Int), fun _ _ _ _ h => h⟩, ⟨13, fun v _ => v = .string X13, fun _ _ _ _ h => h⟩, ⟨14, fun v _ => v = .string ((⟨#[127, 69, 76, 70, 1, 2, 1, 0, 0, 0, 0, 0, 0, 0, 0, 0]⟩ : ByteArray) ++ X13), fun _ _ _ _ h => h⟩, ⟨15, fun v _ => v = .string X15, fun _ _ _ _ h => h⟩, ⟨16, fun v _ => v = .string ((⟨#[127, 69, 76, 70, 1, 2, 1, 0, 0, 0, 0, 0, 0, 0, 0, 0]⟩ : ByteArray) ++ X13 ++ X15), fun _ _ _ _ h => h⟩, ⟨17, fun v _ => v = .string X17, fun _ _ _ _ h => h⟩, ⟨18, fun v _ => v = .string ((⟨#[127, 69, 76, 70, 1, 2, 1, 0, 0, 0, 0, 0, 0, 0, 0, 0]⟩ : ByteArray) ++ X13 ++ X15 ++ X17), fun _ _ _ _ h => h⟩, ⟨19, fun v _ => v = .pointer (some ⟨w.heap.size, 1, none⟩), fun _ _ _ _ h => h⟩, ⟨20, fun v _ => v = .int .u32 (EN : Int), fun _ _ _ _ h => h⟩, ⟨21, fun v _ => v = .string X21, fun _ _ _ _ h => h⟩, ⟨22, fun v _ => v = .string ((⟨#[127, 69, 76, 70, 1, 2, 1, 0, 0, 0, 0, 0, 0, 0, 0, 0]⟩ : ByteArray) ++ X13 ++ X15 ++ X17 ++ X21), fun _ _ _ _ h => h⟩, ⟨23, fun v _ => v = .string X23, fun _ _ _ _ h => h⟩, ⟨24, fun v _ => v = .string ((⟨#[127, 69, 76, 70, 1, 2, 1, 0, 0, 0, 0, 0, 0, 0, 0, 0]⟩ : ByteArray) ++ X13 ++ X15 ++ X17 ++ X21 ++ X23), fun _ _ _ _ h => h⟩, ⟨25, fun v _ => v = .string X25, fun _ _ _ _ h => h⟩, ⟨26, fun v _ => v = .string ((⟨#[127, 69, 76, 70, 1, 2, 1, 0, 0, 0, 0, 0, 0, 0, 0, 0]⟩ : ByteArray) ++ X13 ++ X15 ++ X17 ++ X21 ++ X23 ++ X25), fun _ _ _ _ h => h⟩, ⟨27, fun v _ => v = .string X27, fun _ _ _ _ h => h⟩, ⟨28, fun v _ => v = .string ((⟨#[127, 69, 76, 70, 1, 2, 1, 0, 0, 0, 0, 0, 0, 0, 0, 0]⟩ : ByteArray) ++ X13 ++ X15 ++ X17 ++ X21 ++ X23 ++ X25 ++ X27), fun _ _ _ _ h => h⟩, ⟨29, fun v _ => v = .string X29, fun _ _ _ _ h => h⟩, ⟨30, fun v _ => v = .string ((⟨#[127, 69, 76, 70, 1, 2, 1, 0, 0, 0, 0, 0, 0, 0, 0, 0]⟩ : ByteArray) ++ X13 ++ X15 ++ X17 ++ X21 ++ X23 ++ X25 ++ X27 ++ X29), fun _ _ _ _ h => h⟩, ⟨31, fun v _ => v = .string X31, fun _ _ _ _ h => h⟩, ⟨32, fun v _ => v = .string ((⟨#[127, 69, 76, 70, 1, 2, 1, 0, 0, 0, 0, 0, 0, 0, 0, 0]⟩ : ByteArray) ++ X13 ++ X15 ++ X17 ++ X21 ++ X23 ++ X25 ++ X27 ++ X29 ++ X31), fun _ _ _ _ h => h⟩, ⟨33, fun v _ => v = .pointer (some ⟨w.heap.size, 2, none⟩), fun _ _ _ _ h => h⟩, ⟨34, fun v _ => v = .slice ao LEN cap, fun _ _ _ _ h => h⟩, ⟨35, fun v _ => v = .int .i64 (LEN : Int), fun _ _ _ _ h => h⟩, ⟨36, fun v _ => v = .string X36, fun _ _ _ _ h => h⟩, ⟨37, fun v _ => v = .string ((⟨#[127, 69, 76, 70, 1, 2, 1, 0, 0, 0, 0, 0, 0, 0, 0, 0]⟩ : ByteArray) ++ X13 ++ X15 ++ X17 ++ X21 ++ X23 ++ X25 ++ X27 ++ X29 ++ X31 ++ X36), fun _ _ _ _ h => h⟩, ⟨38, fun v _ => v = .string X38, fun _ _ _ _ h => h⟩, ⟨39, fun v _ => v = .string ((⟨#[127, 69, 76, 70, 1, 2, 1, 0, 0, 0, 0, 0, 0, 0, 0, 0]⟩ : ByteArray) ++ X13 ++ X15 ++ X17 ++ X21 ++ X23 ++ X25 ++ X27 ++ X29 ++ X31 ++ X36 ++ X38), fun _ _ _ _ h => h⟩, ⟨40, fun v _ => v = .string X40, fun _ _ _ _ h => h⟩, ⟨41, fun v _ => v = .string ((⟨#[127, 69, 76, 70, 1, 2, 1, 0, 0, 0, 0, 0, 0, 0, 0, 0]⟩ : ByteArray) ++ X13 ++ X15 ++ X17 ++ X21 ++ X23 ++ X25 ++ X27 ++ X29 ++ X31 ++ X36 ++ X38 ++ X40), fun _ _ _ _ h => h⟩, ⟨42, fun v _ => v = .string X42, fun _ _ _ _ h => h⟩, ⟨43, fun v _ => v = .string ((⟨#[127, 69, 76, 70, 1, 2, 1, 0, 0, 0, 0, 0, 0, 0, 0, 0]⟩ : ByteArray) ++ X13 ++ X15 ++ X17 ++ X21 ++ X23 ++ X25 ++ X27 ++ X29 ++ X31 ++ X36 ++ X38 ++ X40 ++ X42), fun _ _ _ _ h => h⟩, ⟨4, fun v _ => v = .string ((⟨#[127, 69, 76, 70, 1, 2, 1, 0, 0, 0, 0, 0, 0, 0, 0, 0]⟩ : ByteArray) ++ X13 ++ X15 ++ X17 ++ X21 ++ X23 ++ X25 ++ X27 ++ X29 ++ X31 ++ X36 ++ X38 ++ X40 ++ X42), fun _ _ _ _ h => h⟩] _ (by kernel_rfl) rfl (by kernel_rfl) (Below.drew (Below.refl _ _)) (fun _ _ _ h1 h2 => below_tr h1 h2) (fun QQ => ⟨?_, ?_, ?_, ?_, ?_, ?_, ?_, ?_, ?_, ?_, ?_, ?_, ?_, ?_, ?_, ?_, ?_, ?_, ?_, ?_, ?_, ?_, ?_, ?_, ?_, ?_, ?_, ?_, ?_, ?_, ?_, ?_, ?_, trivial⟩) (fun f wy hR hf => ?_)
    · intro A wx hR hout hdep K hK
      have h3 : A.tmps[3]?.getD undef = .int .i64 (KD : Int) := hout 3 (by kernel_rfl)
      refine if_yes (by kernel_rfl) ?_
      simp [go_sem, h3, z13, z15, z17, z21, z23, z25, z27, z29, z31, z36, z38, z40, z42]
      exact hK.out _ _ (Below.refl _ _) rfl
    · intro A wx hR hout hdep K hK
      have h12 : A.tmps[12]?.getD undef = .int .i64 (KD : Int) := hdep 12 (by kernel_rfl)
      refine if_yes (by kernel_rfl) ?_
      simp [go_sem, h12, z13, z15, z17, z21, z23, z25, z27, z29, z31, z36, z38, z40, z42]
      refine (K13.out wx).mono ?_
      rintro e wG ⟨rfl, hbG⟩
      exact hK.out _ _ hbG rfl
    · intro A wx hR hout hdep K hK
      have h13 : A.tmps[13]?.getD undef = .string X13 := hdep 13 (by kernel_rfl)
      refine if_yes (by kernel_rfl) ?_
      simp [go_sem, h13, z13, z15, z17, z21, z23, z25, z27, z29, z31, z36, z38, z40, z42]
      exact hK.out _ _ (Below.refl _ _) rfl
    · intro A wx hR hout hdep K hK
      refine if_yes (by kernel_rfl) ?_
      simp [go_sem, z13, z15, z17, z21, z23, z25, z27, z29, z31, z36, z38, z40, z42]
      refine (K15.out wx).mono ?_
      rintro e wG ⟨rfl, hbG⟩
      exact hK.out _ _ hbG rfl
    · intro A wx hR hout hdep K hK
      have h14 : A.tmps[14]?.getD undef = .string ((⟨#[127, 69, 76, 70, 1, 2, 1, 0, 0, 0, 0, 0, 0, 0, 0, 0]⟩ : ByteArray) ++ X13) := hdep 14 (by kernel_rfl)
      have h15 : A.tmps[15]?.getD undef = .string X15 := hdep 15 (by kernel_rfl)
      refine if_yes (by kernel_rfl) ?_
      simp [go_sem, h14, h15, z13, z15, z17, z21, z23, z25, z27, z29, z31, z36, z38, z40, z42]
      exact hK.out _ _ (Below.refl _ _) rfl
    · intro A wx hR hout hdep K hK
      refine if_yes (by kernel_rfl) ?_
      simp [go_sem, z13, z15, z17, z21, z23, z25, z27, z29, z31, z36, z38, z40, z42]
      refine (K17.out wx).mono ?_
      rintro e wG ⟨rfl, hbG⟩
      exact hK.out _ _ hbG rfl
    · intro A wx hR hout hdep K hK
      have h16 : A.tmps[16]?.getD undef = .string ((⟨#[127, 69, 76, 70, 1, 2, 1, 0, 0, 0, 0, 0, 0, 0, 0, 0]⟩ : ByteArray) ++ X13 ++ X15) := hdep 16 (by kernel_rfl)
      have h17 : A.tmps[17]?.getD undef = .string X17 := hdep 17 (by kernel_rfl)
      refine if_yes (by kernel_rfl) ?_
      simp [go_sem, h16, h17, z13, z15, z17, z21, z23, z25, z27, z29, z31, z36, z38, z40, z42]
      exact hK.out _ _ (Below.refl _ _) rfl
    · intro A wx hR hout hdep K hK
      have h1 : A.tmps[1]?.getD undef = .pointer (some ⟨w.heap.size, 0, none⟩) := hout 1 (by kernel_rfl)
      refine if_yes (by kernel_rfl) ?_
      simp [go_sem, h1, z13, z15, z17, z21, z23, z25, z27, z29, z31, z36, z38, z40, z42]
      exact hK.out _ _ (Below.refl _ _) rfl
    · intro A wx hR hout hdep K hK
      have h19 : A.tmps[19]?.getD undef = .pointer (some ⟨w.heap.size, 1, none⟩) := hdep 19 (by kernel_rfl)
      refine if_yes (by kernel_rfl) ?_
      have q1 := keep_cell hR q1
      have q2 := keep_cell hR q2
      simp [go_sem, h19, q1, q2, z13, z15, z17, z21, z23, z25, z27, z29, z31, z36, z38, z40, z42]
      exact hK.out _ _ (Below.refl _ _) rfl
    · intro A wx hR hout hdep K hK
      have h20 : A.tmps[20]?.getD undef = .int .u32 (EN : Int) := hdep 20 (by kernel_rfl)
      refine if_yes (by kernel_rfl) ?_
      simp [go_sem, h20, z13, z15, z17, z21, z23, z25, z27, z29, z31, z36, z38, z40, z42]
      refine (K21.out wx).mono ?_
      rintro e wG ⟨rfl, hbG⟩
      exact hK.out _ _ hbG rfl
    · intro A wx hR hout hdep K hK
      have h18 : A.tmps[18]?.getD undef = .string ((⟨#[127, 69, 76, 70, 1, 2, 1, 0, 0, 0, 0, 0, 0, 0, 0, 0]⟩ : ByteArray) ++ X13 ++ X15 ++ X17) := hdep 18 (by kernel_rfl)
      have h21 : A.tmps[21]?.getD undef = .string X21 := hdep 21 (by kernel_rfl)
      refine if_yes (by kernel_rfl) ?_
      simp [go_sem, h18, h21, z13, z15, z17, z21, z23, z25, z27, z29, z31, z36, z38, z40, z42]
      exact hK.out _ _ (Below.refl _ _) rfl
    · intro A wx hR hout hdep K hK
      refine if_yes (by kernel_rfl) ?_
      simp [go_sem, z13, z15, z17, z21, z23, z25, z27, z29, z31, z36, z38, z40, z42]
      refine (K23.out wx).mono ?_
      rintro e wG ⟨rfl, hbG⟩
      exact hK.out _ _ hbG rfl
    · intro A wx hR hout hdep K hK
      have h22 : A.tmps[22]?.getD undef = .string ((⟨#[127, 69, 76, 70, 1, 2, 1, 0, 0, 0, 0, 0, 0, 0, 0, 0]⟩ : ByteArray) ++ X13 ++ X15 ++ X17 ++ X21) := hdep 22 (by kernel_rfl)
      have h23 : A.tmps[23]?.getD undef = .string X23 := hdep 23 (by kernel_rfl)
      refine if_yes (by kernel_rfl) ?_
      simp [go_sem, h22, h23, z13, z15, z17, z21, z23, z25, z27, z29, z31, z36, z38, z40, z42]
      exact hK.out _ _ (Below.refl _ _) rfl
    · intro A wx hR hout hdep K hK
      refine if_yes (by kernel_rfl) ?_
      simp [go_sem, z13, z15, z17, z21, z23, z25, z27, z29, z31, z36, z38, z40, z42]
      refine (K25.out wx).mono ?_
      rintro e wG ⟨rfl, hbG⟩
      exact hK.out _ _ hbG rfl
    · intro A wx hR hout hdep K hK
      have h24 : A.tmps[24]?.getD undef = .string ((⟨#[127, 69, 76, 70, 1, 2, 1, 0, 0, 0, 0, 0, 0, 0, 0, 0]⟩ : ByteArray) ++ X13 ++ X15 ++ X17 ++ X21 ++ X23) := hdep 24 (by kernel_rfl)
      have h25 : A.tmps[25]?.getD undef = .string X25 := hdep 25 (by kernel_rfl)
      refine if_yes (by kernel_rfl) ?_
      simp [go_sem, h24, h25, z13, z15, z17, z21, z23, z25, z27, z29, z31, z36, z38, z40, z42]
      exact hK.out _ _ (Below.refl _ _) rfl
    · intro A wx hR hout hdep K hK
      refine if_yes (by kernel_rfl) ?_
      simp [go_sem, z13, z15, z17, z21, z23, z25, z27, z29, z31, z36, z38, z40, z42]
      refine (K27.out wx).mono ?_
      rintro e wG ⟨rfl, hbG⟩
      exact hK.out _ _ hbG rfl
    · intro A wx hR hout hdep K hK
      have h26 : A.tmps[26]?.getD undef = .string ((⟨#[127, 69, 76, 70, 1, 2, 1, 0, 0, 0, 0, 0, 0, 0, 0, 0]⟩ : ByteArray) ++ X13 ++ X15 ++ X17 ++ X21 ++ X23 ++ X25) := hdep 26 (by kernel_rfl)
      have h27 : A.tmps[27]?.getD undef = .string X27 := hdep 27 (by kernel_rfl)
      refine if_yes (by kernel_rfl) ?_
      simp [go_sem, h26, h27, z13, z15, z17, z21, z23, z25, z27, z29, z31, z36, z38, z40, z42]
      exact hK.out _ _ (Below.refl _ _) rfl
    · intro A wx hR hout hdep K hK
      refine if_yes (by kernel_rfl) ?_
      simp [go_sem, z13, z15, z17, z21, z23, z25, z27, z29, z31, z36, z38, z40, z42]
      refine (K29.out wx).mono ?_
      rintro e wG ⟨rfl, hbG⟩
      exact hK.out _ _ hbG rfl
    · intro A wx hR hout hdep K hK
      have h28 : A.tmps[28]?.getD undef = .string ((⟨#[127, 69, 76, 70, 1, 2, 1, 0, 0, 0, 0, 0, 0, 0, 0, 0]⟩ : ByteArray) ++ X13 ++ X15 ++ X17 ++ X21 ++ X23 ++ X25 ++ X27) := hdep 28 (by kernel_rfl)
      have h29 : A.tmps[29]?.getD undef = .string X29 := hdep 29 (by kernel_rfl)
      refine if_yes (by kernel_rfl) ?_
      simp [go_sem, h28, h29, z13, z15, z17, z21, z23, z25, z27, z29, z31, z36, z38, z40, z42]
      exact hK.out _ _ (Below.refl _ _) rfl
    · intro A wx hR hout hdep K hK
      refine if_yes (by kernel_rfl) ?_
      simp [go_sem, z13, z15, z17, z21, z23, z25, z27, z29, z31, z36, z38, z40, z42]
      refine (K31.out wx).mono ?_
      rintro e wG ⟨rfl, hbG⟩
      exact hK.out _ _ hbG rfl
    · intro A wx hR hout hdep K hK
      have h30 : A.tmps[30]?.getD undef = .string ((⟨#[127, 69, 76, 70, 1, 2, 1, 0, 0, 0, 0, 0, 0, 0, 0, 0]⟩ : ByteArray) ++ X13 ++ X15 ++ X17 ++ X21 ++ X23 ++ X25 ++ X27 ++ X29) := hdep 30 (by kernel_rfl)
      have h31 : A.tmps[31]?.getD undef = .string X31 := hdep 31 (by kernel_rfl)
      refine if_yes (by kernel_rfl) ?_
      simp [go_sem, h30, h31, z13, z15, z17, z21, z23, z25, z27, z29, z31, z36, z38, z40, z42]
      exact hK.out _ _ (Below.refl _ _) rfl
    · intro A wx hR hout hdep K hK
      have h1 : A.tmps[1]?.getD undef = .pointer (some ⟨w.heap.size, 0, none⟩) := hout 1 (by kernel_rfl)
      refine if_yes (by kernel_rfl) ?_
      simp [go_sem, h1, z13, z15, z17, z21, z23, z25, z27, z29, z31, z36, z38, z40, z42]
      exact hK.out _ _ (Below.refl _ _) rfl
    · intro A wx hR hout hdep K hK
      have h33 : A.tmps[33]?.getD undef = .pointer (some ⟨w.heap.size, 2, none⟩) := hdep 33 (by kernel_rfl)
      refine if_yes (by kernel_rfl) ?_
      have q1 := keep_cell hR q1
      have q2 := keep_cell hR q2
      simp [go_sem, h33, q1, q2, z13, z15, z17, z21, z23, z25, z27, z29, z31, z36, z38, z40, z42]
      exact hK.out _ _ (Below.refl _ _) rfl
    · intro A wx hR hout hdep K hK
      have h34 : A.tmps[34]?.getD undef = .slice ao LEN cap := hdep 34 (by kernel_rfl)
      refine if_yes (by kernel_rfl) ?_
      simp [go_sem, h34, z13, z15, z17, z21, z23, z25, z27, z29, z31, z36, z38, z40, z42]
      exact hK.out _ _ (Below.refl _ _) rfl
    · intro A wx hR hout hdep K hK
      have h35 : A.tmps[35]?.getD undef = .int .i64 (LEN : Int) := hdep 35 (by kernel_rfl)
      refine if_yes (by kernel_rfl) ?_
      simp [go_sem, h35, z13, z15, z17, z21, z23, z25, z27, z29, z31, z36, z38, z40, z42]
      refine (K36.out wx).mono ?_
      rintro e wG ⟨rfl, hbG⟩
      exact hK.out _ _ hbG rfl
    · intro A wx hR hout hdep K hK
      have h32 : A.tmps[32]?.getD undef = .string ((⟨#[127, 69, 76, 70, 1, 2, 1, 0, 0, 0, 0, 0, 0, 0, 0, 0]⟩ : ByteArray) ++ X13 ++ X15 ++ X17 ++ X21 ++ X23 ++ X25 ++ X27 ++ X29 ++ X31) := hdep 32 (by kernel_rfl)
      have h36 : A.tmps[36]?.getD undef = .string X36 := hdep 36 (by kernel_rfl)
      refine if_yes (by kernel_rfl) ?_
      simp [go_sem, h32, h36, z13, z15, z17, z21, z23, z25, z27, z29, z31, z36, z38, z40, z42]
      exact hK.out _ _ (Below.refl _ _) rfl
    · intro A wx hR hout hdep K hK
      refine if_yes (by kernel_rfl) ?_
      simp [go_sem, z13, z15, z17, z21, z23, z25, z27, z29, z31, z36, z38, z40, z42]
      refine (K38.out wx).mono ?_
      rintro e wG ⟨rfl, hbG⟩
      exact hK.out _ _ hbG rfl
    · intro A wx hR hout hdep K hK
      have h37 : A.tmps[37]?.getD undef = .string ((⟨#[127, 69, 76, 70, 1, 2, 1, 0, 0, 0, 0, 0, 0, 0, 0, 0]⟩ : ByteArray) ++ X13 ++ X15 ++ X17 ++ X21 ++ X23 ++ X25 ++ X27 ++ X29 ++ X31 ++ X36) := hdep 37 (by kernel_rfl)
      have h38 : A.tmps[38]?.getD undef = .string X38 := hdep 38 (by kernel_rfl)
      refine if_yes (by kernel_rfl) ?_
      simp [go_sem, h37, h38, z13, z15, z17, z21, z23, z25, z27, z29, z31, z36, z38, z40, z42]
      exact hK.out _ _ (Below.refl _ _) rfl
    · intro A wx hR hout hdep K hK
      refine if_yes (by kernel_rfl) ?_
      simp [go_sem, z13, z15, z17, z21, z23, z25, z27, z29, z31, z36, z38, z40, z42]
      refine (K40.out wx).mono ?_
      rintro e wG ⟨rfl, hbG⟩
      exact hK.out _ _ hbG rfl
    · intro A wx hR hout hdep K hK
      have h39 : A.tmps[39]?.getD undef = .string ((⟨#[127, 69, 76, 70, 1, 2, 1, 0, 0, 0, 0, 0, 0, 0, 0, 0]⟩ : ByteArray) ++ X13 ++ X15 ++ X17 ++ X21 ++ X23 ++ X25 ++ X27 ++ X29 ++ X31 ++ X36 ++ X38) := hdep 39 (by kernel_rfl)
      have h40 : A.tmps[40]?.getD undef = .string X40 := hdep 40 (by kernel_rfl)
      refine if_yes (by kernel_rfl) ?_
      simp [go_sem, h39, h40, z13, z15, z17, z21, z23, z25, z27, z29, z31, z36, z38, z40, z42]
      exact hK.out _ _ (Below.refl _ _) rfl
    · intro A wx hR hout hdep K hK
      refine if_yes (by kernel_rfl) ?_
      simp [go_sem, z13, z15, z17, z21, z23, z25, z27, z29, z31, z36, z38, z40, z42]
      refine (K42.out wx).mono ?_
      rintro e wG ⟨rfl, hbG⟩
      exact hK.out _ _ hbG rfl
    · intro A wx hR hout hdep K hK
      have h41 : A.tmps[41]?.getD undef = .string ((⟨#[127, 69, 76, 70, 1, 2, 1, 0, 0, 0, 0, 0, 0, 0, 0, 0]⟩ : ByteArray) ++ X13 ++ X15 ++ X17 ++ X21 ++ X23 ++ X25 ++ X27 ++ X29 ++ X31 ++ X36 ++ X38 ++ X40) := hdep 41 (by kernel_rfl)
      have h42 : A.tmps[42]?.getD undef = .string X42 := hdep 42 (by kernel_rfl)
      refine if_yes (by kernel_rfl) ?_
      simp [go_sem, h41, h42, z13, z15, z17, z21, z23, z25, z27, z29, z31, z36, z38, z40, z42]
      exact hK.out _ _ (Below.refl _ _) rfl
    · intro A wx hR hout hdep K hK
      have h43 : A.tmps[43]?.getD undef = .string ((⟨#[127, 69, 76, 70, 1, 2, 1, 0, 0, 0, 0, 0, 0, 0, 0, 0]⟩ : ByteArray) ++ X13 ++ X15 ++ X17 ++ X21 ++ X23 ++ X25 ++ X27 ++ X29 ++ X31 ++ X36 ++ X38 ++ X40 ++ X42) := hdep 43 (by kernel_rfl)
      refine if_yes (by kernel_rfl) ?_
      simp [go_sem, h43, z13, z15, z17, z21, z23, z25, z27, z29, z31, z36, z38, z40, z42]
      exact hK.out _ _ (Below.refl _ _) rfl
    have h4 : f 4 = .string ((⟨#[127, 69, 76, 70, 1, 2, 1, 0, 0, 0, 0, 0, 0, 0, 0, 0]⟩ : ByteArray) ++ X13 ++ X15 ++ X17 ++ X21 ++ X23 ++ X25 ++ X27 ++ X29 ++ X31 ++ X36 ++ X38 ++ X40 ++ X42) := hf 4 (by kernel_rfl)
    rw [HHD.out] at h4
    simp only [putSl, Act.put, List.setIfInBounds_toArray, List.set_cons_zero, List.set_cons_succ, h4]
    have HBY : Hid (Below W.heap.size W wy) := below_tr hb1 hR
    clear hb1 hR q1 q2 hf h4
    have HA0 : Hid ((⟨HB0.toArray⟩ : ByteArray) = ⟨(HB0 ++ (GS.take 0).flatMap segB).toArray⟩) := by show _ = _; rw [List.take_zero, List.flatMap_nil, List.append_nil]
    go_wp2
    go_loopw [4, 5] (fun x y wr => ∃ k : Nat, x = .string ⟨(HB0 ++ (GS.take k).flatMap segB).toArray⟩ ∧ y = .int .i64 (k : Int) ∧ k ≤ LEN ∧ Below W.heap.size W wr) (fun _ y _ => LEN - (intOf y).toNat)
    case atStart => exact ⟨0, by rw [← HA0.out], rfl, Nat.zero_le _, HBY.out⟩
    case round =>
      obtain ⟨k, rfl, rfl, hk, hbr⟩ := hrel
      have qr := keep_cell hbr HQ.out.2.2
      by_cases hlt : k < LEN
      · have hlt2 : k < GS.length := by rw [← HLEN.out]; exact hlt
        have hlti : (k : Int) < (LEN : Int) := by omega
        obtain ⟨b, o, rfl, h7⟩ := HS.out k hlt2
        have h7 := h7.keep hbr
        obtain ⟨g, hg⟩ : ∃ g, g = GS[k] := ⟨_, rfl⟩
        have hmem : g ∈ GS := by rw [hg]; exact List.getElem_mem hlt2
        have hbd := HBD.out g hmem
        have hft := HALL.out g hmem
        obtain ⟨AA, hAA⟩ : ∃ A : ByteArray, A = ⟨(HB0 ++ (GS.take k).flatMap segB).toArray⟩ := ⟨_, rfl⟩
        have hAz : AA.size ≤ 100000 := by
          rw [hAA]
          show (HB0 ++ (GS.take k).flatMap segB).toArray.size ≤ _
          rw [List.size_toArray, List.length_append, HHL.out, flat_len, List.length_take]
          omega
        obtain ⟨KK, hKK⟩ : ∃ K, K = (g.kind % 4294967296).toNat := ⟨_, rfl⟩
        obtain ⟨FL, hFL⟩ : ∃ K, K = flF g.prot 8 := ⟨_, rfl⟩
        have eK2 : g.kind % 4294967296 = (KK : Int) := by omega
        have eK : IntKind.u32.wrap g.kind = (KK : Int) := by rw [IntKind.wrap_u32]; exact eK2
        have hFl := flF_lt g.prot 8
        have K84 : Hid (∀ w', Calls Tryz.prog 76 #[.int .i64 g.prot] w' fun e w'' => e = .returned (.int .u32 (FL : Int)) ∧ w'' = w') := fun w' => by rw [hFL]; exact flags32 g.prot w'
        rw [← hFL] at hFl
        obtain ⟨X60, h60⟩ : ∃ X : ByteArray, X = ⟨(bN 4 (KK)).toArray⟩ := ⟨_, rfl⟩
        have z60 : X60.size = 4 := by rw [h60]; show (bN 4 (KK)).toArray.size = 4; simp [bN_len]
        have K60 : Hid (∀ w', Calls Tryz.prog 75 #[.int .u32 (KK : Int)] w' fun e w'' => e = .returned (.string X60) ∧ Below w'.heap.size w' w'') := fun w' => by rw [h60]; exact w31 (KK) (by omega) w'
        obtain ⟨Y61, a61⟩ : ∃ Y, AA ++ X60 = Y := ⟨_, rfl⟩
        have y61 : Y61.size = AA.size + 4 := by rw [← a61, ByteArray.size_append, z60]
        have m61 : (9223372036854775807 < AA.size + X60.size) = False := eq_false (by omega)
        obtain ⟨X64, h64⟩ : ∃ X : ByteArray, X = ⟨(bN 4 (g.off)).toArray⟩ := ⟨_, rfl⟩
        have z64 : X64.size = 4 := by rw [h64]; show (bN 4 (g.off)).toArray.size = 4; simp [bN_len]
        have K64 : Hid (∀ w', Calls Tryz.prog 75 #[.int .u32 (g.off : Int)] w' fun e w'' => e = .returned (.string X64) ∧ Below w'.heap.size w' w'') := fun w' => by rw [h64]; exact w31 (g.off) hbd.o w'
        obtain ⟨Y65, a65⟩ : ∃ Y, Y61 ++ X64 = Y := ⟨_, rfl⟩
        have y65 : Y65.size = AA.size + 8 := by rw [← a65, ByteArray.size_append, z64]; omega
        have m65 : (9223372036854775807 < Y61.size + X64.size) = False := eq_false (by omega)
        obtain ⟨X68, h68⟩ : ∃ X : ByteArray, X = ⟨(bN 4 (g.at_)).toArray⟩ := ⟨_, rfl⟩
        have z68 : X68.size = 4 := by rw [h68]; show (bN 4 (g.at_)).toArray.size = 4; simp [bN_len]
        have K68 : Hid (∀ w', Calls Tryz.prog 75 #[.int .u32 (g.at_ : Int)] w' fun e w'' => e = .returned (.string X68) ∧ Below w'.heap.size w' w'') := fun w' => by rw [h68]; exact w31 (g.at_) hbd.a w'
        obtain ⟨Y69, a69⟩ : ∃ Y, Y65 ++ X68 = Y := ⟨_, rfl⟩
        have y69 : Y69.size = AA.size + 12 := by rw [← a69, ByteArray.size_append, z68]; omega
        have m69 : (9223372036854775807 < Y65.size + X68.size) = False := eq_false (by omega)
        obtain ⟨X72, h72⟩ : ∃ X : ByteArray, X = ⟨(bN 4 (g.at_)).toArray⟩ := ⟨_, rfl⟩
        have z72 : X72.size = 4 := by rw [h72]; show (bN 4 (g.at_)).toArray.size = 4; simp [bN_len]
        have K72 : Hid (∀ w', Calls Tryz.prog 75 #[.int .u32 (g.at_ : Int)] w' fun e w'' => e = .returned (.string X72) ∧ Below w'.heap.size w' w'') := fun w' => by rw [h72]; exact w31 (g.at_) hbd.a w'
        obtain ⟨Y73, a73⟩ : ∃ Y, Y69 ++ X72 = Y := ⟨_, rfl⟩
        have y73 : Y73.size = AA.size + 16 := by rw [← a73, ByteArray.size_append, z72]; omega
        have m73 : (9223372036854775807 < Y69.size + X72.size) = False := eq_false (by omega)
        obtain ⟨X76, h76⟩ : ∃ X : ByteArray, X = ⟨(bN 4 (g.size)).toArray⟩ := ⟨_, rfl⟩
        have z76 : X76.size = 4 := by rw [h76]; show (bN 4 (g.size)).toArray.size = 4; simp [bN_len]
        have K76 : Hid (∀ w', Calls Tryz.prog 75 #[.int .u32 (g.size : Int)] w' fun e w'' => e = .returned (.string X76) ∧ Below w'.heap.size w' w'') := fun w' => by rw [h76]; exact w31 (g.size) hbd.s w'
        obtain ⟨Y77, a77⟩ : ∃ Y, Y73 ++ X76 = Y := ⟨_, rfl⟩
        have y77 : Y77.size = AA.size + 20 := by rw [← a77, ByteArray.size_append, z76]; omega
        have m77 : (9223372036854775807 < Y73.size + X76.size) = False := eq_false (by omega)
        obtain ⟨X80, h80⟩ : ∃ X : ByteArray, X = ⟨(bN 4 (g.room)).toArray⟩ := ⟨_, rfl⟩
        have z80 : X80.size = 4 := by rw [h80]; show (bN 4 (g.room)).toArray.size = 4; simp [bN_len]
        have K80 : Hid (∀ w', Calls Tryz.prog 75 #[.int .u32 (g.room : Int)] w' fun e w'' => e = .returned (.string X80) ∧ Below w'.heap.size w' w'') := fun w' => by rw [h80]; exact w31 (g.room) hbd.r w'
        obtain ⟨Y81, a81⟩ : ∃ Y, Y77 ++ X80 = Y := ⟨_, rfl⟩
        have y81 : Y81.size = AA.size + 24 := by rw [← a81, ByteArray.size_append, z80]; omega
        have m81 : (9223372036854775807 < Y77.size + X80.size) = False := eq_false (by omega)
        obtain ⟨X85, h85⟩ : ∃ X : ByteArray, X = ⟨(bN 4 (FL)).toArray⟩ := ⟨_, rfl⟩
        have z85 : X85.size = 4 := by rw [h85]; show (bN 4 (FL)).toArray.size = 4; simp [bN_len]
        have K85 : Hid (∀ w', Calls Tryz.prog 75 #[.int .u32 (FL : Int)] w' fun e w'' => e = .returned (.string X85) ∧ Below w'.heap.size w' w'') := fun w' => by rw [h85]; exact w31 (FL) (by omega) w'
        obtain ⟨Y86, a86⟩ : ∃ Y, Y81 ++ X85 = Y := ⟨_, rfl⟩
        have y86 : Y86.size = AA.size + 28 := by rw [← a86, ByteArray.size_append, z85]; omega
        have m86 : (9223372036854775807 < Y81.size + X85.size) = False := eq_false (by omega)
        obtain ⟨X89, h89⟩ : ∃ X : ByteArray, X = ⟨(bN 4 (g.align)).toArray⟩ := ⟨_, rfl⟩
        have z89 : X89.size = 4 := by rw [h89]; show (bN 4 (g.align)).toArray.size = 4; simp [bN_len]
        have K89 : Hid (∀ w', Calls Tryz.prog 75 #[.int .u32 (g.align : Int)] w' fun e w'' => e = .returned (.string X89) ∧ Below w'.heap.size w' w'') := fun w' => by rw [h89]; exact w31 (g.align) hbd.l w'
        obtain ⟨Y90, a90⟩ : ∃ Y, Y86 ++ X89 = Y := ⟨_, rfl⟩
        have y90 : Y90.size = AA.size + 32 := by rw [← a90, ByteArray.size_append, z89]; omega
        have m90 : (9223372036854775807 < Y86.size + X89.size) = False := eq_false (by omega)
        have HNX : Hid (Y90 = (⟨(HB0 ++ (GS.take (k + 1)).flatMap segB).toArray⟩ : ByteArray)) := by
          show _ = _
          rw [← a90, ← a86, ← a81, ← a77, ← a73, ← a69, ← a65, ← a61, h60, h64, h68, h72, h76, h80, h85, h89, hAA]
          simp only [ba_app]
          rw [List.take_succ_eq_append_getElem hlt2, List.flatMap_append, ← hg]
          simp only [List.append_assoc, List.flatMap_cons, List.flatMap_nil, List.append_nil]
          rw [hFL, hKK, seg_doc g hft]
        rw [← hg] at h7
        rw [← hAA]
        obtain ⟨p0, p1, p2, p3, p4, p5, p6⟩ := h7
        obtain ⟨W1, hW1, hbW, hzW, r0, r1, r2, r3, r4, r5, r6⟩ := box7 wr g
        have HBR : Hid (Below W.heap.size W W1) := below_tr hbr hbW
        clear hbr hbW hzW hg hmem hbd hft hAA hKK hFL hFl h60 h64 h68 h72 h76 h80 h85 h89
        go_wp2
        refine wp_region_cut (R := Ext) [⟨56, fun v _ => v = .string AA, fun _ _ _ _ h => h⟩, ⟨57, fun v _ => v = .pointer (some ⟨wr.heap.size, 0, none⟩), fun _ _ _ _ h => h⟩, ⟨58, fun v _ => v = .int .i64 g.kind, fun _ _ _ _ h => h⟩, ⟨59, fun v _ => v = .int .u32 (KK : Int), fun _ _ _ _ h => h⟩, ⟨60, fun v _ => v = .string X60, fun _ _ _ _ h => h⟩, ⟨61, fun v _ => v = .string Y61, fun _ _ _ _ h => h⟩, ⟨62, fun v _ => v = .pointer (some ⟨wr.heap.size, 1, none⟩), fun _ _ _ _ h => h⟩, ⟨63, fun v _ => v = .int .u32 (g.off : Int), fun _ _ _ _ h => h⟩, ⟨64, fun v _ => v = .string X64, fun _ _ _ _ h => h⟩, ⟨65, fun v _ => v = .string Y65, fun _ _ _ _ h => h⟩, ⟨66, fun v _ => v = .pointer (some ⟨wr.heap.size, 2, none⟩), fun _ _ _ _ h => h⟩, ⟨67, fun v _ => v = .int .u32 (g.at_ : Int), fun _ _ _ _ h => h⟩, ⟨68, fun v _ => v = .string X68, fun _ _ _ _ h => h⟩, ⟨69, fun v _ => v = .string Y69, fun _ _ _ _ h => h⟩, ⟨70, fun v _ => v = .pointer (some ⟨wr.heap.size, 2, none⟩), fun _ _ _ _ h => h⟩, ⟨71, fun v _ => v = .int .u32 (g.at_ : Int), fun _ _ _ _ h => h⟩, ⟨72, fun v _ => v = .string X72, fun _ _ _ _ h => h⟩, ⟨73, fun v _ => v = .string Y73, fun _ _ _ _ h => h⟩, ⟨74, fun v _ => v = .pointer (some ⟨wr.heap.size, 3, none⟩), fun _ _ _ _ h => h⟩, ⟨75, fun v _ => v = .int .u32 (g.size : Int), fun _ _ _ _ h => h⟩, ⟨76, fun v _ => v = .string X76, fun _ _ _ _ h => h⟩, ⟨77, fun v _ => v = .string Y77, fun _ _ _ _ h => h⟩, ⟨78, fun v _ => v = .pointer (some ⟨wr.heap.size, 4, none⟩), fun _ _ _ _ h => h⟩, ⟨79, fun v _ => v = .int .u32 (g.room : Int), fun _ _ _ _ h => h⟩, ⟨80, fun v _ => v = .string X80, fun _ _ _ _ h => h⟩, ⟨81, fun v _ => v = .string Y81, fun _ _ _ _ h => h⟩, ⟨82, fun v _ => v = .pointer (some ⟨wr.heap.size, 5, none⟩), fun _ _ _ _ h => h⟩, ⟨83, fun v _ => v = .int .i64 g.prot, fun _ _ _ _ h => h⟩, ⟨84, fun v _ => v = .int .u32 (FL : Int), fun _ _ _ _ h => h⟩, ⟨85, fun v _ => v = .string X85, fun _ _ _ _ h => h⟩, ⟨86, fun v _ => v = .string Y86, fun _ _ _ _ h => h⟩, ⟨87, fun v _ => v = .pointer (some ⟨wr.heap.size, 6, none⟩), fun _ _ _ _ h => h⟩, ⟨88, fun v _ => v = .int .u32 (g.align : Int), fun _ _ _ _ h => h⟩, ⟨89, fun v _ => v = .string X89, fun _ _ _ _ h => h⟩, ⟨90, fun v _ => v = .string Y90, fun _ _ _ _ h => h⟩] _ 35 (by kernel_rfl) rfl (by kernel_rfl) (by decide) (by kernel_rfl) (Below.drew (Below.refl _ _)) (fun _ _ _ h1 h2 => below_tr h1 h2) (fun QQ => ⟨?_, ?_, ?_, ?_, ?_, ?_, ?_, ?_, ?_, ?_, ?_, ?_, ?_, ?_, ?_, ?_, ?_, ?_, ?_, ?_, ?_, ?_, ?_, ?_, ?_, ?_, ?_, ?_, ?_, ?_, ?_, ?_, ?_, ?_, ?_, trivial⟩) (fun f wy hR hf A hA => ?_)
        · intro A wx hR hout hdep K hK
          have h4 : A.tmps[4]?.getD undef = .string AA := hout 4 (by kernel_rfl)
          refine if_yes (by kernel_rfl) ?_
          simp [go_sem, h4, eK, eK2, a61, m61, a65, m65, a69, m69, a73, m73, a77, m77, a81, m81, a86, m86, a90, m90]
          exact hK.out _ _ (Below.refl _ _) rfl
        · intro A wx hR hout hdep K hK
          have h6 : A.tmps[6]?.getD undef = .pointer (some ⟨wr.heap.size, 0, none⟩) := hout 6 (by kernel_rfl)
          refine if_yes (by kernel_rfl) ?_
          simp [go_sem, h6, eK, eK2, a61, m61, a65, m65, a69, m69, a73, m73, a77, m77, a81, m81, a86, m86, a90, m90]
          exact hK.out _ _ (Below.refl _ _) rfl
        · intro A wx hR hout hdep K hK
          have h57 : A.tmps[57]?.getD undef = .pointer (some ⟨wr.heap.size, 0, none⟩) := hdep 57 (by kernel_rfl)
          refine if_yes (by kernel_rfl) ?_
          have r0 := keep_cell hR r0
          have r1 := keep_cell hR r1
          have r2 := keep_cell hR r2
          have r3 := keep_cell hR r3
          have r4 := keep_cell hR r4
          have r5 := keep_cell hR r5
          have r6 := keep_cell hR r6
          simp [go_sem, h57, r0, r1, r2, r3, r4, r5, r6, eK, eK2, a61, m61, a65, m65, a69, m69, a73, m73, a77, m77, a81, m81, a86, m86, a90, m90]
          exact hK.out _ _ (Below.refl _ _) rfl
        · intro A wx hR hout hdep K hK
          have h58 : A.tmps[58]?.getD undef = .int .i64 g.kind := hdep 58 (by kernel_rfl)
          refine if_yes (by kernel_rfl) ?_
          simp [go_sem, h58, eK, eK2, a61, m61, a65, m65, a69, m69, a73, m73, a77, m77, a81, m81, a86, m86, a90, m90]
          exact hK.out _ _ (Below.refl _ _) rfl
        · intro A wx hR hout hdep K hK
          have h59 : A.tmps[59]?.getD undef = .int .u32 (KK : Int) := hdep 59 (by kernel_rfl)
          refine if_yes (by kernel_rfl) ?_
          simp [go_sem, h59, eK, eK2, a61, m61, a65, m65, a69, m69, a73, m73, a77, m77, a81, m81, a86, m86, a90, m90]
          refine (K60.out wx).mono ?_
          rintro e wG ⟨rfl, hbG⟩
          exact hK.out _ _ hbG rfl
        · intro A wx hR hout hdep K hK
          have h56 : A.tmps[56]?.getD undef = .string AA := hdep 56 (by kernel_rfl)
          have h60 : A.tmps[60]?.getD undef = .string X60 := hdep 60 (by kernel_rfl)
          refine if_yes (by kernel_rfl) ?_
          simp [go_sem, h56, h60, eK, eK2, a61, m61, a65, m65, a69, m69, a73, m73, a77, m77, a81, m81, a86, m86, a90, m90]
          exact hK.out _ _ (Below.refl _ _) rfl
        · intro A wx hR hout hdep K hK
          have h6 : A.tmps[6]?.getD undef = .pointer (some ⟨wr.heap.size, 0, none⟩) := hout 6 (by kernel_rfl)
          refine if_yes (by kernel_rfl) ?_
          simp [go_sem, h6, eK, eK2, a61, m61, a65, m65, a69, m69, a73, m73, a77, m77, a81, m81, a86, m86, a90, m90]
          exact hK.out _ _ (Below.refl _ _) rfl
        · intro A wx hR hout hdep K hK
          have h62 : A.tmps[62]?.getD undef = .pointer (some ⟨wr.heap.size, 1, none⟩) := hdep 62 (by kernel_rfl)
          refine if_yes (by kernel_rfl) ?_
          have r0 := keep_cell hR r0
          have r1 := keep_cell hR r1
          have r2 := keep_cell hR r2
          have r3 := keep_cell hR r3
          have r4 := keep_cell hR r4
          have r5 := keep_cell hR r5
          have r6 := keep_cell hR r6
          simp [go_sem, h62, r0, r1, r2, r3, r4, r5, r6, eK, eK2, a61, m61, a65, m65, a69, m69, a73, m73, a77, m77, a81, m81, a86, m86, a90, m90]
          exact hK.out _ _ (Below.refl _ _) rfl
        · intro A wx hR hout hdep K hK
          have h63 : A.tmps[63]?.getD undef = .int .u32 (g.off : Int) := hdep 63 (by kernel_rfl)
          refine if_yes (by kernel_rfl) ?_
          simp [go_sem, h63, eK, eK2, a61, m61, a65, m65, a69, m69, a73, m73, a77, m77, a81, m81, a86, m86, a90, m90]
          refine (K64.out wx).mono ?_
          rintro e wG ⟨rfl, hbG⟩
          exact hK.out _ _ hbG rfl
        · intro A wx hR hout hdep K hK
          have h61 : A.tmps[61]?.getD undef = .string Y61 := hdep 61 (by kernel_rfl)
          have h64 : A.tmps[64]?.getD undef = .string X64 := hdep 64 (by kernel_rfl)
          refine if_yes (by kernel_rfl) ?_
          simp [go_sem, h61, h64, eK, eK2, a61, m61, a65, m65, a69, m69, a73, m73, a77, m77, a81, m81, a86, m86, a90, m90]
          exact hK.out _ _ (Below.refl _ _) rfl
        · intro A wx hR hout hdep K hK
          have h6 : A.tmps[6]?.getD undef = .pointer (some ⟨wr.heap.size, 0, none⟩) := hout 6 (by kernel_rfl)
          refine if_yes (by kernel_rfl) ?_
          simp [go_sem, h6, eK, eK2, a61, m61, a65, m65, a69, m69, a73, m73, a77, m77, a81, m81, a86, m86, a90, m90]
          exact hK.out _ _ (Below.refl _ _) rfl
        · intro A wx hR hout hdep K hK
          have h66 : A.tmps[66]?.getD undef = .pointer (some ⟨wr.heap.size, 2, none⟩) := hdep 66 (by kernel_rfl)
          refine if_yes (by kernel_rfl) ?_
          have r0 := keep_cell hR r0
          have r1 := keep_cell hR r1
          have r2 := keep_cell hR r2
          have r3 := keep_cell hR r3
          have r4 := keep_cell hR r4
          have r5 := keep_cell hR r5
          have r6 := keep_cell hR r6
          simp [go_sem, h66, r0, r1, r2, r3, r4, r5, r6, eK, eK2, a61, m61, a65, m65, a69, m69, a73, m73, a77, m77, a81, m81, a86, m86, a90, m90]
          exact hK.out _ _ (Below.refl _ _) rfl
        · intro A wx hR hout hdep K hK
          have h67 : A.tmps[67]?.getD undef = .int .u32 (g.at_ : Int) := hdep 67 (by kernel_rfl)
          refine if_yes (by kernel_rfl) ?_
          simp [go_sem, h67, eK, eK2, a61, m61, a65, m65, a69, m69, a73, m73, a77, m77, a81, m81, a86, m86, a90, m90]
          refine (K68.out wx).mono ?_
          rintro e wG ⟨rfl, hbG⟩
          exact hK.out _ _ hbG rfl
        · intro A wx hR hout hdep K hK
          have h65 : A.tmps[65]?.getD undef = .string Y65 := hdep 65 (by kernel_rfl)
          have h68 : A.tmps[68]?.getD undef = .string X68 := hdep 68 (by kernel_rfl)
          refine if_yes (by kernel_rfl) ?_
          simp [go_sem, h65, h68, eK, eK2, a61, m61, a65, m65, a69, m69, a73, m73, a77, m77, a81, m81, a86, m86, a90, m90]
          exact hK.out _ _ (Below.refl _ _) rfl
        · intro A wx hR hout hdep K hK
          have h6 : A.tmps[6]?.getD undef = .pointer (some ⟨wr.heap.size, 0, none⟩) := hout 6 (by kernel_rfl)
          refine if_yes (by kernel_rfl) ?_
          simp [go_sem, h6, eK, eK2, a61, m61, a65, m65, a69, m69, a73, m73, a77, m77, a81, m81, a86, m86, a90, m90]
          exact hK.out _ _ (Below.refl _ _) rfl
        · intro A wx hR hout hdep K hK
          have h70 : A.tmps[70]?.getD undef = .pointer (some ⟨wr.heap.size, 2, none⟩) := hdep 70 (by kernel_rfl)
          refine if_yes (by kernel_rfl) ?_
          have r0 := keep_cell hR r0
          have r1 := keep_cell hR r1
          have r2 := keep_cell hR r2
          have r3 := keep_cell hR r3
          have r4 := keep_cell hR r4
          have r5 := keep_cell hR r5
          have r6 := keep_cell hR r6
          simp [go_sem, h70, r0, r1, r2, r3, r4, r5, r6, eK, eK2, a61, m61, a65, m65, a69, m69, a73, m73, a77, m77, a81, m81, a86, m86, a90, m90]
          exact hK.out _ _ (Below.refl _ _) rfl
        · intro A wx hR hout hdep K hK
          have h71 : A.tmps[71]?.getD undef = .int .u32 (g.at_ : Int) := hdep 71 (by kernel_rfl)
          refine if_yes (by kernel_rfl) ?_
          simp [go_sem, h71, eK, eK2, a61, m61, a65, m65, a69, m69, a73, m73, a77, m77, a81, m81, a86, m86, a90, m90]
          refine (K72.out wx).mono ?_
          rintro e wG ⟨rfl, hbG⟩
          exact hK.out _ _ hbG rfl
        · intro A wx hR hout hdep K hK
          have h69 : A.tmps[69]?.getD undef = .string Y69 := hdep 69 (by kernel_rfl)
          have h72 : A.tmps[72]?.getD undef = .string X72 := hdep 72 (by kernel_rfl)
          refine if_yes (by kernel_rfl) ?_
          simp [go_sem, h69, h72, eK, eK2, a61, m61, a65, m65, a69, m69, a73, m73, a77, m77, a81, m81, a86, m86, a90, m90]
          exact hK.out _ _ (Below.refl _ _) rfl
        · intro A wx hR hout hdep K hK
          have h6 : A.tmps[6]?.getD undef = .pointer (some ⟨wr.heap.size, 0, none⟩) := hout 6 (by kernel_rfl)
          refine if_yes (by kernel_rfl) ?_
          simp [go_sem, h6, eK, eK2, a61, m61, a65, m65, a69, m69, a73, m73, a77, m77, a81, m81, a86, m86, a90, m90]
          exact hK.out _ _ (Below.refl _ _) rfl
        · intro A wx hR hout hdep K hK
          have h74 : A.tmps[74]?.getD undef = .pointer (some ⟨wr.heap.size, 3, none⟩) := hdep 74 (by kernel_rfl)
          refine if_yes (by kernel_rfl) ?_
          have r0 := keep_cell hR r0
          have r1 := keep_cell hR r1
          have r2 := keep_cell hR r2
          have r3 := keep_cell hR r3
          have r4 := keep_cell hR r4
          have r5 := keep_cell hR r5
          have r6 := keep_cell hR r6
          simp [go_sem, h74, r0, r1, r2, r3, r4, r5, r6, eK, eK2, a61, m61, a65, m65, a69, m69, a73, m73, a77, m77, a81, m81, a86, m86, a90, m90]
          exact hK.out _ _ (Below.refl _ _) rfl
        · intro A wx hR hout hdep K hK
          have h75 : A.tmps[75]?.getD undef = .int .u32 (g.size : Int) := hdep 75 (by kernel_rfl)
          refine if_yes (by kernel_rfl) ?_
          simp [go_sem, h75, eK, eK2, a61, m61, a65, m65, a69, m69, a73, m73, a77, m77, a81, m81, a86, m86, a90, m90]
          refine (K76.out wx).mono ?_
          rintro e wG ⟨rfl, hbG⟩
          exact hK.out _ _ hbG rfl
        · intro A wx hR hout hdep K hK
          have h73 : A.tmps[73]?.getD undef = .string Y73 := hdep 73 (by kernel_rfl)
          have h76 : A.tmps[76]?.getD undef = .string X76 := hdep 76 (by kernel_rfl)
          refine if_yes (by kernel_rfl) ?_
          simp [go_sem, h73, h76, eK, eK2, a61, m61, a65, m65, a69, m69, a73, m73, a77, m77, a81, m81, a86, m86, a90, m90]
          exact hK.out _ _ (Below.refl _ _) rfl
        · intro A wx hR hout hdep K hK
          have h6 : A.tmps[6]?.getD undef = .pointer (some ⟨wr.heap.size, 0, none⟩) := hout 6 (by kernel_rfl)
          refine if_yes (by kernel_rfl) ?_
          simp [go_sem, h6, eK, eK2, a61, m61, a65, m65, a69, m69, a73, m73, a77, m77, a81, m81, a86, m86, a90, m90]
          exact hK.out _ _ (Below.refl _ _) rfl
        · intro A wx hR hout hdep K hK
          have h78 : A.tmps[78]?.getD undef = .pointer (some ⟨wr.heap.size, 4, none⟩) := hdep 78 (by kernel_rfl)
          refine if_yes (by kernel_rfl) ?_
          have r0 := keep_cell hR r0
          have r1 := keep_cell hR r1
          have r2 := keep_cell hR r2
          have r3 := keep_cell hR r3
          have r4 := keep_cell hR r4
          have r5 := keep_cell hR r5
          have r6 := keep_cell hR r6
          simp [go_sem, h78, r0, r1, r2, r3, r4, r5, r6, eK, eK2, a61, m61, a65, m65, a69, m69, a73, m73, a77, m77, a81, m81, a86, m86, a90, m90]
          exact hK.out _ _ (Below.refl _ _) rfl
        · intro A wx hR hout hdep K hK
          have h79 : A.tmps[79]?.getD undef = .int .u32 (g.room : Int) := hdep 79 (by kernel_rfl)
          refine if_yes (by kernel_rfl) ?_
          simp [go_sem, h79, eK, eK2, a61, m61, a65, m65, a69, m69, a73, m73, a77, m77, a81, m81, a86, m86, a90, m90]
          refine (K80.out wx).mono ?_
          rintro e wG ⟨rfl, hbG⟩
          exact hK.out _ _ hbG rfl
        · intro A wx hR hout hdep K hK
          have h77 : A.tmps[77]?.getD undef = .string Y77 := hdep 77 (by kernel_rfl)
          have h80 : A.tmps[80]?.getD undef = .string X80 := hdep 80 (by kernel_rfl)
          refine if_yes (by kernel_rfl) ?_
          simp [go_sem, h77, h80, eK, eK2, a61, m61, a65, m65, a69, m69, a73, m73, a77, m77, a81, m81, a86, m86, a90, m90]
          exact hK.out _ _ (Below.refl _ _) rfl
        · intro A wx hR hout hdep K hK
          have h6 : A.tmps[6]?.getD undef = .pointer (some ⟨wr.heap.size, 0, none⟩) := hout 6 (by kernel_rfl)
          refine if_yes (by kernel_rfl) ?_
          simp [go_sem, h6, eK, eK2, a61, m61, a65, m65, a69, m69, a73, m73, a77, m77, a81, m81, a86, m86, a90, m90]
          exact hK.out _ _ (Below.refl _ _) rfl
        · intro A wx hR hout hdep K hK
          have h82 : A.tmps[82]?.getD undef = .pointer (some ⟨wr.heap.size, 5, none⟩) := hdep 82 (by kernel_rfl)
          refine if_yes (by kernel_rfl) ?_
          have r0 := keep_cell hR r0
          have r1 := keep_cell hR r1
          have r2 := keep_cell hR r2
          have r3 := keep_cell hR r3
          have r4 := keep_cell hR r4
          have r5 := keep_cell hR r5
          have r6 := keep_cell hR r6
          simp [go_sem, h82, r0, r1, r2, r3, r4, r5, r6, eK, eK2, a61, m61, a65, m65, a69, m69, a73, m73, a77, m77, a81, m81, a86, m86, a90, m90]
          exact hK.out _ _ (Below.refl _ _) rfl
        · intro A wx hR hout hdep K hK
          have h83 : A.tmps[83]?.getD undef = .int .i64 g.prot := hdep 83 (by kernel_rfl)
          refine if_yes (by kernel_rfl) ?_
          simp [go_sem, h83, eK, eK2, a61, m61, a65, m65, a69, m69, a73, m73, a77, m77, a81, m81, a86, m86, a90, m90]
          refine (K84.out wx).mono ?_
          rintro e wG ⟨rfl, rfl⟩
          exact hK.out _ _ (Below.refl _ _) rfl
        · intro A wx hR hout hdep K hK
          have h84 : A.tmps[84]?.getD undef = .int .u32 (FL : Int) := hdep 84 (by kernel_rfl)
          refine if_yes (by kernel_rfl) ?_
          simp [go_sem, h84, eK, eK2, a61, m61, a65, m65, a69, m69, a73, m73, a77, m77, a81, m81, a86, m86, a90, m90]
          refine (K85.out wx).mono ?_
          rintro e wG ⟨rfl, hbG⟩
          exact hK.out _ _ hbG rfl
        · intro A wx hR hout hdep K hK
          have h81 : A.tmps[81]?.getD undef = .string Y81 := hdep 81 (by kernel_rfl)
          have h85 : A.tmps[85]?.getD undef = .string X85 := hdep 85 (by kernel_rfl)
          refine if_yes (by kernel_rfl) ?_
          simp [go_sem, h81, h85, eK, eK2, a61, m61, a65, m65, a69, m69, a73, m73, a77, m77, a81, m81, a86, m86, a90, m90]
          exact hK.out _ _ (Below.refl _ _) rfl
        · intro A wx hR hout hdep K hK
          have h6 : A.tmps[6]?.getD undef = .pointer (some ⟨wr.heap.size, 0, none⟩) := hout 6 (by kernel_rfl)
          refine if_yes (by kernel_rfl) ?_
          simp [go_sem, h6, eK, eK2, a61, m61, a65, m65, a69, m69, a73, m73, a77, m77, a81, m81, a86, m86, a90, m90]
          exact hK.out _ _ (Below.refl _ _) rfl
        · intro A wx hR hout hdep K hK
          have h87 : A.tmps[87]?.getD undef = .pointer (some ⟨wr.heap.size, 6, none⟩) := hdep 87 (by kernel_rfl)
          refine if_yes (by kernel_rfl) ?_
          have r0 := keep_cell hR r0
          have r1 := keep_cell hR r1
          have r2 := keep_cell hR r2
          have r3 := keep_cell hR r3
          have r4 := keep_cell hR r4
          have r5 := keep_cell hR r5
          have r6 := keep_cell hR r6
          simp [go_sem, h87, r0, r1, r2, r3, r4, r5, r6, eK, eK2, a61, m61, a65, m65, a69, m69, a73, m73, a77, m77, a81, m81, a86, m86, a90, m90]
          exact hK.out _ _ (Below.refl _ _) rfl
        · intro A wx hR hout hdep K hK
          have h88 : A.tmps[88]?.getD undef = .int .u32 (g.align : Int) := hdep 88 (by kernel_rfl)
          refine if_yes (by kernel_rfl) ?_
          simp [go_sem, h88, eK, eK2, a61, m61, a65, m65, a69, m69, a73, m73, a77, m77, a81, m81, a86, m86, a90, m90]
          refine (K89.out wx).mono ?_
          rintro e wG ⟨rfl, hbG⟩
          exact hK.out _ _ hbG rfl
        · intro A wx hR hout hdep K hK
          have h86 : A.tmps[86]?.getD undef = .string Y86 := hdep 86 (by kernel_rfl)
          have h89 : A.tmps[89]?.getD undef = .string X89 := hdep 89 (by kernel_rfl)
          refine if_yes (by kernel_rfl) ?_
          simp [go_sem, h86, h89, eK, eK2, a61, m61, a65, m65, a69, m69, a73, m73, a77, m77, a81, m81, a86, m86, a90, m90]
          exact hK.out _ _ (Below.refl _ _) rfl
        have h90 : f 90 = .string Y90 := hf 90 (by kernel_rfl)
        simp only [putSl, List.take_succ_cons, List.take_zero, Act.put, List.setIfInBounds_toArray, List.set_cons_zero, List.set_cons_succ, h90] at hA
        subst hA
        have HBZ : Hid (Below W.heap.size W wy) := below_tr HBR.out hR
        clear hR r0 r1 r2 r3 r4 r5 r6 hW1 hf h90 p0 p1 p2 p3 p4 p5 p6 qr eK eK2 a61 m61 a65 m65 a69 m69 a73 m73 a77 m77 a81 m81 a86 m86 a90 m90 y61 y65 y69 y73 y77 y81 y86 y90 z60 z64 z68 z72 z76 z80 z85 z89 hAz
        refine wpAny_ready (rs := [35]) (by kernel_rfl) (by decide) (AllReady.cons rfl ?_ AllReady.nil)
        intro K5 hK5
        refine if_yes (by kernel_rfl) ?_
        simp [go_sem]
        refine hK5 _ _ ?_
        refine wpAny_done (by kernel_rfl) ?_ _
        go_wp2
        go_roundw
        case rel => exact ⟨k + 1, by rw [← HNX.out], by go_num, by omega, HBZ.out⟩
        case measure => simp [intOf]; omega
      · have hke : ¬ (k : Int) < (LEN : Int) := by omega
        have HT : Hid (GS.take k = GS) := by show _ = _; rw [List.take_of_length_le (by rw [← HLEN.out]; omega)]
        rw [HT.out]
        go_wp2
        go_ret
        exact ⟨rfl, below_tr HB.out hbr⟩
end Go.Proofs.YtgdflobcbhnimaaGreat.E
