/- What is proved here: a header's bytes ahead of its segments: the program's. -/
import Derived.Test.YtgdflobcbhnimaaGreatEWn
import Derived.Test.YtgdflobcbhnimaaGreatESl
import Derived.OrdersHeld
namespace Go.Proofs.YtgdflobcbhnimaaGreat.E
open Go.RowKit
set_option linter.unusedVariables false
set_option linter.unusedSimpArgs false
set_option maxRecDepth 100000
theorem flat1 (n x : Nat) : ([x].flatMap (bN n)) = bN n x := by simp
set_option maxHeartbeats 1000000 in
theorem head28 (e : Ef) (v : Value) (w : World) (hs : SlG w v e.segs) (he : e.entry < 4294967296) (hn : e.segs.length ≤ 1000000) :
    Calls Tryz.prog 90 #[e.val v] w fun r w' => r = .returned (.string ⟨(headB e).toArray⟩) ∧ Below w.heap.size w w' := by
  obtain ⟨W, hW, hbl, hz, q0, q1, q2⟩ := box3 w (.bool e.shared) (.int .u32 (e.entry : Int)) v 37
  obtain ⟨KD, hKD⟩ : ∃ KD : Nat, KD = if e.shared then 3 else 2 := ⟨_, rfl⟩
  obtain ⟨EN, hEN⟩ : ∃ EN : Nat, EN = e.entry := ⟨_, rfl⟩
  obtain ⟨LEN, hLEN⟩ : ∃ EN : Nat, EN = e.segs.length := ⟨_, rfl⟩
  obtain ⟨X8, h8⟩ : ∃ X : ByteArray, X = ⟨(bN 2 KD).toArray⟩ := ⟨_, rfl⟩
  obtain ⟨X10, h10⟩ : ∃ X : ByteArray, X = ⟨entL.toArray⟩ := ⟨_, rfl⟩
  obtain ⟨X15, h15⟩ : ∃ X : ByteArray, X = ⟨(bN 4 EN).toArray⟩ := ⟨_, rfl⟩
  obtain ⟨X17, h17⟩ : ∃ X : ByteArray, X = ⟨cntL.toArray⟩ := ⟨_, rfl⟩
  obtain ⟨X24, h24⟩ : ∃ X : ByteArray, X = ⟨(bN 2 LEN).toArray⟩ := ⟨_, rfl⟩
  obtain ⟨X26, h26⟩ : ∃ X : ByteArray, X = ⟨endL.toArray⟩ := ⟨_, rfl⟩
  have z8 : X8.size = 2 := by rw [h8]; show (bN 2 KD).toArray.size = 2; simp [bN_len]
  have z10 : X10.size = 6 := by rw [h10]; rfl
  have z15 : X15.size = 4 := by rw [h15]; show (bN 4 EN).toArray.size = 4; simp [bN_len]
  have z17 : X17.size = 16 := by rw [h17]; rfl
  have z24 : X24.size = 2 := by rw [h24]; show (bN 2 LEN).toArray.size = 2; simp [bN_len]
  have z26 : X26.size = 6 := by rw [h26]; rfl
  have HE : Hid ((⟨(headB e).toArray⟩ : ByteArray) = (⟨#[127, 69, 76, 70, 1, 2, 1, 0, 0, 0, 0, 0, 0, 0, 0, 0]⟩ : ByteArray) ++ X8 ++ X10 ++ X15 ++ X17 ++ X24 ++ X26) := by
    show _ = _
    rw [h8, h10, h15, h17, h24, h26, show (⟨#[127, 69, 76, 70, 1, 2, 1, 0, 0, 0, 0, 0, 0, 0, 0, 0]⟩ : ByteArray) = (⟨magicL.toArray⟩ : ByteArray) from rfl]
    simp only [ba_app]
    rw [hEN, hLEN, hKD]
    unfold headB
    simp only [List.append_assoc]
  have K8 : Hid (∀ v w', SlU w' v [KD] → Calls Tryz.prog 110 #[v] w' fun e w'' => e = .returned (.string X8) ∧ Below w'.heap.size w' w'') := fun v w' h => by
    rw [h8, ← flat1]; exact halves41 [KD] (by simp) v w' (by intro x hx; simp only [List.mem_singleton] at hx; rw [hx, hKD]; split <;> decide) h
  have K15 : Hid (∀ v w', SlU w' v [EN] → Calls Tryz.prog 112 #[v] w' fun e w'' => e = .returned (.string X15) ∧ Below w'.heap.size w' w'') := fun v w' h => by
    rw [h15, ← flat1]; exact words43 [EN] (by simp) v w' (by intro x hx; simp only [List.mem_singleton] at hx; rw [hx, hEN]; exact he) h
  have K24 : Hid (∀ v w', SlU w' v [LEN] → Calls Tryz.prog 110 #[v] w' fun e w'' => e = .returned (.string X24) ∧ Below w'.heap.size w' w'') := fun v w' h => by
    rw [h24, ← flat1]; exact halves41 [LEN] (by simp) v w' (by intro x hx; simp only [List.mem_singleton] at hx; rw [hx, hLEN]; omega) h
  have K10 : Hid (∀ w', Calls Tryz.prog 111 #[] w' fun e w'' => e = .returned (.string X10) ∧ Below w'.heap.size w' w'') := fun w' => by rw [h10]; exact atEntry42 w'
  have K17 : Hid (∀ w', Calls Tryz.prog 113 #[] w' fun e w'' => e = .returned (.string X17) ∧ Below w'.heap.size w' w'') := fun w' => by rw [h17]; exact atCount44 w'
  have K26 : Hid (∀ w', Calls Tryz.prog 114 #[] w' fun e w'' => e = .returned (.string X26) ∧ Below w'.heap.size w' w'') := fun w' => by rw [h26]; exact atEnd45 w'
  have HB : Hid (Below w.heap.size w W) := hbl
  obtain ⟨ao, cap, rfl, s1, s2, s3, s4⟩ := hs
  unfold Ef.val
  rw [← hEN] at q1 hW ⊢
  rw [← hLEN] at q2 hW s1 hn ⊢
  have eL : (LEN : Int) % 4294967296 = (LEN : Int) := by omega
  have eLw : IntKind.u32.wrap (LEN : Int) = (LEN : Int) := by rw [IntKind.wrap_u32]; exact eL
  clear hbl hz s4 s3 h8 h10 h15 h17 h24 h26 hEN hLEN he
  cases hsh : e.shared with
  | true =>
    rw [hsh] at q0 hW hKD
    have hKD : (3 : Int) = (KD : Int) := by rw [hKD]; rfl
    go_enter Tryz.func90, Tryz.ntmps90
    go_wp2
    rw [hKD]
    clear hKD q0
    refine wp_region_slots (R := Ext) [⟨6, fun v _ => v = .int .u32 (KD : Int), fun _ _ _ _ h => h⟩, ⟨7, fun v w => SlU w v [KD], fun _ _ _ h k => k.keep h⟩, ⟨8, fun v _ => v = .string X8, fun _ _ _ _ h => h⟩, ⟨9, fun v _ => v = .string ((⟨#[127, 69, 76, 70, 1, 2, 1, 0, 0, 0, 0, 0, 0, 0, 0, 0]⟩ : ByteArray) ++ X8), fun _ _ _ _ h => h⟩, ⟨10, fun v _ => v = .string X10, fun _ _ _ _ h => h⟩, ⟨11, fun v _ => v = .string ((⟨#[127, 69, 76, 70, 1, 2, 1, 0, 0, 0, 0, 0, 0, 0, 0, 0]⟩ : ByteArray) ++ X8 ++ X10), fun _ _ _ _ h => h⟩, ⟨12, fun v _ => v = .pointer (some ⟨w.heap.size, 1, none⟩), fun _ _ _ _ h => h⟩, ⟨13, fun v _ => v = .int .u32 (EN : Int), fun _ _ _ _ h => h⟩, ⟨14, fun v w => SlU w v [EN], fun _ _ _ h k => k.keep h⟩, ⟨15, fun v _ => v = .string X15, fun _ _ _ _ h => h⟩, ⟨16, fun v _ => v = .string ((⟨#[127, 69, 76, 70, 1, 2, 1, 0, 0, 0, 0, 0, 0, 0, 0, 0]⟩ : ByteArray) ++ X8 ++ X10 ++ X15), fun _ _ _ _ h => h⟩, ⟨17, fun v _ => v = .string X17, fun _ _ _ _ h => h⟩, ⟨18, fun v _ => v = .string ((⟨#[127, 69, 76, 70, 1, 2, 1, 0, 0, 0, 0, 0, 0, 0, 0, 0]⟩ : ByteArray) ++ X8 ++ X10 ++ X15 ++ X17), fun _ _ _ _ h => h⟩, ⟨19, fun v _ => v = .pointer (some ⟨w.heap.size, 2, none⟩), fun _ _ _ _ h => h⟩, ⟨20, fun v _ => v = .slice ao LEN cap, fun _ _ _ _ h => h⟩, ⟨21, fun v _ => v = .int .i64 (LEN : Int), fun _ _ _ _ h => h⟩, ⟨22, fun v _ => v = .int .u32 (LEN : Int), fun _ _ _ _ h => h⟩, ⟨23, fun v w => SlU w v [LEN], fun _ _ _ h k => k.keep h⟩, ⟨24, fun v _ => v = .string X24, fun _ _ _ _ h => h⟩, ⟨25, fun v _ => v = .string ((⟨#[127, 69, 76, 70, 1, 2, 1, 0, 0, 0, 0, 0, 0, 0, 0, 0]⟩ : ByteArray) ++ X8 ++ X10 ++ X15 ++ X17 ++ X24), fun _ _ _ _ h => h⟩, ⟨26, fun v _ => v = .string X26, fun _ _ _ _ h => h⟩, ⟨27, fun v _ => v = .string ((⟨#[127, 69, 76, 70, 1, 2, 1, 0, 0, 0, 0, 0, 0, 0, 0, 0]⟩ : ByteArray) ++ X8 ++ X10 ++ X15 ++ X17 ++ X24 ++ X26), fun _ _ _ _ h => h⟩, ⟨2, fun v _ => v = .string ((⟨#[127, 69, 76, 70, 1, 2, 1, 0, 0, 0, 0, 0, 0, 0, 0, 0]⟩ : ByteArray) ++ X8 ++ X10 ++ X15 ++ X17 ++ X24 ++ X26), fun _ _ _ _ h => h⟩] _ (by kernel_rfl) rfl (by kernel_rfl) (Below.drew (Below.refl _ _)) (fun _ _ _ h1 h2 => below_tr h1 h2) (fun QQ => ⟨?_, ?_, ?_, ?_, ?_, ?_, ?_, ?_, ?_, ?_, ?_, ?_, ?_, ?_, ?_, ?_, ?_, ?_, ?_, ?_, ?_, ?_, ?_, trivial⟩) (fun f wy hR hf => ?_)
    · intro A wx hR hout hdep K hK
      have h3 : A.tmps[3]?.getD undef = .int .u32 (KD : Int) := hout 3 (by kernel_rfl)
      refine if_yes (by kernel_rfl) ?_
      simp [go_sem, h3, eL, eLw, z8, z10, z15, z17, z24, z26]
      exact hK.out _ _ (Below.refl _ _) rfl
    · intro A wx hR hout hdep K hK
      have h6 : A.tmps[6]?.getD undef = .int .u32 (KD : Int) := hdep 6 (by kernel_rfl)
      refine if_yes (by kernel_rfl) ?_
      simp [go_sem, h6, eL, eLw, z8, z10, z15, z17, z24, z26]
      exact hK.out _ _ ((Below.refl _ _).alloc (Nat.le_refl _) _) (SlU.new wx [KD] _ rfl _ rfl (by simp))
    · intro A wx hR hout hdep K hK
      have h7 := hdep 7 (by kernel_rfl)
      refine if_yes (by kernel_rfl) ?_
      simp [go_sem, eL, eLw, z8, z10, z15, z17, z24, z26]
      refine (K8.out _ wx h7).mono ?_
      rintro e wG ⟨rfl, hbG⟩
      exact hK.out _ _ hbG rfl
    · intro A wx hR hout hdep K hK
      have h8 : A.tmps[8]?.getD undef = .string X8 := hdep 8 (by kernel_rfl)
      refine if_yes (by kernel_rfl) ?_
      simp [go_sem, h8, eL, eLw, z8, z10, z15, z17, z24, z26]
      exact hK.out _ _ (Below.refl _ _) rfl
    · intro A wx hR hout hdep K hK
      refine if_yes (by kernel_rfl) ?_
      simp [go_sem, eL, eLw, z8, z10, z15, z17, z24, z26]
      refine (K10.out wx).mono ?_
      rintro e wG ⟨rfl, hbG⟩
      exact hK.out _ _ hbG rfl
    · intro A wx hR hout hdep K hK
      have h9 : A.tmps[9]?.getD undef = .string ((⟨#[127, 69, 76, 70, 1, 2, 1, 0, 0, 0, 0, 0, 0, 0, 0, 0]⟩ : ByteArray) ++ X8) := hdep 9 (by kernel_rfl)
      have h10 : A.tmps[10]?.getD undef = .string X10 := hdep 10 (by kernel_rfl)
      refine if_yes (by kernel_rfl) ?_
      simp [go_sem, h9, h10, eL, eLw, z8, z10, z15, z17, z24, z26]
      exact hK.out _ _ (Below.refl _ _) rfl
    · intro A wx hR hout hdep K hK
      have h1 : A.tmps[1]?.getD undef = .pointer (some ⟨w.heap.size, 0, none⟩) := hout 1 (by kernel_rfl)
      refine if_yes (by kernel_rfl) ?_
      simp [go_sem, h1, eL, eLw, z8, z10, z15, z17, z24, z26]
      exact hK.out _ _ (Below.refl _ _) rfl
    · intro A wx hR hout hdep K hK
      have h12 : A.tmps[12]?.getD undef = .pointer (some ⟨w.heap.size, 1, none⟩) := hdep 12 (by kernel_rfl)
      refine if_yes (by kernel_rfl) ?_
      have q1 := keep_cell hR q1
      have q2 := keep_cell hR q2
      simp [go_sem, h12, q1, q2, eL, eLw, z8, z10, z15, z17, z24, z26]
      exact hK.out _ _ (Below.refl _ _) rfl
    · intro A wx hR hout hdep K hK
      have h13 : A.tmps[13]?.getD undef = .int .u32 (EN : Int) := hdep 13 (by kernel_rfl)
      refine if_yes (by kernel_rfl) ?_
      simp [go_sem, h13, eL, eLw, z8, z10, z15, z17, z24, z26]
      exact hK.out _ _ ((Below.refl _ _).alloc (Nat.le_refl _) _) (SlU.new wx [EN] _ rfl _ rfl (by simp))
    · intro A wx hR hout hdep K hK
      have h14 := hdep 14 (by kernel_rfl)
      refine if_yes (by kernel_rfl) ?_
      simp [go_sem, eL, eLw, z8, z10, z15, z17, z24, z26]
      refine (K15.out _ wx h14).mono ?_
      rintro e wG ⟨rfl, hbG⟩
      exact hK.out _ _ hbG rfl
    · intro A wx hR hout hdep K hK
      have h11 : A.tmps[11]?.getD undef = .string ((⟨#[127, 69, 76, 70, 1, 2, 1, 0, 0, 0, 0, 0, 0, 0, 0, 0]⟩ : ByteArray) ++ X8 ++ X10) := hdep 11 (by kernel_rfl)
      have h15 : A.tmps[15]?.getD undef = .string X15 := hdep 15 (by kernel_rfl)
      refine if_yes (by kernel_rfl) ?_
      simp [go_sem, h11, h15, eL, eLw, z8, z10, z15, z17, z24, z26]
      exact hK.out _ _ (Below.refl _ _) rfl
    · intro A wx hR hout hdep K hK
      refine if_yes (by kernel_rfl) ?_
      simp [go_sem, eL, eLw, z8, z10, z15, z17, z24, z26]
      refine (K17.out wx).mono ?_
      rintro e wG ⟨rfl, hbG⟩
      exact hK.out _ _ hbG rfl
    · intro A wx hR hout hdep K hK
      have h16 : A.tmps[16]?.getD undef = .string ((⟨#[127, 69, 76, 70, 1, 2, 1, 0, 0, 0, 0, 0, 0, 0, 0, 0]⟩ : ByteArray) ++ X8 ++ X10 ++ X15) := hdep 16 (by kernel_rfl)
      have h17 : A.tmps[17]?.getD undef = .string X17 := hdep 17 (by kernel_rfl)
      refine if_yes (by kernel_rfl) ?_
      simp [go_sem, h16, h17, eL, eLw, z8, z10, z15, z17, z24, z26]
      exact hK.out _ _ (Below.refl _ _) rfl
    · intro A wx hR hout hdep K hK
      have h1 : A.tmps[1]?.getD undef = .pointer (some ⟨w.heap.size, 0, none⟩) := hout 1 (by kernel_rfl)
      refine if_yes (by kernel_rfl) ?_
      simp [go_sem, h1, eL, eLw, z8, z10, z15, z17, z24, z26]
      exact hK.out _ _ (Below.refl _ _) rfl
    · intro A wx hR hout hdep K hK
      have h19 : A.tmps[19]?.getD undef = .pointer (some ⟨w.heap.size, 2, none⟩) := hdep 19 (by kernel_rfl)
      refine if_yes (by kernel_rfl) ?_
      have q1 := keep_cell hR q1
      have q2 := keep_cell hR q2
      simp [go_sem, h19, q1, q2, eL, eLw, z8, z10, z15, z17, z24, z26]
      exact hK.out _ _ (Below.refl _ _) rfl
    · intro A wx hR hout hdep K hK
      have h20 : A.tmps[20]?.getD undef = .slice ao LEN cap := hdep 20 (by kernel_rfl)
      refine if_yes (by kernel_rfl) ?_
      simp [go_sem, h20, eL, eLw, z8, z10, z15, z17, z24, z26]
      exact hK.out _ _ (Below.refl _ _) rfl
    · intro A wx hR hout hdep K hK
      have h21 : A.tmps[21]?.getD undef = .int .i64 (LEN : Int) := hdep 21 (by kernel_rfl)
      refine if_yes (by kernel_rfl) ?_
      simp [go_sem, h21, eL, eLw, z8, z10, z15, z17, z24, z26]
      exact hK.out _ _ (Below.refl _ _) rfl
    · intro A wx hR hout hdep K hK
      have h22 : A.tmps[22]?.getD undef = .int .u32 (LEN : Int) := hdep 22 (by kernel_rfl)
      refine if_yes (by kernel_rfl) ?_
      simp [go_sem, h22, eL, eLw, z8, z10, z15, z17, z24, z26]
      exact hK.out _ _ ((Below.refl _ _).alloc (Nat.le_refl _) _) (SlU.new wx [LEN] _ rfl _ rfl (by simp))
    · intro A wx hR hout hdep K hK
      have h23 := hdep 23 (by kernel_rfl)
      refine if_yes (by kernel_rfl) ?_
      simp [go_sem, eL, eLw, z8, z10, z15, z17, z24, z26]
      refine (K24.out _ wx h23).mono ?_
      rintro e wG ⟨rfl, hbG⟩
      exact hK.out _ _ hbG rfl
    · intro A wx hR hout hdep K hK
      have h18 : A.tmps[18]?.getD undef = .string ((⟨#[127, 69, 76, 70, 1, 2, 1, 0, 0, 0, 0, 0, 0, 0, 0, 0]⟩ : ByteArray) ++ X8 ++ X10 ++ X15 ++ X17) := hdep 18 (by kernel_rfl)
      have h24 : A.tmps[24]?.getD undef = .string X24 := hdep 24 (by kernel_rfl)
      refine if_yes (by kernel_rfl) ?_
      simp [go_sem, h18, h24, eL, eLw, z8, z10, z15, z17, z24, z26]
      exact hK.out _ _ (Below.refl _ _) rfl
    · intro A wx hR hout hdep K hK
      refine if_yes (by kernel_rfl) ?_
      simp [go_sem, eL, eLw, z8, z10, z15, z17, z24, z26]
      refine (K26.out wx).mono ?_
      rintro e wG ⟨rfl, hbG⟩
      exact hK.out _ _ hbG rfl
    · intro A wx hR hout hdep K hK
      have h25 : A.tmps[25]?.getD undef = .string ((⟨#[127, 69, 76, 70, 1, 2, 1, 0, 0, 0, 0, 0, 0, 0, 0, 0]⟩ : ByteArray) ++ X8 ++ X10 ++ X15 ++ X17 ++ X24) := hdep 25 (by kernel_rfl)
      have h26 : A.tmps[26]?.getD undef = .string X26 := hdep 26 (by kernel_rfl)
      refine if_yes (by kernel_rfl) ?_
      simp [go_sem, h25, h26, eL, eLw, z8, z10, z15, z17, z24, z26]
      exact hK.out _ _ (Below.refl _ _) rfl
    · intro A wx hR hout hdep K hK
      have h27 : A.tmps[27]?.getD undef = .string ((⟨#[127, 69, 76, 70, 1, 2, 1, 0, 0, 0, 0, 0, 0, 0, 0, 0]⟩ : ByteArray) ++ X8 ++ X10 ++ X15 ++ X17 ++ X24 ++ X26) := hdep 27 (by kernel_rfl)
      refine if_yes (by kernel_rfl) ?_
      simp [go_sem, h27, eL, eLw, z8, z10, z15, z17, z24, z26]
      exact hK.out _ _ (Below.refl _ _) rfl
    have h2 : f 2 = .string ((⟨#[127, 69, 76, 70, 1, 2, 1, 0, 0, 0, 0, 0, 0, 0, 0, 0]⟩ : ByteArray) ++ X8 ++ X10 ++ X15 ++ X17 ++ X24 ++ X26) := hf 2 (by kernel_rfl)
    simp only [putSl, Act.put, List.setIfInBounds_toArray, List.set_cons_zero, List.set_cons_succ, h2]
    go_wp2
    go_ret
    exact ⟨by rw [HE.out]; rfl, below_tr HB.out hR⟩
  | false =>
    rw [hsh] at q0 hW hKD
    have hKD : (2 : Int) = (KD : Int) := by rw [hKD]; rfl
    go_enter Tryz.func90, Tryz.ntmps90
    go_wp2
    rw [hKD]
    clear hKD q0
    refine wp_region_slots (R := Ext) [⟨6, fun v _ => v = .int .u32 (KD : Int), fun _ _ _ _ h => h⟩, ⟨7, fun v w => SlU w v [KD], fun _ _ _ h k => k.keep h⟩, ⟨8, fun v _ => v = .string X8, fun _ _ _ _ h => h⟩, ⟨9, fun v _ => v = .string ((⟨#[127, 69, 76, 70, 1, 2, 1, 0, 0, 0, 0, 0, 0, 0, 0, 0]⟩ : ByteArray) ++ X8), fun _ _ _ _ h => h⟩, ⟨10, fun v _ => v = .string X10, fun _ _ _ _ h => h⟩, ⟨11, fun v _ => v = .string ((⟨#[127, 69, 76, 70, 1, 2, 1, 0, 0, 0, 0, 0, 0, 0, 0, 0]⟩ : ByteArray) ++ X8 ++ X10), fun _ _ _ _ h => h⟩, ⟨12, fun v _ => v = .pointer (some ⟨w.heap.size, 1, none⟩), fun _ _ _ _ h => h⟩, ⟨13, fun v _ => v = .int .u32 (EN : Int), fun _ _ _ _ h => h⟩, ⟨14, fun v w => SlU w v [EN], fun _ _ _ h k => k.keep h⟩, ⟨15, fun v _ => v = .string X15, fun _ _ _ _ h => h⟩, ⟨16, fun v _ => v = .string ((⟨#[127, 69, 76, 70, 1, 2, 1, 0, 0, 0, 0, 0, 0, 0, 0, 0]⟩ : ByteArray) ++ X8 ++ X10 ++ X15), fun _ _ _ _ h => h⟩, ⟨17, fun v _ => v = .string X17, fun _ _ _ _ h => h⟩, ⟨18, fun v _ => v = .string ((⟨#[127, 69, 76, 70, 1, 2, 1, 0, 0, 0, 0, 0, 0, 0, 0, 0]⟩ : ByteArray) ++ X8 ++ X10 ++ X15 ++ X17), fun _ _ _ _ h => h⟩, ⟨19, fun v _ => v = .pointer (some ⟨w.heap.size, 2, none⟩), fun _ _ _ _ h => h⟩, ⟨20, fun v _ => v = .slice ao LEN cap, fun _ _ _ _ h => h⟩, ⟨21, fun v _ => v = .int .i64 (LEN : Int), fun _ _ _ _ h => h⟩, ⟨22, fun v _ => v = .int .u32 (LEN : Int), fun _ _ _ _ h => h⟩, ⟨23, fun v w => SlU w v [LEN], fun _ _ _ h k => k.keep h⟩, ⟨24, fun v _ => v = .string X24, fun _ _ _ _ h => h⟩, ⟨25, fun v _ => v = .string ((⟨#[127, 69, 76, 70, 1, 2, 1, 0, 0, 0, 0, 0, 0, 0, 0, 0]⟩ : ByteArray) ++ X8 ++ X10 ++ X15 ++ X17 ++ X24), fun _ _ _ _ h => h⟩, ⟨26, fun v _ => v = .string X26, fun _ _ _ _ h => h⟩, ⟨27, fun v _ => v = .string ((⟨#[127, 69, 76, 70, 1, 2, 1, 0, 0, 0, 0, 0, 0, 0, 0, 0]⟩ : ByteArray) ++ X8 ++ X10 ++ X15 ++ X17 ++ X24 ++ X26), fun _ _ _ _ h => h⟩, ⟨2, fun v _ => v = .string ((⟨#[127, 69, 76, 70, 1, 2, 1, 0, 0, 0, 0, 0, 0, 0, 0, 0]⟩ : ByteArray) ++ X8 ++ X10 ++ X15 ++ X17 ++ X24 ++ X26), fun _ _ _ _ h => h⟩] _ (by kernel_rfl) rfl (by kernel_rfl) (Below.drew (Below.refl _ _)) (fun _ _ _ h1 h2 => below_tr h1 h2) (fun QQ => ⟨?_, ?_, ?_, ?_, ?_, ?_, ?_, ?_, ?_, ?_, ?_, ?_, ?_, ?_, ?_, ?_, ?_, ?_, ?_, ?_, ?_, ?_, ?_, trivial⟩) (fun f wy hR hf => ?_)
    · intro A wx hR hout hdep K hK
      have h3 : A.tmps[3]?.getD undef = .int .u32 (KD : Int) := hout 3 (by kernel_rfl)
      refine if_yes (by kernel_rfl) ?_
      simp [go_sem, h3, eL, eLw, z8, z10, z15, z17, z24, z26]
      exact hK.out _ _ (Below.refl _ _) rfl
    · intro A wx hR hout hdep K hK
      have h6 : A.tmps[6]?.getD undef = .int .u32 (KD : Int) := hdep 6 (by kernel_rfl)
      refine if_yes (by kernel_rfl) ?_
      simp [go_sem, h6, eL, eLw, z8, z10, z15, z17, z24, z26]
      exact hK.out _ _ ((Below.refl _ _).alloc (Nat.le_refl _) _) (SlU.new wx [KD] _ rfl _ rfl (by simp))
    · intro A wx hR hout hdep K hK
      have h7 := hdep 7 (by kernel_rfl)
      refine if_yes (by kernel_rfl) ?_
      simp [go_sem, eL, eLw, z8, z10, z15, z17, z24, z26]
      refine (K8.out _ wx h7).mono ?_
      rintro e wG ⟨rfl, hbG⟩
      exact hK.out _ _ hbG rfl
    · intro A wx hR hout hdep K hK
      have h8 : A.tmps[8]?.getD undef = .string X8 := hdep 8 (by kernel_rfl)
      refine if_yes (by kernel_rfl) ?_
      simp [go_sem, h8, eL, eLw, z8, z10, z15, z17, z24, z26]
      exact hK.out _ _ (Below.refl _ _) rfl
    · intro A wx hR hout hdep K hK
      refine if_yes (by kernel_rfl) ?_
      simp [go_sem, eL, eLw, z8, z10, z15, z17, z24, z26]
      refine (K10.out wx).mono ?_
      rintro e wG ⟨rfl, hbG⟩
      exact hK.out _ _ hbG rfl
    · intro A wx hR hout hdep K hK
      have h9 : A.tmps[9]?.getD undef = .string ((⟨#[127, 69, 76, 70, 1, 2, 1, 0, 0, 0, 0, 0, 0, 0, 0, 0]⟩ : ByteArray) ++ X8) := hdep 9 (by kernel_rfl)
      have h10 : A.tmps[10]?.getD undef = .string X10 := hdep 10 (by kernel_rfl)
      refine if_yes (by kernel_rfl) ?_
      simp [go_sem, h9, h10, eL, eLw, z8, z10, z15, z17, z24, z26]
      exact hK.out _ _ (Below.refl _ _) rfl
    · intro A wx hR hout hdep K hK
      have h1 : A.tmps[1]?.getD undef = .pointer (some ⟨w.heap.size, 0, none⟩) := hout 1 (by kernel_rfl)
      refine if_yes (by kernel_rfl) ?_
      simp [go_sem, h1, eL, eLw, z8, z10, z15, z17, z24, z26]
      exact hK.out _ _ (Below.refl _ _) rfl
    · intro A wx hR hout hdep K hK
      have h12 : A.tmps[12]?.getD undef = .pointer (some ⟨w.heap.size, 1, none⟩) := hdep 12 (by kernel_rfl)
      refine if_yes (by kernel_rfl) ?_
      have q1 := keep_cell hR q1
      have q2 := keep_cell hR q2
      simp [go_sem, h12, q1, q2, eL, eLw, z8, z10, z15, z17, z24, z26]
      exact hK.out _ _ (Below.refl _ _) rfl
    · intro A wx hR hout hdep K hK
      have h13 : A.tmps[13]?.getD undef = .int .u32 (EN : Int) := hdep 13 (by kernel_rfl)
      refine if_yes (by kernel_rfl) ?_
      simp [go_sem, h13, eL, eLw, z8, z10, z15, z17, z24, z26]
      exact hK.out _ _ ((Below.refl _ _).alloc (Nat.le_refl _) _) (SlU.new wx [EN] _ rfl _ rfl (by simp))
    · intro A wx hR hout hdep K hK
      have h14 := hdep 14 (by kernel_rfl)
      refine if_yes (by kernel_rfl) ?_
      simp [go_sem, eL, eLw, z8, z10, z15, z17, z24, z26]
      refine (K15.out _ wx h14).mono ?_
      rintro e wG ⟨rfl, hbG⟩
      exact hK.out _ _ hbG rfl
    · intro A wx hR hout hdep K hK
      have h11 : A.tmps[11]?.getD undef = .string ((⟨#[127, 69, 76, 70, 1, 2, 1, 0, 0, 0, 0, 0, 0, 0, 0, 0]⟩ : ByteArray) ++ X8 ++ X10) := hdep 11 (by kernel_rfl)
      have h15 : A.tmps[15]?.getD undef = .string X15 := hdep 15 (by kernel_rfl)
      refine if_yes (by kernel_rfl) ?_
      simp [go_sem, h11, h15, eL, eLw, z8, z10, z15, z17, z24, z26]
      exact hK.out _ _ (Below.refl _ _) rfl
    · intro A wx hR hout hdep K hK
      refine if_yes (by kernel_rfl) ?_
      simp [go_sem, eL, eLw, z8, z10, z15, z17, z24, z26]
      refine (K17.out wx).mono ?_
      rintro e wG ⟨rfl, hbG⟩
      exact hK.out _ _ hbG rfl
    · intro A wx hR hout hdep K hK
      have h16 : A.tmps[16]?.getD undef = .string ((⟨#[127, 69, 76, 70, 1, 2, 1, 0, 0, 0, 0, 0, 0, 0, 0, 0]⟩ : ByteArray) ++ X8 ++ X10 ++ X15) := hdep 16 (by kernel_rfl)
      have h17 : A.tmps[17]?.getD undef = .string X17 := hdep 17 (by kernel_rfl)
      refine if_yes (by kernel_rfl) ?_
      simp [go_sem, h16, h17, eL, eLw, z8, z10, z15, z17, z24, z26]
      exact hK.out _ _ (Below.refl _ _) rfl
    · intro A wx hR hout hdep K hK
      have h1 : A.tmps[1]?.getD undef = .pointer (some ⟨w.heap.size, 0, none⟩) := hout 1 (by kernel_rfl)
      refine if_yes (by kernel_rfl) ?_
      simp [go_sem, h1, eL, eLw, z8, z10, z15, z17, z24, z26]
      exact hK.out _ _ (Below.refl _ _) rfl
    · intro A wx hR hout hdep K hK
      have h19 : A.tmps[19]?.getD undef = .pointer (some ⟨w.heap.size, 2, none⟩) := hdep 19 (by kernel_rfl)
      refine if_yes (by kernel_rfl) ?_
      have q1 := keep_cell hR q1
      have q2 := keep_cell hR q2
      simp [go_sem, h19, q1, q2, eL, eLw, z8, z10, z15, z17, z24, z26]
      exact hK.out _ _ (Below.refl _ _) rfl
    · intro A wx hR hout hdep K hK
      have h20 : A.tmps[20]?.getD undef = .slice ao LEN cap := hdep 20 (by kernel_rfl)
      refine if_yes (by kernel_rfl) ?_
      simp [go_sem, h20, eL, eLw, z8, z10, z15, z17, z24, z26]
      exact hK.out _ _ (Below.refl _ _) rfl
    · intro A wx hR hout hdep K hK
      have h21 : A.tmps[21]?.getD undef = .int .i64 (LEN : Int) := hdep 21 (by kernel_rfl)
      refine if_yes (by kernel_rfl) ?_
      simp [go_sem, h21, eL, eLw, z8, z10, z15, z17, z24, z26]
      exact hK.out _ _ (Below.refl _ _) rfl
    · intro A wx hR hout hdep K hK
      have h22 : A.tmps[22]?.getD undef = .int .u32 (LEN : Int) := hdep 22 (by kernel_rfl)
      refine if_yes (by kernel_rfl) ?_
      simp [go_sem, h22, eL, eLw, z8, z10, z15, z17, z24, z26]
      exact hK.out _ _ ((Below.refl _ _).alloc (Nat.le_refl _) _) (SlU.new wx [LEN] _ rfl _ rfl (by simp))
    · intro A wx hR hout hdep K hK
      have h23 := hdep 23 (by kernel_rfl)
      refine if_yes (by kernel_rfl) ?_
      simp [go_sem, eL, eLw, z8, z10, z15, z17, z24, z26]
      refine (K24.out _ wx h23).mono ?_
      rintro e wG ⟨rfl, hbG⟩
      exact hK.out _ _ hbG rfl
    · intro A wx hR hout hdep K hK
      have h18 : A.tmps[18]?.getD undef = .string ((⟨#[127, 69, 76, 70, 1, 2, 1, 0, 0, 0, 0, 0, 0, 0, 0, 0]⟩ : ByteArray) ++ X8 ++ X10 ++ X15 ++ X17) := hdep 18 (by kernel_rfl)
      have h24 : A.tmps[24]?.getD undef = .string X24 := hdep 24 (by kernel_rfl)
      refine if_yes (by kernel_rfl) ?_
      simp [go_sem, h18, h24, eL, eLw, z8, z10, z15, z17, z24, z26]
      exact hK.out _ _ (Below.refl _ _) rfl
    · intro A wx hR hout hdep K hK
      refine if_yes (by kernel_rfl) ?_
      simp [go_sem, eL, eLw, z8, z10, z15, z17, z24, z26]
      refine (K26.out wx).mono ?_
      rintro e wG ⟨rfl, hbG⟩
      exact hK.out _ _ hbG rfl
    · intro A wx hR hout hdep K hK
      have h25 : A.tmps[25]?.getD undef = .string ((⟨#[127, 69, 76, 70, 1, 2, 1, 0, 0, 0, 0, 0, 0, 0, 0, 0]⟩ : ByteArray) ++ X8 ++ X10 ++ X15 ++ X17 ++ X24) := hdep 25 (by kernel_rfl)
      have h26 : A.tmps[26]?.getD undef = .string X26 := hdep 26 (by kernel_rfl)
      refine if_yes (by kernel_rfl) ?_
      simp [go_sem, h25, h26, eL, eLw, z8, z10, z15, z17, z24, z26]
      exact hK.out _ _ (Below.refl _ _) rfl
    · intro A wx hR hout hdep K hK
      have h27 : A.tmps[27]?.getD undef = .string ((⟨#[127, 69, 76, 70, 1, 2, 1, 0, 0, 0, 0, 0, 0, 0, 0, 0]⟩ : ByteArray) ++ X8 ++ X10 ++ X15 ++ X17 ++ X24 ++ X26) := hdep 27 (by kernel_rfl)
      refine if_yes (by kernel_rfl) ?_
      simp [go_sem, h27, eL, eLw, z8, z10, z15, z17, z24, z26]
      exact hK.out _ _ (Below.refl _ _) rfl
    have h2 : f 2 = .string ((⟨#[127, 69, 76, 70, 1, 2, 1, 0, 0, 0, 0, 0, 0, 0, 0, 0]⟩ : ByteArray) ++ X8 ++ X10 ++ X15 ++ X17 ++ X24 ++ X26) := hf 2 (by kernel_rfl)
    simp only [putSl, Act.put, List.setIfInBounds_toArray, List.set_cons_zero, List.set_cons_succ, h2]
    go_wp2
    go_ret
    exact ⟨by rw [HE.out]; rfl, below_tr HB.out hR⟩
end Go.Proofs.YtgdflobcbhnimaaGreat.E
namespace Go.Proofs.YtgdflobcbhnimaaGreat.E
open Go.RowKit
set_option linter.unusedVariables false
set_option linter.unusedSimpArgs false
set_option maxRecDepth 100000
theorem seg_flat (g : Sg) : [(g.kind % 4294967296).toNat, g.off, g.at_, g.at_, g.size, g.room, protN (g.prot % 4294967296).toNat, g.align].flatMap (bN 4) = segB g := by
  simp [segB]
set_option maxHeartbeats 1000000 in
theorem segments29 (gs : List Sg) (v : Value) (w : World) (hs : SlG w v gs) (hb : ∀ g ∈ gs, g.Bd) (hn : gs.length ≤ 1000) :
    Calls Tryz.prog 91 #[v] w fun r w' => r = .returned (.string ⟨(gs.flatMap segB).toArray⟩) ∧ Below w.heap.size w w' := by
  obtain ⟨ao, cap, rfl, s1, s2, s3, s4⟩ := hs
  have HS : Hid (∀ i (h : i < gs.length), ∃ b o, ao = some ⟨b, o, none⟩ ∧ At7 w b (o + i * 7) gs[i]) := s4
  have HBD : Hid (∀ g ∈ gs, g.Bd) := hb
  clear s3 s4 hb
  obtain ⟨W0, hW0⟩ : ∃ W0, w.alloc (.cells #[.pointer none, .slice none 0 0] 63) = W0 := ⟨_, rfl⟩
  have HI : Hid (IsB w.heap.size w.heap.size [] W0 ∧ Below w.heap.size w W0 ∧ w.heap.size ≤ W0.heap.size) := by
    refine ⟨?_, ?_, ?_⟩
    · rw [← hW0]
      exact Or.inl ⟨Nat.le_refl _, _, World.alloc_heap_new w _, ⟨rfl, Or.inl ⟨rfl, rfl⟩⟩, by simp [Value.ownBlock]⟩
    · rw [← hW0]; exact (Below.refl _ _).alloc (Nat.le_refl _) _
    · rw [← hW0]; simp
  go_enter Tryz.func91, Tryz.ntmps91
  go_wp2
  go_loopw [8] (fun x wr => ∃ k : Nat, x = .int .i64 (k : Int) ∧ k ≤ gs.length ∧ IsB w.heap.size w.heap.size ((gs.take k).flatMap segB) wr ∧ Below w.heap.size w wr) (fun x _ => gs.length - (intOf x).toNat)
  case atStart => exact ⟨0, rfl, Nat.zero_le _, HI.out.1, HI.out.2.1⟩
  case round =>
    obtain ⟨k, rfl, hk, hI, hbr⟩ := hrel
    by_cases hlt : k < gs.length
    · obtain ⟨b, o, rfl, h7⟩ := HS.out k hlt
      have h7 := h7.keep hbr
      obtain ⟨g, hg⟩ : ∃ g, g = gs[k] := ⟨_, rfl⟩
      have HT : Hid ((gs.take (k + 1)).flatMap segB = (gs.take k).flatMap segB ++ segB g) := by
        show _ = _
        rw [List.take_succ_eq_append_getElem hlt, List.flatMap_append, hg]
        simp
      rw [← hg] at h7
      have hbd := HBD.out g (by rw [hg]; exact List.getElem_mem hlt)
      obtain ⟨r0, r1, r2, r3, r4, r5, r6⟩ := h7
      obtain ⟨KK, hKK⟩ : ∃ K, K = (g.kind % 4294967296).toNat := ⟨_, rfl⟩
      obtain ⟨PP, hPP⟩ : ∃ K, K = (g.prot % 4294967296).toNat := ⟨_, rfl⟩
      obtain ⟨FL, hFL⟩ : ∃ K, K = protN PP := ⟨_, rfl⟩
      have eK2 : g.kind % 4294967296 = (KK : Int) := by omega
      have eP2 : g.prot % 4294967296 = (PP : Int) := by omega
      have hF7 := protN_le PP
      have eF2 : (FL : Int) % 4294967296 = (FL : Int) := by omega
      have eK : IntKind.u32.wrap g.kind = (KK : Int) := by rw [IntKind.wrap_u32]; exact eK2
      have eP : IntKind.u32.wrap g.prot = (PP : Int) := by rw [IntKind.wrap_u32]; exact eP2
      have eF : IntKind.u32.wrap (FL : Int) = (FL : Int) := by rw [IntKind.wrap_u32]; exact eF2
      have K11 : Hid (∀ w', Calls Tryz.prog 115 #[.int .u32 (PP : Int)] w' fun e w'' => e = .returned (.int .i64 (FL : Int)) ∧ w'' = w') := fun w' => by rw [hFL]; exact prots11 PP (by omega) w'
      have K43 : Hid (∀ v w', SlU w' v [KK, g.off, g.at_, g.at_, g.size, g.room, FL, g.align] → Calls Tryz.prog 112 #[v] w' fun e w'' => e = .returned (.string ⟨(segB g).toArray⟩) ∧ Below w'.heap.size w' w'') := fun v w' h => by
        have b1 := hbd.o; have b2 := hbd.a; have b3 := hbd.s; have b4 := hbd.r; have b5 := hbd.l
        have := words43 [KK, g.off, g.at_, g.at_, g.size, g.room, FL, g.align] (by simp) v w' (by intro x hx; simp at hx; omega) h
        rw [hFL, hPP, hKK, seg_flat] at this
        exact this
      have HII : Hid (IsB w.heap.size w.heap.size ((gs.take k).flatMap segB) wr ∧ Below w.heap.size w wr) := ⟨hI, hbr⟩
      clear hg hKK hPP hFL hF7 hbd hI hbr
      obtain ⟨W1, hW1, hb1, hz1, q0, q1, q2, q3, q4, q5, q6⟩ := box7 wr g
      go_wp2
      refine wp_region_cut (R := Ext) [⟨12, fun v _ => v = .pointer (some ⟨wr.heap.size, 0, none⟩), fun _ _ _ _ h => h⟩, ⟨13, fun v _ => v = .int .i64 g.kind, fun _ _ _ _ h => h⟩, ⟨14, fun v _ => v = .int .u32 (KK : Int), fun _ _ _ _ h => h⟩, ⟨15, fun v _ => v = .pointer (some ⟨wr.heap.size, 1, none⟩), fun _ _ _ _ h => h⟩, ⟨16, fun v _ => v = .int .u32 (g.off : Int), fun _ _ _ _ h => h⟩, ⟨17, fun v _ => v = .pointer (some ⟨wr.heap.size, 2, none⟩), fun _ _ _ _ h => h⟩, ⟨18, fun v _ => v = .int .u32 (g.at_ : Int), fun _ _ _ _ h => h⟩, ⟨19, fun v _ => v = .pointer (some ⟨wr.heap.size, 2, none⟩), fun _ _ _ _ h => h⟩, ⟨20, fun v _ => v = .int .u32 (g.at_ : Int), fun _ _ _ _ h => h⟩, ⟨21, fun v _ => v = .pointer (some ⟨wr.heap.size, 3, none⟩), fun _ _ _ _ h => h⟩, ⟨22, fun v _ => v = .int .u32 (g.size : Int), fun _ _ _ _ h => h⟩, ⟨23, fun v _ => v = .pointer (some ⟨wr.heap.size, 4, none⟩), fun _ _ _ _ h => h⟩, ⟨24, fun v _ => v = .int .u32 (g.room : Int), fun _ _ _ _ h => h⟩, ⟨25, fun v _ => v = .pointer (some ⟨wr.heap.size, 5, none⟩), fun _ _ _ _ h => h⟩, ⟨26, fun v _ => v = .int .i64 g.prot, fun _ _ _ _ h => h⟩, ⟨27, fun v _ => v = .int .u32 (PP : Int), fun _ _ _ _ h => h⟩, ⟨28, fun v _ => v = .int .i64 (FL : Int), fun _ _ _ _ h => h⟩, ⟨29, fun v _ => v = .int .u32 (FL : Int), fun _ _ _ _ h => h⟩, ⟨30, fun v _ => v = .pointer (some ⟨wr.heap.size, 6, none⟩), fun _ _ _ _ h => h⟩, ⟨31, fun v _ => v = .int .u32 (g.align : Int), fun _ _ _ _ h => h⟩, ⟨32, fun v w => SlU w v [KK, g.off, g.at_, g.at_, g.size, g.room, FL, g.align], fun _ _ _ h k => k.keep h⟩] _ 21 (by kernel_rfl) rfl (by kernel_rfl) (by decide) (by kernel_rfl) (Below.drew (Below.refl _ _)) (fun _ _ _ h1 h2 => below_tr h1 h2) (fun QQ => ⟨?_, ?_, ?_, ?_, ?_, ?_, ?_, ?_, ?_, ?_, ?_, ?_, ?_, ?_, ?_, ?_, ?_, ?_, ?_, ?_, ?_, trivial⟩) (fun f wy hR hf A hA => ?_)
      · intro A wx hR hout hdep K hK
        have h5 : A.tmps[5]?.getD undef = .pointer (some ⟨wr.heap.size, 0, none⟩) := hout 5 (by kernel_rfl)
        refine if_yes (by kernel_rfl) ?_
        simp [go_sem, h5, eK, eP, eF, eK2, eP2, eF2]
        exact hK.out _ _ (Below.refl _ _) rfl
      · intro A wx hR hout hdep K hK
        have h12 : A.tmps[12]?.getD undef = .pointer (some ⟨wr.heap.size, 0, none⟩) := hdep 12 (by kernel_rfl)
        refine if_yes (by kernel_rfl) ?_
        have q0 := keep_cell hR q0
        have q1 := keep_cell hR q1
        have q2 := keep_cell hR q2
        have q3 := keep_cell hR q3
        have q4 := keep_cell hR q4
        have q5 := keep_cell hR q5
        have q6 := keep_cell hR q6
        simp [go_sem, h12, q0, q1, q2, q3, q4, q5, q6, eK, eP, eF, eK2, eP2, eF2]
        exact hK.out _ _ (Below.refl _ _) rfl
      · intro A wx hR hout hdep K hK
        have h13 : A.tmps[13]?.getD undef = .int .i64 g.kind := hdep 13 (by kernel_rfl)
        refine if_yes (by kernel_rfl) ?_
        simp [go_sem, h13, eK, eP, eF, eK2, eP2, eF2]
        exact hK.out _ _ (Below.refl _ _) rfl
      · intro A wx hR hout hdep K hK
        have h5 : A.tmps[5]?.getD undef = .pointer (some ⟨wr.heap.size, 0, none⟩) := hout 5 (by kernel_rfl)
        refine if_yes (by kernel_rfl) ?_
        simp [go_sem, h5, eK, eP, eF, eK2, eP2, eF2]
        exact hK.out _ _ (Below.refl _ _) rfl
      · intro A wx hR hout hdep K hK
        have h15 : A.tmps[15]?.getD undef = .pointer (some ⟨wr.heap.size, 1, none⟩) := hdep 15 (by kernel_rfl)
        refine if_yes (by kernel_rfl) ?_
        have q0 := keep_cell hR q0
        have q1 := keep_cell hR q1
        have q2 := keep_cell hR q2
        have q3 := keep_cell hR q3
        have q4 := keep_cell hR q4
        have q5 := keep_cell hR q5
        have q6 := keep_cell hR q6
        simp [go_sem, h15, q0, q1, q2, q3, q4, q5, q6, eK, eP, eF, eK2, eP2, eF2]
        exact hK.out _ _ (Below.refl _ _) rfl
      · intro A wx hR hout hdep K hK
        have h5 : A.tmps[5]?.getD undef = .pointer (some ⟨wr.heap.size, 0, none⟩) := hout 5 (by kernel_rfl)
        refine if_yes (by kernel_rfl) ?_
        simp [go_sem, h5, eK, eP, eF, eK2, eP2, eF2]
        exact hK.out _ _ (Below.refl _ _) rfl
      · intro A wx hR hout hdep K hK
        have h17 : A.tmps[17]?.getD undef = .pointer (some ⟨wr.heap.size, 2, none⟩) := hdep 17 (by kernel_rfl)
        refine if_yes (by kernel_rfl) ?_
        have q0 := keep_cell hR q0
        have q1 := keep_cell hR q1
        have q2 := keep_cell hR q2
        have q3 := keep_cell hR q3
        have q4 := keep_cell hR q4
        have q5 := keep_cell hR q5
        have q6 := keep_cell hR q6
        simp [go_sem, h17, q0, q1, q2, q3, q4, q5, q6, eK, eP, eF, eK2, eP2, eF2]
        exact hK.out _ _ (Below.refl _ _) rfl
      · intro A wx hR hout hdep K hK
        have h5 : A.tmps[5]?.getD undef = .pointer (some ⟨wr.heap.size, 0, none⟩) := hout 5 (by kernel_rfl)
        refine if_yes (by kernel_rfl) ?_
        simp [go_sem, h5, eK, eP, eF, eK2, eP2, eF2]
        exact hK.out _ _ (Below.refl _ _) rfl
      · intro A wx hR hout hdep K hK
        have h19 : A.tmps[19]?.getD undef = .pointer (some ⟨wr.heap.size, 2, none⟩) := hdep 19 (by kernel_rfl)
        refine if_yes (by kernel_rfl) ?_
        have q0 := keep_cell hR q0
        have q1 := keep_cell hR q1
        have q2 := keep_cell hR q2
        have q3 := keep_cell hR q3
        have q4 := keep_cell hR q4
        have q5 := keep_cell hR q5
        have q6 := keep_cell hR q6
        simp [go_sem, h19, q0, q1, q2, q3, q4, q5, q6, eK, eP, eF, eK2, eP2, eF2]
        exact hK.out _ _ (Below.refl _ _) rfl
      · intro A wx hR hout hdep K hK
        have h5 : A.tmps[5]?.getD undef = .pointer (some ⟨wr.heap.size, 0, none⟩) := hout 5 (by kernel_rfl)
        refine if_yes (by kernel_rfl) ?_
        simp [go_sem, h5, eK, eP, eF, eK2, eP2, eF2]
        exact hK.out _ _ (Below.refl _ _) rfl
      · intro A wx hR hout hdep K hK
        have h21 : A.tmps[21]?.getD undef = .pointer (some ⟨wr.heap.size, 3, none⟩) := hdep 21 (by kernel_rfl)
        refine if_yes (by kernel_rfl) ?_
        have q0 := keep_cell hR q0
        have q1 := keep_cell hR q1
        have q2 := keep_cell hR q2
        have q3 := keep_cell hR q3
        have q4 := keep_cell hR q4
        have q5 := keep_cell hR q5
        have q6 := keep_cell hR q6
        simp [go_sem, h21, q0, q1, q2, q3, q4, q5, q6, eK, eP, eF, eK2, eP2, eF2]
        exact hK.out _ _ (Below.refl _ _) rfl
      · intro A wx hR hout hdep K hK
        have h5 : A.tmps[5]?.getD undef = .pointer (some ⟨wr.heap.size, 0, none⟩) := hout 5 (by kernel_rfl)
        refine if_yes (by kernel_rfl) ?_
        simp [go_sem, h5, eK, eP, eF, eK2, eP2, eF2]
        exact hK.out _ _ (Below.refl _ _) rfl
      · intro A wx hR hout hdep K hK
        have h23 : A.tmps[23]?.getD undef = .pointer (some ⟨wr.heap.size, 4, none⟩) := hdep 23 (by kernel_rfl)
        refine if_yes (by kernel_rfl) ?_
        have q0 := keep_cell hR q0
        have q1 := keep_cell hR q1
        have q2 := keep_cell hR q2
        have q3 := keep_cell hR q3
        have q4 := keep_cell hR q4
        have q5 := keep_cell hR q5
        have q6 := keep_cell hR q6
        simp [go_sem, h23, q0, q1, q2, q3, q4, q5, q6, eK, eP, eF, eK2, eP2, eF2]
        exact hK.out _ _ (Below.refl _ _) rfl
      · intro A wx hR hout hdep K hK
        have h5 : A.tmps[5]?.getD undef = .pointer (some ⟨wr.heap.size, 0, none⟩) := hout 5 (by kernel_rfl)
        refine if_yes (by kernel_rfl) ?_
        simp [go_sem, h5, eK, eP, eF, eK2, eP2, eF2]
        exact hK.out _ _ (Below.refl _ _) rfl
      · intro A wx hR hout hdep K hK
        have h25 : A.tmps[25]?.getD undef = .pointer (some ⟨wr.heap.size, 5, none⟩) := hdep 25 (by kernel_rfl)
        refine if_yes (by kernel_rfl) ?_
        have q0 := keep_cell hR q0
        have q1 := keep_cell hR q1
        have q2 := keep_cell hR q2
        have q3 := keep_cell hR q3
        have q4 := keep_cell hR q4
        have q5 := keep_cell hR q5
        have q6 := keep_cell hR q6
        simp [go_sem, h25, q0, q1, q2, q3, q4, q5, q6, eK, eP, eF, eK2, eP2, eF2]
        exact hK.out _ _ (Below.refl _ _) rfl
      · intro A wx hR hout hdep K hK
        have h26 : A.tmps[26]?.getD undef = .int .i64 g.prot := hdep 26 (by kernel_rfl)
        refine if_yes (by kernel_rfl) ?_
        simp [go_sem, h26, eK, eP, eF, eK2, eP2, eF2]
        exact hK.out _ _ (Below.refl _ _) rfl
      · intro A wx hR hout hdep K hK
        have h27 : A.tmps[27]?.getD undef = .int .u32 (PP : Int) := hdep 27 (by kernel_rfl)
        refine if_yes (by kernel_rfl) ?_
        simp [go_sem, h27, eK, eP, eF, eK2, eP2, eF2]
        refine (K11.out wx).mono ?_
        rintro e wG ⟨rfl, rfl⟩
        exact hK.out _ _ (Below.refl _ _) rfl
      · intro A wx hR hout hdep K hK
        have h28 : A.tmps[28]?.getD undef = .int .i64 (FL : Int) := hdep 28 (by kernel_rfl)
        refine if_yes (by kernel_rfl) ?_
        simp [go_sem, h28, eK, eP, eF, eK2, eP2, eF2]
        exact hK.out _ _ (Below.refl _ _) rfl
      · intro A wx hR hout hdep K hK
        have h5 : A.tmps[5]?.getD undef = .pointer (some ⟨wr.heap.size, 0, none⟩) := hout 5 (by kernel_rfl)
        refine if_yes (by kernel_rfl) ?_
        simp [go_sem, h5, eK, eP, eF, eK2, eP2, eF2]
        exact hK.out _ _ (Below.refl _ _) rfl
      · intro A wx hR hout hdep K hK
        have h30 : A.tmps[30]?.getD undef = .pointer (some ⟨wr.heap.size, 6, none⟩) := hdep 30 (by kernel_rfl)
        refine if_yes (by kernel_rfl) ?_
        have q0 := keep_cell hR q0
        have q1 := keep_cell hR q1
        have q2 := keep_cell hR q2
        have q3 := keep_cell hR q3
        have q4 := keep_cell hR q4
        have q5 := keep_cell hR q5
        have q6 := keep_cell hR q6
        simp [go_sem, h30, q0, q1, q2, q3, q4, q5, q6, eK, eP, eF, eK2, eP2, eF2]
        exact hK.out _ _ (Below.refl _ _) rfl
      · intro A wx hR hout hdep K hK
        have h14 : A.tmps[14]?.getD undef = .int .u32 (KK : Int) := hdep 14 (by kernel_rfl)
        have h16 : A.tmps[16]?.getD undef = .int .u32 (g.off : Int) := hdep 16 (by kernel_rfl)
        have h18 : A.tmps[18]?.getD undef = .int .u32 (g.at_ : Int) := hdep 18 (by kernel_rfl)
        have h20 : A.tmps[20]?.getD undef = .int .u32 (g.at_ : Int) := hdep 20 (by kernel_rfl)
        have h22 : A.tmps[22]?.getD undef = .int .u32 (g.size : Int) := hdep 22 (by kernel_rfl)
        have h24 : A.tmps[24]?.getD undef = .int .u32 (g.room : Int) := hdep 24 (by kernel_rfl)
        have h29 : A.tmps[29]?.getD undef = .int .u32 (FL : Int) := hdep 29 (by kernel_rfl)
        have h31 : A.tmps[31]?.getD undef = .int .u32 (g.align : Int) := hdep 31 (by kernel_rfl)
        refine if_yes (by kernel_rfl) ?_
        simp [go_sem, h14, h16, h18, h20, h22, h24, h29, h31, eK, eP, eF, eK2, eP2, eF2]
        exact hK.out _ _ ((Below.refl _ _).alloc (Nat.le_refl _) _) (SlU.new wx _ _ rfl _ rfl (by simp))
      have h32 : SlU wy (f 32) [KK, g.off, g.at_, g.at_, g.size, g.room, FL, g.align] := hf 32 (by kernel_rfl)
      simp only [putSl, List.take_succ_cons, List.take_zero, Act.put, List.setIfInBounds_toArray, List.set_cons_zero, List.set_cons_succ] at hA
      subst hA
      have HBY : Hid (Below wr.heap.size wr wy) := below_tr hb1 hR
      clear hR hb1 hz1 q0 q1 q2 q3 q4 q5 q6 r0 r1 r2 r3 r4 r5 r6 hW1 eK eP eF eK2 eP2 eF2
      refine wpAny_ready (rs := [21]) (by kernel_rfl) (by decide) (AllReady.cons rfl ?_ AllReady.nil)
      intro K5 hK5
      refine if_yes (by kernel_rfl) ?_
      simp [go_sem]
      refine (K43.out _ wy h32).mono ?_
      rintro e w3 ⟨rfl, hb3⟩
      refine hK5 _ _ ?_
      have hI3 := isB_keep HII.out.1 (below_tr HBY.out hb3)
      have hb03 : Below w.heap.size w w3 := HII.out.2.trans ((below_tr HBY.out hb3).mono HII.out.2.size)
      have KW := write41 w.heap.size w.heap.size _ ⟨(segB g).toArray⟩ w3 hI3 (by
        rw [flat_len]
        have h1 : (⟨(segB g).toArray⟩ : ByteArray).size = 32 := by show (segB g).toArray.size = 32; simp [segB_len]
        have h2 : (gs.take k).length ≤ 1000 := by simp; omega
        rw [h1]; omega) hb03.size
      rw [bal, ← HT.out] at KW
      refine wpAny_ready (rs := [22]) (by kernel_rfl) (by decide) (AllReady.cons rfl ?_ AllReady.nil)
      intro K6 hK6
      refine if_yes (by kernel_rfl) ?_
      simp [go_sem]
      refine KW.mono ?_
      rintro e w4 ⟨rfl, hI4, hb4⟩
      refine hK6 _ _ ?_
      refine wpAny_done (by kernel_rfl) ?_ _
      have HE : Hid (IsB w.heap.size w.heap.size ((gs.take (k + 1)).flatMap segB) w4 ∧ Below w.heap.size w w4) := ⟨hI4, hb03.trans hb4⟩
      clear KW hI3 hb03 hI4 hb4 hb3 h32 hf
      go_wp2
      go_roundw
      case rel => exact ⟨k + 1, by go_num, by omega, HE.out.1, HE.out.2⟩
      case measure => simp [intOf]; omega
    · have KS := string43 w.heap.size w.heap.size _ wr hI hbr.size
      rw [List.take_of_length_le (by omega)] at KS
      go_wp2_with fail
      refine KS.mono ?_
      rintro e w1 ⟨rfl, hb1⟩
      go_wp2
      go_ret
      exact ⟨rfl, hbr.trans hb1⟩
set_option maxHeartbeats 1000000 in
theorem write15 (e : Ef) (v : Value) (w : World) (hs : SlG w v e.segs) (hb : ∀ g ∈ e.segs, g.Bd) (he : e.entry < 4294967296) (hn : e.segs.length ≤ 1000) :
    Calls Tryz.prog 61 #[e.val v] w fun r w' => r = .returned (.string ⟨(wrL e).toArray⟩) ∧ Below w.heap.size w w' := by
  obtain ⟨W, hW, hbl, hz, q0, q1, q2⟩ := box3 w (.bool e.shared) (.int .u32 (e.entry : Int)) v 37
  have K13 := fit13 e v W (hs.keep hbl) hb (by omega)
  have K28 : Hid (∀ w', Below W.heap.size W w' → Calls Tryz.prog 90 #[e.val v] w' fun r w'' => r = .returned (.string ⟨(headB e).toArray⟩) ∧ Below w'.heap.size w' w'') := fun w' h => head28 e v w' ((hs.keep hbl).keep h) he (by omega)
  have K29 : Hid (∀ w', Below W.heap.size W w' → Calls Tryz.prog 91 #[v] w' fun r w'' => r = .returned (.string ⟨(e.segs.flatMap segB).toArray⟩) ∧ Below w'.heap.size w' w'') := fun w' h => segments29 e.segs v w' ((hs.keep hbl).keep h) hb hn
  have HB : Hid (Below w.heap.size w W) := hbl
  have HQ : Hid (∀ w', Below W.heap.size W w' → w'.cell? ⟨w.heap.size, 0, none⟩ = some (.bool e.shared) ∧ w'.cell? ⟨w.heap.size, 1, none⟩ = some (.int .u32 (e.entry : Int)) ∧ w'.cell? ⟨w.heap.size, 2, none⟩ = some v) := fun w' h => ⟨keep_cell h q0, keep_cell h q1, keep_cell h q2⟩
  have hwr : wrL e = if fitE e = true then headB e ++ e.segs.flatMap segB else [] := rfl
  rw [hwr]
  have z1 : (⟨(headB e).toArray⟩ : ByteArray).size = 52 := by show (headB e).toArray.size = 52; simp [headB_len]
  have z2 : (⟨(e.segs.flatMap segB).toArray⟩ : ByteArray).size ≤ 100000 := by show (e.segs.flatMap segB).toArray.size ≤ 100000; rw [List.size_toArray, flat_len]; omega
  have hap := ba_app (headB e) (e.segs.flatMap segB)
  obtain ⟨ao, cap, rfl, s1, s2, s3, s4⟩ := hs
  unfold Ef.val at *
  clear hbl hz s4 s3 hwr hb he
  cases hf : fitE e with
  | true =>
    rw [hf] at K13
    rw [if_pos rfl, ← hap]
    generalize (⟨(headB e).toArray⟩ : ByteArray) = X at *
    generalize (⟨(e.segs.flatMap segB).toArray⟩ : ByteArray) = Y at *
    go_enter Tryz.func61, Tryz.ntmps61
    go_wp2_with fail
    refine K13.mono ?_
    rintro r w1 ⟨rfl, hb1⟩
    clear K13 q0 q1 q2 hW hap
    obtain ⟨p0, p1, p2⟩ := HQ.out w1 hb1
    go_wp2
    refine wp_region_slots (R := Ext) [⟨6, fun v _ => v = .agg #[.bool e.shared, .int .u32 (e.entry : Int), .slice ao e.segs.length cap], fun _ _ _ _ h => h⟩, ⟨7, fun v _ => v = .string X, fun _ _ _ _ h => h⟩, ⟨8, fun v _ => v = .pointer (some ⟨w.heap.size, 2, none⟩), fun _ _ _ _ h => h⟩, ⟨9, fun v _ => v = .slice ao e.segs.length cap, fun _ _ _ _ h => h⟩, ⟨10, fun v _ => v = .string Y, fun _ _ _ _ h => h⟩, ⟨11, fun v _ => v = .string (X ++ Y), fun _ _ _ _ h => h⟩, ⟨2, fun v _ => v = .string (X ++ Y), fun _ _ _ _ h => h⟩] _ (by kernel_rfl) rfl (by kernel_rfl) (Below.drew (Below.refl _ _)) (fun _ _ _ h1 h2 => below_tr h1 h2) (fun QQ => ⟨?_, ?_, ?_, ?_, ?_, ?_, ?_, trivial⟩) (fun f wy hR hf => ?_)
    · intro A wx hR hout hdep K hK
      have h1 : A.tmps[1]?.getD undef = .pointer (some ⟨w.heap.size, 0, none⟩) := hout 1 (by kernel_rfl)
      refine if_yes (by kernel_rfl) ?_
      have p0 := keep_cell hR p0
      have p1 := keep_cell hR p1
      have p2 := keep_cell hR p2
      simp [go_sem, h1, p0, p1, p2]
      exact hK.out _ _ (Below.refl _ _) rfl
    · intro A wx hR hout hdep K hK
      have h6 : A.tmps[6]?.getD undef = .agg #[.bool e.shared, .int .u32 (e.entry : Int), .slice ao e.segs.length cap] := hdep 6 (by kernel_rfl)
      refine if_yes (by kernel_rfl) ?_
      simp [go_sem, h6]
      refine (K28.out wx (below_tr hb1 hR)).mono ?_
      rintro e wG ⟨rfl, hbG⟩
      exact hK.out _ _ hbG rfl
    · intro A wx hR hout hdep K hK
      have h1 : A.tmps[1]?.getD undef = .pointer (some ⟨w.heap.size, 0, none⟩) := hout 1 (by kernel_rfl)
      refine if_yes (by kernel_rfl) ?_
      simp [go_sem, h1]
      exact hK.out _ _ (Below.refl _ _) rfl
    · intro A wx hR hout hdep K hK
      have h8 : A.tmps[8]?.getD undef = .pointer (some ⟨w.heap.size, 2, none⟩) := hdep 8 (by kernel_rfl)
      refine if_yes (by kernel_rfl) ?_
      have p0 := keep_cell hR p0
      have p1 := keep_cell hR p1
      have p2 := keep_cell hR p2
      simp [go_sem, h8, p0, p1, p2]
      exact hK.out _ _ (Below.refl _ _) rfl
    · intro A wx hR hout hdep K hK
      have h9 : A.tmps[9]?.getD undef = .slice ao e.segs.length cap := hdep 9 (by kernel_rfl)
      refine if_yes (by kernel_rfl) ?_
      simp [go_sem, h9]
      refine (K29.out wx (below_tr hb1 hR)).mono ?_
      rintro e wG ⟨rfl, hbG⟩
      exact hK.out _ _ hbG rfl
    · intro A wx hR hout hdep K hK
      have h7 : A.tmps[7]?.getD undef = .string X := hdep 7 (by kernel_rfl)
      have h10 : A.tmps[10]?.getD undef = .string Y := hdep 10 (by kernel_rfl)
      refine if_yes (by kernel_rfl) ?_
      simp [go_sem, h7, h10]
      rw [if_neg (by omega)]
      exact hK.out _ _ (Below.refl _ _) rfl
    · intro A wx hR hout hdep K hK
      have h11 : A.tmps[11]?.getD undef = .string (X ++ Y) := hdep 11 (by kernel_rfl)
      refine if_yes (by kernel_rfl) ?_
      simp [go_sem, h11]
      exact hK.out _ _ (Below.refl _ _) rfl
    have h2 : f 2 = .string (X ++ Y) := hf 2 (by kernel_rfl)
    simp only [putSl, Act.put, List.setIfInBounds_toArray, List.set_cons_zero, List.set_cons_succ, h2]
    go_wp2
    go_ret
    exact ⟨rfl, below_tr (below_tr HB.out hb1) hR⟩
  | false =>
    rw [hf] at K13
    rw [if_neg (by decide)]
    clear K28 K29 HQ
    go_enter Tryz.func61, Tryz.ntmps61
    go_wp2_with fail
    refine K13.mono ?_
    rintro r w1 ⟨rfl, hb1⟩
    go_wp2
    go_ret
    exact ⟨rfl, below_tr HB.out hb1⟩
end Go.Proofs.YtgdflobcbhnimaaGreat.E
