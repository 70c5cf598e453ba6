/- What is proved here: a header's bytes ahead of its segments: the program's. -/
import Derived.Test.YthhallhmolgpbaaWn
import Derived.Test.YthhallhmolgpbaaSl
namespace Go.Proofs.Ythhallhmolgpbaa
open Go.RowKit
set_option linter.unusedVariables false
set_option linter.unusedSimpArgs false
set_option maxRecDepth 100000
theorem flat1 (n x : Nat) : ([x].flatMap (bN n)) = bN n x := by simp
set_option maxHeartbeats 1000000 in
theorem head28 (e : Ef) (v : Value) (w : World) (hs : SlG w v e.segs) (he : e.entry < 4294967296) (hn : e.segs.length ≤ 1000000) :
    Calls Try.prog 28 #[e.val v] w fun r w' => r = .returned (.string ⟨(headB e).toArray⟩) ∧ Below w.heap.size w w' := by
  obtain ⟨W, hW, hbl, hz, q0, q1, q2⟩ := box3 w (.bool e.shared) (.int .u32 (e.entry : Int)) v 26
  obtain ⟨KD, hKD⟩ : ∃ KD : Nat, KD = if e.shared then 3 else 2 := ⟨_, rfl⟩
  obtain ⟨EN, hEN⟩ : ∃ EN : Nat, EN = e.entry := ⟨_, rfl⟩
  obtain ⟨LEN, hLEN⟩ : ∃ EN : Nat, EN = e.segs.length := ⟨_, rfl⟩
  obtain ⟨X8, h8⟩ : ∃ X : ByteArray, X = ⟨(bN 2 KD).toArray⟩ := ⟨_, rfl⟩
  obtain ⟨X10, h10⟩ : ∃ X : ByteArray, X = ⟨entL.toArray⟩ := ⟨_, rfl⟩
  obtain ⟨X15, h15⟩ : ∃ X : ByteArray, X = ⟨(bN 4 EN).toArray⟩ := ⟨_, rfl⟩
  obtain ⟨X17, h17⟩ : ∃ X : ByteArray, X = ⟨cntL.toArray⟩ := ⟨_, rfl⟩
  obtain ⟨X24, h24⟩ : ∃ X : ByteArray, X = ⟨(bN 2 LEN).toArray⟩ := ⟨_, rfl⟩
  obtain ⟨X26, h26⟩ : ∃ X : ByteArray, X = ⟨endL.toArray⟩ := ⟨_, rfl⟩
  have z8 : X8.size = 2 := by rw [h8]; show (bN 2 KD).toArray.size = 2; simp [bN_len]
  have z10 : X10.size = 6 := by rw [h10]; rfl
  have z15 : X15.size = 4 := by rw [h15]; show (bN 4 EN).toArray.size = 4; simp [bN_len]
  have z17 : X17.size = 16 := by rw [h17]; rfl
  have z24 : X24.size = 2 := by rw [h24]; show (bN 2 LEN).toArray.size = 2; simp [bN_len]
  have z26 : X26.size = 6 := by rw [h26]; rfl
  have HE : Hid ((⟨(headB e).toArray⟩ : ByteArray) = (⟨#[127, 69, 76, 70, 1, 2, 1, 0, 0, 0, 0, 0, 0, 0, 0, 0]⟩ : ByteArray) ++ X8 ++ X10 ++ X15 ++ X17 ++ X24 ++ X26) := by
    show _ = _
    rw [h8, h10, h15, h17, h24, h26, show (⟨#[127, 69, 76, 70, 1, 2, 1, 0, 0, 0, 0, 0, 0, 0, 0, 0]⟩ : ByteArray) = (⟨magicL.toArray⟩ : ByteArray) from rfl]
    simp only [ba_app]
    rw [hEN, hLEN, hKD]
    unfold headB
    simp only [List.append_assoc]
  have K8 : Hid (∀ v w', SlU w' v [KD] → Calls Try.prog 41 #[v] w' fun e w'' => e = .returned (.string X8) ∧ Below w'.heap.size w' w'') := fun v w' h => by
    rw [h8, ← flat1]; exact halves41 [KD] (by simp) v w' (by intro x hx; simp only [List.mem_singleton] at hx; rw [hx, hKD]; split <;> decide) h
  have K15 : Hid (∀ v w', SlU w' v [EN] → Calls Try.prog 43 #[v] w' fun e w'' => e = .returned (.string X15) ∧ Below w'.heap.size w' w'') := fun v w' h => by
    rw [h15, ← flat1]; exact words43 [EN] (by simp) v w' (by intro x hx; simp only [List.mem_singleton] at hx; rw [hx, hEN]; exact he) h
  have K24 : Hid (∀ v w', SlU w' v [LEN] → Calls Try.prog 41 #[v] w' fun e w'' => e = .returned (.string X24) ∧ Below w'.heap.size w' w'') := fun v w' h => by
    rw [h24, ← flat1]; exact halves41 [LEN] (by simp) v w' (by intro x hx; simp only [List.mem_singleton] at hx; rw [hx, hLEN]; omega) h
  have K10 : Hid (∀ w', Calls Try.prog 42 #[] w' fun e w'' => e = .returned (.string X10) ∧ Below w'.heap.size w' w'') := fun w' => by rw [h10]; exact atEntry42 w'
  have K17 : Hid (∀ w', Calls Try.prog 44 #[] w' fun e w'' => e = .returned (.string X17) ∧ Below w'.heap.size w' w'') := fun w' => by rw [h17]; exact atCount44 w'
  have K26 : Hid (∀ w', Calls Try.prog 45 #[] w' fun e w'' => e = .returned (.string X26) ∧ Below w'.heap.size w' w'') := fun w' => by rw [h26]; exact atEnd45 w'
  have HB : Hid (Below w.heap.size w W) := hbl
  obtain ⟨ao, cap, rfl, s1, s2, s3, s4⟩ := hs
  unfold Ef.val
  rw [← hEN] at q1 hW ⊢
  rw [← hLEN] at q2 hW s1 hn ⊢
  have eL : (LEN : Int) % 4294967296 = (LEN : Int) := by omega
  have eLw : IntKind.u32.wrap (LEN : Int) = (LEN : Int) := by rw [IntKind.wrap_u32]; exact eL
  clear hbl hz s4 s3 h8 h10 h15 h17 h24 h26 hEN hLEN he
  cases hsh : e.shared with
  | true =>
    rw [hsh] at q0 hW hKD
    have hKD : (3 : Int) = (KD : Int) := by rw [hKD]; rfl
    go_enter Try.func28, Try.ntmps28
    go_wp2
    rw [hKD]
    clear hKD q0
    refine wp_region_slots (R := Ext) [⟨6, fun v _ => v = .int .u32 (KD : Int), fun _ _ _ _ h => h⟩, ⟨7, fun v w => SlU w v [KD], fun _ _ _ h k => k.keep h⟩, ⟨8, fun v _ => v = .string X8, fun _ _ _ _ h => h⟩, ⟨9, fun v _ => v = .string ((⟨#[127, 69, 76, 70, 1, 2, 1, 0, 0, 0, 0, 0, 0, 0, 0, 0]⟩ : ByteArray) ++ X8), fun _ _ _ _ h => h⟩, ⟨10, fun v _ => v = .string X10, fun _ _ _ _ h => h⟩, ⟨11, fun v _ => v = .string ((⟨#[127, 69, 76, 70, 1, 2, 1, 0, 0, 0, 0, 0, 0, 0, 0, 0]⟩ : ByteArray) ++ X8 ++ X10), fun _ _ _ _ h => h⟩, ⟨12, fun v _ => v = .pointer (some ⟨w.heap.size, 1, none⟩), fun _ _ _ _ h => h⟩, ⟨13, fun v _ => v = .int .u32 (EN : Int), fun _ _ _ _ h => h⟩, ⟨14, fun v w => SlU w v [EN], fun _ _ _ h k => k.keep h⟩, ⟨15, fun v _ => v = .string X15, fun _ _ _ _ h => h⟩, ⟨16, fun v _ => v = .string ((⟨#[127, 69, 76, 70, 1, 2, 1, 0, 0, 0, 0, 0, 0, 0, 0, 0]⟩ : ByteArray) ++ X8 ++ X10 ++ X15), fun _ _ _ _ h => h⟩, ⟨17, fun v _ => v = .string X17, fun _ _ _ _ h => h⟩, ⟨18, fun v _ => v = .string ((⟨#[127, 69, 76, 70, 1, 2, 1, 0, 0, 0, 0, 0, 0, 0, 0, 0]⟩ : ByteArray) ++ X8 ++ X10 ++ X15 ++ X17), fun _ _ _ _ h => h⟩, ⟨19, fun v _ => v = .pointer (some ⟨w.heap.size, 2, none⟩), fun _ _ _ _ h => h⟩, ⟨20, fun v _ => v = .slice ao LEN cap, fun _ _ _ _ h => h⟩, ⟨21, fun v _ => v = .int .i64 (LEN : Int), fun _ _ _ _ h => h⟩, ⟨22, fun v _ => v = .int .u32 (LEN : Int), fun _ _ _ _ h => h⟩, ⟨23, fun v w => SlU w v [LEN], fun _ _ _ h k => k.keep h⟩, ⟨24, fun v _ => v = .string X24, fun _ _ _ _ h => h⟩, ⟨25, fun v _ => v = .string ((⟨#[127, 69, 76, 70, 1, 2, 1, 0, 0, 0, 0, 0, 0, 0, 0, 0]⟩ : ByteArray) ++ X8 ++ X10 ++ X15 ++ X17 ++ X24), fun _ _ _ _ h => h⟩, ⟨26, fun v _ => v = .string X26, fun _ _ _ _ h => h⟩, ⟨27, fun v _ => v = .string ((⟨#[127, 69, 76, 70, 1, 2, 1, 0, 0, 0, 0, 0, 0, 0, 0, 0]⟩ : ByteArray) ++ X8 ++ X10 ++ X15 ++ X17 ++ X24 ++ X26), fun _ _ _ _ h => h⟩, ⟨2, fun v _ => v = .string ((⟨#[127, 69, 76, 70, 1, 2, 1, 0, 0, 0, 0, 0, 0, 0, 0, 0]⟩ : ByteArray) ++ X8 ++ X10 ++ X15 ++ X17 ++ X24 ++ X26), fun _ _ _ _ h => h⟩] _ (by kernel_rfl) rfl (by kernel_rfl) (Below.drew (Below.refl _ _)) (fun _ _ _ h1 h2 => below_tr h1 h2) (fun QQ => ⟨?_, ?_, ?_, ?_, ?_, ?_, ?_, ?_, ?_, ?_, ?_, ?_, ?_, ?_, ?_, ?_, ?_, ?_, ?_, ?_, ?_, ?_, ?_, trivial⟩) (fun f wy hR hf => ?_)
    · intro A wx hR hout hdep K hK
      have h3 : A.tmps[3]?.getD undef = .int .u32 (KD : Int) := hout 3 (by kernel_rfl)
      refine if_yes (by kernel_rfl) ?_
      simp [go_sem, h3, eL, eLw, z8, z10, z15, z17, z24, z26]
      exact hK.out _ _ (Below.refl _ _) rfl
    · intro A wx hR hout hdep K hK
      have h6 : A.tmps[6]?.getD undef = .int .u32 (KD : Int) := hdep 6 (by kernel_rfl)
      refine if_yes (by kernel_rfl) ?_
      simp [go_sem, h6, eL, eLw, z8, z10, z15, z17, z24, z26]
      exact hK.out _ _ ((Below.refl _ _).alloc (Nat.le_refl _) _) (SlU.new wx [KD] _ rfl _ rfl (by simp))
    · intro A wx hR hout hdep K hK
      have h7 := hdep 7 (by kernel_rfl)
      refine if_yes (by kernel_rfl) ?_
      simp [go_sem, eL, eLw, z8, z10, z15, z17, z24, z26]
      refine (K8.out _ wx h7).mono ?_
      rintro e wG ⟨rfl, hbG⟩
      exact hK.out _ _ hbG rfl
    · intro A wx hR hout hdep K hK
      have h8 : A.tmps[8]?.getD undef = .string X8 := hdep 8 (by kernel_rfl)
      refine if_yes (by kernel_rfl) ?_
      simp [go_sem, h8, eL, eLw, z8, z10, z15, z17, z24, z26]
      exact hK.out _ _ (Below.refl _ _) rfl
    · intro A wx hR hout hdep K hK
      refine if_yes (by kernel_rfl) ?_
      simp [go_sem, eL, eLw, z8, z10, z15, z17, z24, z26]
      refine (K10.out wx).mono ?_
      rintro e wG ⟨rfl, hbG⟩
      exact hK.out _ _ hbG rfl
    · intro A wx hR hout hdep K hK
      have h9 : A.tmps[9]?.getD undef = .string ((⟨#[127, 69, 76, 70, 1, 2, 1, 0, 0, 0, 0, 0, 0, 0, 0, 0]⟩ : ByteArray) ++ X8) := hdep 9 (by kernel_rfl)
      have h10 : A.tmps[10]?.getD undef = .string X10 := hdep 10 (by kernel_rfl)
      refine if_yes (by kernel_rfl) ?_
      simp [go_sem, h9, h10, eL, eLw, z8, z10, z15, z17, z24, z26]
      exact hK.out _ _ (Below.refl _ _) rfl
    · intro A wx hR hout hdep K hK
      have h1 : A.tmps[1]?.getD undef = .pointer (some ⟨w.heap.size, 0, none⟩) := hout 1 (by kernel_rfl)
      refine if_yes (by kernel_rfl) ?_
      simp [go_sem, h1, eL, eLw, z8, z10, z15, z17, z24, z26]
      exact hK.out _ _ (Below.refl _ _) rfl
    · intro A wx hR hout hdep K hK
      have h12 : A.tmps[12]?.getD undef = .pointer (some ⟨w.heap.size, 1, none⟩) := hdep 12 (by kernel_rfl)
      refine if_yes (by kernel_rfl) ?_
      have q1 := keep_cell hR q1
      have q2 := keep_cell hR q2
      simp [go_sem, h12, q1, q2, eL, eLw, z8, z10, z15, z17, z24, z26]
      exact hK.out _ _ (Below.refl _ _) rfl
    · intro A wx hR hout hdep K hK
      have h13 : A.tmps[13]?.getD undef = .int .u32 (EN : Int) := hdep 13 (by kernel_rfl)
      refine if_yes (by kernel_rfl) ?_
      simp [go_sem, h13, eL, eLw, z8, z10, z15, z17, z24, z26]
      exact hK.out _ _ ((Below.refl _ _).alloc (Nat.le_refl _) _) (SlU.new wx [EN] _ rfl _ rfl (by simp))
    · intro A wx hR hout hdep K hK
      have h14 := hdep 14 (by kernel_rfl)
      refine if_yes (by kernel_rfl) ?_
      simp [go_sem, eL, eLw, z8, z10, z15, z17, z24, z26]
      refine (K15.out _ wx h14).mono ?_
      rintro e wG ⟨rfl, hbG⟩
      exact hK.out _ _ hbG rfl
    · intro A wx hR hout hdep K hK
      have h11 : A.tmps[11]?.getD undef = .string ((⟨#[127, 69, 76, 70, 1, 2, 1, 0, 0, 0, 0, 0, 0, 0, 0, 0]⟩ : ByteArray) ++ X8 ++ X10) := hdep 11 (by kernel_rfl)
      have h15 : A.tmps[15]?.getD undef = .string X15 := hdep 15 (by kernel_rfl)
      refine if_yes (by kernel_rfl) ?_
      simp [go_sem, h11, h15, eL, eLw, z8, z10, z15, z17, z24, z26]
      exact hK.out _ _ (Below.refl _ _) rfl
    · intro A wx hR hout hdep K hK
      refine if_yes (by kernel_rfl) ?_
      simp [go_sem, eL, eLw, z8, z10, z15, z17, z24, z26]
      refine (K17.out wx).mono ?_
      rintro e wG ⟨rfl, hbG⟩
      exact hK.out _ _ hbG rfl
    · intro A wx hR hout hdep K hK
      have h16 : A.tmps[16]?.getD undef = .string ((⟨#[127, 69, 76, 70, 1, 2, 1, 0, 0, 0, 0, 0, 0, 0, 0, 0]⟩ : ByteArray) ++ X8 ++ X10 ++ X15) := hdep 16 (by kernel_rfl)
      have h17 : A.tmps[17]?.getD undef = .string X17 := hdep 17 (by kernel_rfl)
      refine if_yes (by kernel_rfl) ?_
      simp [go_sem, h16, h17, eL, eLw, z8, z10, z15, z17, z24, z26]
      exact hK.out _ _ (Below.refl _ _) rfl
    · intro A wx hR hout hdep K hK
      have h1 : A.tmps[1]?.getD undef = .pointer (some ⟨w.heap.size, 0, none⟩) := hout 1 (by kernel_rfl)
      refine if_yes (by kernel_rfl) ?_
      simp [go_sem, h1, eL, eLw, z8, z10, z15, z17, z24, z26]
      exact hK.out _ _ (Below.refl _ _) rfl
    · intro A wx hR hout hdep K hK
      have h19 : A.tmps[19]?.getD undef = .pointer (some ⟨w.heap.size, 2, none⟩) := hdep 19 (by kernel_rfl)
      refine if_yes (by kernel_rfl) ?_
      have q1 := keep_cell hR q1
      have q2 := keep_cell hR q2
      simp [go_sem, h19, q1, q2, eL, eLw, z8, z10, z15, z17, z24, z26]
      exact hK.out _ _ (Below.refl _ _) rfl
    · intro A wx hR hout hdep K hK
      have h20 : A.tmps[20]?.getD undef = .slice ao LEN cap := hdep 20 (by kernel_rfl)
      refine if_yes (by kernel_rfl) ?_
      simp [go_sem, h20, eL, eLw, z8, z10, z15, z17, z24, z26]
      exact hK.out _ _ (Below.refl _ _) rfl
    · intro A wx hR hout hdep K hK
      have h21 : A.tmps[21]?.getD undef = .int .i64 (LEN : Int) := hdep 21 (by kernel_rfl)
      refine if_yes (by kernel_rfl) ?_
      simp [go_sem, h21, eL, eLw, z8, z10, z15, z17, z24, z26]
      exact hK.out _ _ (Below.refl _ _) rfl
    · intro A wx hR hout hdep K hK
      have h22 : A.tmps[22]?.getD undef = .int .u32 (LEN : Int) := hdep 22 (by kernel_rfl)
      refine if_yes (by kernel_rfl) ?_
      simp [go_sem, h22, eL, eLw, z8, z10, z15, z17, z24, z26]
      exact hK.out _ _ ((Below.refl _ _).alloc (Nat.le_refl _) _) (SlU.new wx [LEN] _ rfl _ rfl (by simp))
    · intro A wx hR hout hdep K hK
      have h23 := hdep 23 (by kernel_rfl)
      refine if_yes (by kernel_rfl) ?_
      simp [go_sem, eL, eLw, z8, z10, z15, z17, z24, z26]
      refine (K24.out _ wx h23).mono ?_
      rintro e wG ⟨rfl, hbG⟩
      exact hK.out _ _ hbG rfl
    · intro A wx hR hout hdep K hK
      have h18 : A.tmps[18]?.getD undef = .string ((⟨#[127, 69, 76, 70, 1, 2, 1, 0, 0, 0, 0, 0, 0, 0, 0, 0]⟩ : ByteArray) ++ X8 ++ X10 ++ X15 ++ X17) := hdep 18 (by kernel_rfl)
      have h24 : A.tmps[24]?.getD undef = .string X24 := hdep 24 (by kernel_rfl)
      refine if_yes (by kernel_rfl) ?_
      simp [go_sem, h18, h24, eL, eLw, z8, z10, z15, z17, z24, z26]
      exact hK.out _ _ (Below.refl _ _) rfl
    · intro A wx hR hout hdep K hK
      refine if_yes (by kernel_rfl) ?_
      simp [go_sem, eL, eLw, z8, z10, z15, z17, z24, z26]
      refine (K26.out wx).mono ?_
      rintro e wG ⟨rfl, hbG⟩
      exact hK.out _ _ hbG rfl
    · intro A wx hR hout hdep K hK
      have h25 : A.tmps[25]?.getD undef = .string ((⟨#[127, 69, 76, 70, 1, 2, 1, 0, 0, 0, 0, 0, 0, 0, 0, 0]⟩ : ByteArray) ++ X8 ++ X10 ++ X15 ++ X17 ++ X24) := hdep 25 (by kernel_rfl)
      have h26 : A.tmps[26]?.getD undef = .string X26 := hdep 26 (by kernel_rfl)
      refine if_yes (by kernel_rfl) ?_
      simp [go_sem, h25, h26, eL, eLw, z8, z10, z15, z17, z24, z26]
      exact hK.out _ _ (Below.refl _ _) rfl
    · intro A wx hR hout hdep K hK
      have h27 : A.tmps[27]?.getD undef = .string ((⟨#[127, 69, 76, 70, 1, 2, 1, 0, 0, 0, 0, 0, 0, 0, 0, 0]⟩ : ByteArray) ++ X8 ++ X10 ++ X15 ++ X17 ++ X24 ++ X26) := hdep 27 (by kernel_rfl)
      refine if_yes (by kernel_rfl) ?_
      simp [go_sem, h27, eL, eLw, z8, z10, z15, z17, z24, z26]
      exact hK.out _ _ (Below.refl _ _) rfl
    have h2 : f 2 = .string ((⟨#[127, 69, 76, 70, 1, 2, 1, 0, 0, 0, 0, 0, 0, 0, 0, 0]⟩ : ByteArray) ++ X8 ++ X10 ++ X15 ++ X17 ++ X24 ++ X26) := hf 2 (by kernel_rfl)
    simp only [putSl, Act.put, List.setIfInBounds_toArray, List.set_cons_zero, List.set_cons_succ, h2]
    go_wp2
    go_ret
    exact ⟨by rw [HE.out]; rfl, below_tr HB.out hR⟩
  | false =>
    rw [hsh] at q0 hW hKD
    have hKD : (2 : Int) = (KD : Int) := by rw [hKD]; rfl
    go_enter Try.func28, Try.ntmps28
    go_wp2
    rw [hKD]
    clear hKD q0
    refine wp_region_slots (R := Ext) [⟨6, fun v _ => v = .int .u32 (KD : Int), fun _ _ _ _ h => h⟩, ⟨7, fun v w => SlU w v [KD], fun _ _ _ h k => k.keep h⟩, ⟨8, fun v _ => v = .string X8, fun _ _ _ _ h => h⟩, ⟨9, fun v _ => v = .string ((⟨#[127, 69, 76, 70, 1, 2, 1, 0, 0, 0, 0, 0, 0, 0, 0, 0]⟩ : ByteArray) ++ X8), fun _ _ _ _ h => h⟩, ⟨10, fun v _ => v = .string X10, fun _ _ _ _ h => h⟩, ⟨11, fun v _ => v = .string ((⟨#[127, 69, 76, 70, 1, 2, 1, 0, 0, 0, 0, 0, 0, 0, 0, 0]⟩ : ByteArray) ++ X8 ++ X10), fun _ _ _ _ h => h⟩, ⟨12, fun v _ => v = .pointer (some ⟨w.heap.size, 1, none⟩), fun _ _ _ _ h => h⟩, ⟨13, fun v _ => v = .int .u32 (EN : Int), fun _ _ _ _ h => h⟩, ⟨14, fun v w => SlU w v [EN], fun _ _ _ h k => k.keep h⟩, ⟨15, fun v _ => v = .string X15, fun _ _ _ _ h => h⟩, ⟨16, fun v _ => v = .string ((⟨#[127, 69, 76, 70, 1, 2, 1, 0, 0, 0, 0, 0, 0, 0, 0, 0]⟩ : ByteArray) ++ X8 ++ X10 ++ X15), fun _ _ _ _ h => h⟩, ⟨17, fun v _ => v = .string X17, fun _ _ _ _ h => h⟩, ⟨18, fun v _ => v = .string ((⟨#[127, 69, 76, 70, 1, 2, 1, 0, 0, 0, 0, 0, 0, 0, 0, 0]⟩ : ByteArray) ++ X8 ++ X10 ++ X15 ++ X17), fun _ _ _ _ h => h⟩, ⟨19, fun v _ => v = .pointer (some ⟨w.heap.size, 2, none⟩), fun _ _ _ _ h => h⟩, ⟨20, fun v _ => v = .slice ao LEN cap, fun _ _ _ _ h => h⟩, ⟨21, fun v _ => v = .int .i64 (LEN : Int), fun _ _ _ _ h => h⟩, ⟨22, fun v _ => v = .int .u32 (LEN : Int), fun _ _ _ _ h => h⟩, ⟨23, fun v w => SlU w v [LEN], fun _ _ _ h k => k.keep h⟩, ⟨24, fun v _ => v = .string X24, fun _ _ _ _ h => h⟩, ⟨25, fun v _ => v = .string ((⟨#[127, 69, 76, 70, 1, 2, 1, 0, 0, 0, 0, 0, 0, 0, 0, 0]⟩ : ByteArray) ++ X8 ++ X10 ++ X15 ++ X17 ++ X24), fun _ _ _ _ h => h⟩, ⟨26, fun v _ => v = .string X26, fun _ _ _ _ h => h⟩, ⟨27, fun v _ => v = .string ((⟨#[127, 69, 76, 70, 1, 2, 1, 0, 0, 0, 0, 0, 0, 0, 0, 0]⟩ : ByteArray) ++ X8 ++ X10 ++ X15 ++ X17 ++ X24 ++ X26), fun _ _ _ _ h => h⟩, ⟨2, fun v _ => v = .string ((⟨#[127, 69, 76, 70, 1, 2, 1, 0, 0, 0, 0, 0, 0, 0, 0, 0]⟩ : ByteArray) ++ X8 ++ X10 ++ X15 ++ X17 ++ X24 ++ X26), fun _ _ _ _ h => h⟩] _ (by kernel_rfl) rfl (by kernel_rfl) (Below.drew (Below.refl _ _)) (fun _ _ _ h1 h2 => below_tr h1 h2) (fun QQ => ⟨?_, ?_, ?_, ?_, ?_, ?_, ?_, ?_, ?_, ?_, ?_, ?_, ?_, ?_, ?_, ?_, ?_, ?_, ?_, ?_, ?_, ?_, ?_, trivial⟩) (fun f wy hR hf => ?_)
    · intro A wx hR hout hdep K hK
      have h3 : A.tmps[3]?.getD undef = .int .u32 (KD : Int) := hout 3 (by kernel_rfl)
      refine if_yes (by kernel_rfl) ?_
      simp [go_sem, h3, eL, eLw, z8, z10, z15, z17, z24, z26]
      exact hK.out _ _ (Below.refl _ _) rfl
    · intro A wx hR hout hdep K hK
      have h6 : A.tmps[6]?.getD undef = .int .u32 (KD : Int) := hdep 6 (by kernel_rfl)
      refine if_yes (by kernel_rfl) ?_
      simp [go_sem, h6, eL, eLw, z8, z10, z15, z17, z24, z26]
      exact hK.out _ _ ((Below.refl _ _).alloc (Nat.le_refl _) _) (SlU.new wx [KD] _ rfl _ rfl (by simp))
    · intro A wx hR hout hdep K hK
      have h7 := hdep 7 (by kernel_rfl)
      refine if_yes (by kernel_rfl) ?_
      simp [go_sem, eL, eLw, z8, z10, z15, z17, z24, z26]
      refine (K8.out _ wx h7).mono ?_
      rintro e wG ⟨rfl, hbG⟩
      exact hK.out _ _ hbG rfl
    · intro A wx hR hout hdep K hK
      have h8 : A.tmps[8]?.getD undef = .string X8 := hdep 8 (by kernel_rfl)
      refine if_yes (by kernel_rfl) ?_
      simp [go_sem, h8, eL, eLw, z8, z10, z15, z17, z24, z26]
      exact hK.out _ _ (Below.refl _ _) rfl
    · intro A wx hR hout hdep K hK
      refine if_yes (by kernel_rfl) ?_
      simp [go_sem, eL, eLw, z8, z10, z15, z17, z24, z26]
      refine (K10.out wx).mono ?_
      rintro e wG ⟨rfl, hbG⟩
      exact hK.out _ _ hbG rfl
    · intro A wx hR hout hdep K hK
      have h9 : A.tmps[9]?.getD undef = .string ((⟨#[127, 69, 76, 70, 1, 2, 1, 0, 0, 0, 0, 0, 0, 0, 0, 0]⟩ : ByteArray) ++ X8) := hdep 9 (by kernel_rfl)
      have h10 : A.tmps[10]?.getD undef = .string X10 := hdep 10 (by kernel_rfl)
      refine if_yes (by kernel_rfl) ?_
      simp [go_sem, h9, h10, eL, eLw, z8, z10, z15, z17, z24, z26]
      exact hK.out _ _ (Below.refl _ _) rfl
    · intro A wx hR hout hdep K hK
      have h1 : A.tmps[1]?.getD undef = .pointer (some ⟨w.heap.size, 0, none⟩) := hout 1 (by kernel_rfl)
      refine if_yes (by kernel_rfl) ?_
      simp [go_sem, h1, eL, eLw, z8, z10, z15, z17, z24, z26]
      exact hK.out _ _ (Below.refl _ _) rfl
    · intro A wx hR hout hdep K hK
      have h12 : A.tmps[12]?.getD undef = .pointer (some ⟨w.heap.size, 1, none⟩) := hdep 12 (by kernel_rfl)
      refine if_yes (by kernel_rfl) ?_
      have q1 := keep_cell hR q1
      have q2 := keep_cell hR q2
      simp [go_sem, h12, q1, q2, eL, eLw, z8, z10, z15, z17, z24, z26]
      exact hK.out _ _ (Below.refl _ _) rfl
    · intro A wx hR hout hdep K hK
      have h13 : A.tmps[13]?.getD undef = .int .u32 (EN : Int) := hdep 13 (by kernel_rfl)
      refine if_yes (by kernel_rfl) ?_
      simp [go_sem, h13, eL, eLw, z8, z10, z15, z17, z24, z26]
      exact hK.out _ _ ((Below.refl _ _).alloc (Nat.le_refl _) _) (SlU.new wx [EN] _ rfl _ rfl (by simp))
    · intro A wx hR hout hdep K hK
      have h14 := hdep 14 (by kernel_rfl)
      refine if_yes (by kernel_rfl) ?_
      simp [go_sem, eL, eLw, z8, z10, z15, z17, z24, z26]
      refine (K15.out _ wx h14).mono ?_
      rintro e wG ⟨rfl, hbG⟩
      exact hK.out _ _ hbG rfl
    · intro A wx hR hout hdep K hK
      have h11 : A.tmps[11]?.getD undef = .string ((⟨#[127, 69, 76, 70, 1, 2, 1, 0, 0, 0, 0, 0, 0, 0, 0, 0]⟩ : ByteArray) ++ X8 ++ X10) := hdep 11 (by kernel_rfl)
      have h15 : A.tmps[15]?.getD undef = .string X15 := hdep 15 (by kernel_rfl)
      refine if_yes (by kernel_rfl) ?_
      simp [go_sem, h11, h15, eL, eLw, z8, z10, z15, z17, z24, z26]
      exact hK.out _ _ (Below.refl _ _) rfl
    · intro A wx hR hout hdep K hK
      refine if_yes (by kernel_rfl) ?_
      simp [go_sem, eL, eLw, z8, z10, z15, z17, z24, z26]
      refine (K17.out wx).mono ?_
      rintro e wG ⟨rfl, hbG⟩
      exact hK.out _ _ hbG rfl
    · intro A wx hR hout hdep K hK
      have h16 : A.tmps[16]?.getD undef = .string ((⟨#[127, 69, 76, 70, 1, 2, 1, 0, 0, 0, 0, 0, 0, 0, 0, 0]⟩ : ByteArray) ++ X8 ++ X10 ++ X15) := hdep 16 (by kernel_rfl)
      have h17 : A.tmps[17]?.getD undef = .string X17 := hdep 17 (by kernel_rfl)
      refine if_yes (by kernel_rfl) ?_
      simp [go_sem, h16, h17, eL, eLw, z8, z10, z15, z17, z24, z26]
      exact hK.out _ _ (Below.refl _ _) rfl
    · intro A wx hR hout hdep K hK
      have h1 : A.tmps[1]?.getD undef = .pointer (some ⟨w.heap.size, 0, none⟩) := hout 1 (by kernel_rfl)
      refine if_yes (by kernel_rfl) ?_
      simp [go_sem, h1, eL, eLw, z8, z10, z15, z17, z24, z26]
      exact hK.out _ _ (Below.refl _ _) rfl
    · intro A wx hR hout hdep K hK
      have h19 : A.tmps[19]?.getD undef = .pointer (some ⟨w.heap.size, 2, none⟩) := hdep 19 (by kernel_rfl)
      refine if_yes (by kernel_rfl) ?_
      have q1 := keep_cell hR q1
      have q2 := keep_cell hR q2
      simp [go_sem, h19, q1, q2, eL, eLw, z8, z10, z15, z17, z24, z26]
      exact hK.out _ _ (Below.refl _ _) rfl
    · intro A wx hR hout hdep K hK
      have h20 : A.tmps[20]?.getD undef = .slice ao LEN cap := hdep 20 (by kernel_rfl)
      refine if_yes (by kernel_rfl) ?_
      simp [go_sem, h20, eL, eLw, z8, z10, z15, z17, z24, z26]
      exact hK.out _ _ (Below.refl _ _) rfl
    · intro A wx hR hout hdep K hK
      have h21 : A.tmps[21]?.getD undef = .int .i64 (LEN : Int) := hdep 21 (by kernel_rfl)
      refine if_yes (by kernel_rfl) ?_
      simp [go_sem, h21, eL, eLw, z8, z10, z15, z17, z24, z26]
      exact hK.out _ _ (Below.refl _ _) rfl
    · intro A wx hR hout hdep K hK
      have h22 : A.tmps[22]?.getD undef = .int .u32 (LEN : Int) := hdep 22 (by kernel_rfl)
      refine if_yes (by kernel_rfl) ?_
      simp [go_sem, h22, eL, eLw, z8, z10, z15, z17, z24, z26]
      exact hK.out _ _ ((Below.refl _ _).alloc (Nat.le_refl _) _) (SlU.new wx [LEN] _ rfl _ rfl (by simp))
    · intro A wx hR hout hdep K hK
      have h23 := hdep 23 (by kernel_rfl)
      refine if_yes (by kernel_rfl) ?_
      simp [go_sem, eL, eLw, z8, z10, z15, z17, z24, z26]
      refine (K24.out _ wx h23).mono ?_
      rintro e wG ⟨rfl, hbG⟩
      exact hK.out _ _ hbG rfl
    · intro A wx hR hout hdep K hK
      have h18 : A.tmps[18]?.getD undef = .string ((⟨#[127, 69, 76, 70, 1, 2, 1, 0, 0, 0, 0, 0, 0, 0, 0, 0]⟩ : ByteArray) ++ X8 ++ X10 ++ X15 ++ X17) := hdep 18 (by kernel_rfl)
      have h24 : A.tmps[24]?.getD undef = .string X24 := hdep 24 (by kernel_rfl)
      refine if_yes (by kernel_rfl) ?_
      simp [go_sem, h18, h24, eL, eLw, z8, z10, z15, z17, z24, z26]
      exact hK.out _ _ (Below.refl _ _) rfl
    · intro A wx hR hout hdep K hK
      refine if_yes (by kernel_rfl) ?_
      simp [go_sem, eL, eLw, z8, z10, z15, z17, z24, z26]
      refine (K26.out wx).mono ?_
      rintro e wG ⟨rfl, hbG⟩
      exact hK.out _ _ hbG rfl
    · intro A wx hR hout hdep K hK
      have h25 : A.tmps[25]?.getD undef = .string ((⟨#[127, 69, 76, 70, 1, 2, 1, 0, 0, 0, 0, 0, 0, 0, 0, 0]⟩ : ByteArray) ++ X8 ++ X10 ++ X15 ++ X17 ++ X24) := hdep 25 (by kernel_rfl)
      have h26 : A.tmps[26]?.getD undef = .string X26 := hdep 26 (by kernel_rfl)
      refine if_yes (by kernel_rfl) ?_
      simp [go_sem, h25, h26, eL, eLw, z8, z10, z15, z17, z24, z26]
      exact hK.out _ _ (Below.refl _ _) rfl
    · intro A wx hR hout hdep K hK
      have h27 : A.tmps[27]?.getD undef = .string ((⟨#[127, 69, 76, 70, 1, 2, 1, 0, 0, 0, 0, 0, 0, 0, 0, 0]⟩ : ByteArray) ++ X8 ++ X10 ++ X15 ++ X17 ++ X24 ++ X26) := hdep 27 (by kernel_rfl)
      refine if_yes (by kernel_rfl) ?_
      simp [go_sem, h27, eL, eLw, z8, z10, z15, z17, z24, z26]
      exact hK.out _ _ (Below.refl _ _) rfl
    have h2 : f 2 = .string ((⟨#[127, 69, 76, 70, 1, 2, 1, 0, 0, 0, 0, 0, 0, 0, 0, 0]⟩ : ByteArray) ++ X8 ++ X10 ++ X15 ++ X17 ++ X24 ++ X26) := hf 2 (by kernel_rfl)
    simp only [putSl, Act.put, List.setIfInBounds_toArray, List.set_cons_zero, List.set_cons_succ, h2]
    go_wp2
    go_ret
    exact ⟨by rw [HE.out]; rfl, below_tr HB.out hR⟩
end Go.Proofs.Ythhallhmolgpbaa
